/-
  The law's few, short, Told, by their contracts. Conditions: each theorem's own premises.
-/
import Derived.Test.YthgiehlfmdobkaaDoorPvmIs
import Derived.Great.BuildSlice
import Derived.Deep.RegionHeld
namespace Go.Proofs.YthgiehlfmdobkaaDoor
open Go.RowKit

def cutM (M : Mach) (k : Nat) : Mach := { M with mem := M.mem.take k }
/-- a machine whose words are the call's own -/
def MPost (w : World) (M : Mach) (e : Ending) (w' : World) : Prop := ∃ A c, e = .returned (mv M A M.mem.length c) ∧ w'.ownsRow w.heap.size 2 1 (.slice A M.mem.length c) M.mem.length (zv M.mem) ∧ Below w.heap.size w w'

theorem size_alloc1 (w : World) (o : Obj) : (w.alloc o).heap.size = w.heap.size + 1 := by simp
theorem blk2 (w : World) (o : Obj) (t : TypeId) (cs : Array Value) : Blk ((w.alloc o).alloc (.cells cs t)) (w.heap.size + 1) t cs := by
  have h := Blk.new (w.alloc o) t cs
  rwa [size_alloc1] at h
theorem below2 (w : World) (o o2 : Obj) : Below w.heap.size w ((w.alloc o).alloc o2) := (below_alloc w o).alloc (by simp) o2
theorem wp_append_one {P : Program} (w : World) {o : Oper} {a : Act} {K : Act → World → Prop} {Q : Exit → Act → World → Prop} (s x : Operand) (t : TypeId)
    (ho : o.op = .call { callee := .builtin .append, args := #[s, x], argTypes := #[t, t] })
    (base : Nat) (e : TypeId) (i : TypeInfo) (z : Value) (size bytes : Nat) (ht : P.underlying t = some (.slice e)) (hi : P.info? e = some i) (hz : i.zero = some z)
    (hsize : i.size = size) (hby : i.bytes = bytes) (hzs : z.cells.size = size) (hsz : 0 < size)
    (v : Value) (n : Nat) (xs : List Value) (hs : a.eval s = v) (hown : w.ownsRow base e size v n xs)
    (B : Nat) (A : Option Addr) (c m : Nat) (news : List Value) (hx : a.eval x = .slice A m c) (hr : Vs w B A news) (hl : news.length = m * size) (h1 : ∀ u ∈ news, u.oneCell' = true)
    (hbytes : (n + m) * bytes ≤ 140737488355328) (h63 : n + m ≤ maxLen) (hbase : base ≤ w.heap.size)
    (h : ∀ v' w', w'.ownsRow base e size v' (n + m) (xs ++ news) → w.grownBy w' v.ownBlock → (v'.ownBlock = v.ownBlock ∨ v'.ownBlock = some w.heap.size) → K (a.put o.dst v') w') : o.wp P a w K Q := by
  obtain ⟨v', w', hr, h2, h3, h4⟩ := run_append_row (P := P) w base t o.type e i z size bytes ht hi hz hsize hby hzs hsz v n xs hown B A c m news hr hl h1 hbytes h63 hbase
  unfold Oper.wp execOp
  simp only [ho, resolve, invoke, builtin, Sem.run_bind, Sem.run_pure, Result.andThen_ok, List.map_toArray, List.map_cons, List.map_nil, hs, hx, hr]
  exact h v' w' h2 h3 h4
theorem wp_store_one {P : Program} {w : World} {o : Oper} {a : Act} {K : Act → World → Prop} {Q : Exit → Act → World → Prop} (ty : TypeId) (x y : Operand) (ho : o.op = .store ty x y)
    (g : Nat) (cells : List Value) (hx : a.eval x = .pointer (some ⟨g, 0, none⟩)) (hy : a.eval y = .agg cells.toArray)
    (t : TypeId) (old : List Value) (hg : Blk w g t old.toArray) (hi : (P.info? ty).map (·.size) = some cells.length) (hfit : old.length = cells.length) (h1 : ∀ v ∈ cells, v.oneCell' = true)
    (h : ∀ w', Blk w' g t cells.toArray → w.grownBy w' (some g) → K (a.put o.dst undef) w') : o.wp P a w K Q := by
  obtain ⟨w', hrun, h2, h3⟩ := run_storeVar_at (P := P) g 0 ty t old cells hg hi (by omega) h1
  rw [splice_whole _ _ hfit] at h2
  unfold Oper.wp execOp
  simp only [ho, hx, hy, Instr.storeAt, Instr.sureAddr, Sem.run_bind, Sem.run_pure, Result.andThen_ok, hrun]
  exact h w' h2 h3
theorem row_base {w : World} {base base' n size : Nat} {e : TypeId} {v : Value} {vs : List Value} (h : w.ownsRow base e size v n vs) (hb : base' ≤ base) : w.ownsRow base' e size v n vs := by
  refine ⟨h.1, ?_⟩
  rcases h.2 with h2 | ⟨g, cap, cur, hv, hg, hr⟩
  · exact .inl h2
  · exact .inr ⟨g, cap, cur, hv, by omega, hr⟩
theorem mach_size : (Tryd.prog.info? 27).map (·.size) = some 12 := by kernel_rfl
theorem rmach_size : (Tryd.prog.info? 30).map (·.size) = some 12 := by kernel_rfl

set_option maxRecDepth 100000 in
set_option maxHeartbeats 4000000 in
set_option linter.unusedSimpArgs false in
theorem fewM (M : Mach) (A : Option Addr) (n c k : Nat) (hk : min n 66 = k) (hn : n ≤ 9223372036854775807) (hc : n ≤ c) (w : World) :
    Calls Tryd.prog 13 #[mv M A n c] w (Says w (mv M A k c)) := by
  unfold mv
  by_cases h : n > 66
  · obtain rfl : k = 66 := by omega
    have hi : (n : Int) > 66 := by omega
    have hci : (66 : Int) ≤ (c : Int) := by omega
    have hcn : 66 ≤ c := by omega
    go_enter Tryd.func13, Tryd.ntmps13
    go_wp2_with fail
    exact bodyPost_row rfl (w.heap.size + 1) rfl 27 _ _ (blk2 w _ _ _) Tryd.underlying27 rfl mach_size rfl ⟨rfl, below2 w _ _⟩
  · obtain rfl : k = n := by omega
    have hi : ¬ (k : Int) > 66 := by omega
    go_enter Tryd.func13, Tryd.ntmps13
    go_wp2_with fail
    exact bodyPost_row rfl (w.heap.size + 1) rfl 27 _ _ (blk2 w _ _ _) Tryd.underlying27 rfl mach_size rfl ⟨rfl, below2 w _ _⟩
theorem lawShort (A : Option Addr) (n cp : Nat) (hn : n ≤ 9223372036854775807) (hnc : n ≤ cp) (w : World) : Calls Tryd.prog 12 #[.slice A n cp] w fun e w' => e = .returned (.slice A (min n 130) cp) ∧ w = w' := by
  obtain ⟨m, em⟩ : ∃ m, min n 130 = m := ⟨_, rfl⟩
  rw [em]
  by_cases h : 130 < n
  · obtain rfl : m = 130 := by omega
    have hi : (n : Int) > 130 := by omega
    have hc : (130 : Int) ≤ (cp : Int) := by omega
    clear em
    go_enter Tryd.func12, Tryd.ntmps12
    go_wp2_with fail
    go_ret
    exact ⟨rfl, rfl⟩
  · obtain rfl : m = n := by omega
    have hi : ¬ (m : Int) > 130 := by omega
    clear em
    go_enter Tryd.func12, Tryd.ntmps12
    go_wp2_with fail
    go_ret
    exact ⟨rfl, rfl⟩

set_option maxRecDepth 100000 in
set_option maxHeartbeats 4000000 in
set_option linter.unusedSimpArgs false in
theorem told (M : Mach) (A : Option Addr) (n c : Nat) (hn : M.mem.length = n) (hl : n ≤ 1000000) (w : World) (hA : Vs w w.heap.size A (zv M.mem)) :
    Calls Tryd.prog 19 #[mv M A n c] w (MPost w M) := by
  obtain ⟨i1, hi0, hz0, hz1, hz2⟩ := info_parts j_info
  have H := Lib.hid (And.intro hn hA)
  clear hn hA
  unfold mv
  go_enter Tryd.func19, Tryd.ntmps19
  go_wp2_with fail
  have k0 := Blk.new w 27 #[.int .i64 M.p, .int .i64 (M.r 0), .int .i64 (M.r 1), .int .i64 (M.r 2), .int .i64 (M.r 3), .int .i64 (M.r 4), .int .i64 (M.r 5), .int .i64 (M.r 6), .int .i64 (M.r 7), .slice A n c, .int .i64 M.s, .int .i64 M.t]
  have hS : ∀ W, Below (w.heap.size + 1) (w.alloc (.cells #[.int .i64 M.p, .int .i64 (M.r 0), .int .i64 (M.r 1), .int .i64 (M.r 2), .int .i64 (M.r 3), .int .i64 (M.r 4), .int .i64 (M.r 5), .int .i64 (M.r 6), .int .i64 (M.r 7), .slice A n c, .int .i64 M.s, .int .i64 M.t] 27)) W → (fun w' => w'.cell? ⟨w.heap.size, 0, none⟩ = some (.int .i64 M.p) ∧ w'.cell? ⟨w.heap.size, 1, none⟩ = some (.int .i64 (M.r 0)) ∧ w'.cell? ⟨w.heap.size, 2, none⟩ = some (.int .i64 (M.r 1)) ∧ w'.cell? ⟨w.heap.size, 3, none⟩ = some (.int .i64 (M.r 2)) ∧ w'.cell? ⟨w.heap.size, 4, none⟩ = some (.int .i64 (M.r 3)) ∧ w'.cell? ⟨w.heap.size, 5, none⟩ = some (.int .i64 (M.r 4)) ∧ w'.cell? ⟨w.heap.size, 6, none⟩ = some (.int .i64 (M.r 5)) ∧ w'.cell? ⟨w.heap.size, 7, none⟩ = some (.int .i64 (M.r 6)) ∧ w'.cell? ⟨w.heap.size, 8, none⟩ = some (.int .i64 (M.r 7)) ∧ w'.cell? ⟨w.heap.size, 9, none⟩ = some (.slice A n c) ∧ w'.cell? ⟨w.heap.size, 10, none⟩ = some (.int .i64 M.s) ∧ w'.cell? ⟨w.heap.size, 11, none⟩ = some (.int .i64 M.t)) W := fun W h => by
    have k := k0.below h (Nat.lt_succ_self _)
    exact ⟨by rw [k.cell]; rfl, by rw [k.cell]; rfl, by rw [k.cell]; rfl, by rw [k.cell]; rfl, by rw [k.cell]; rfl, by rw [k.cell]; rfl, by rw [k.cell]; rfl, by rw [k.cell]; rfl, by rw [k.cell]; rfl, by rw [k.cell]; rfl, by rw [k.cell]; rfl, by rw [k.cell]; rfl⟩
  have hB0 : Below (w.heap.size + 1) (w.alloc (.cells #[.int .i64 M.p, .int .i64 (M.r 0), .int .i64 (M.r 1), .int .i64 (M.r 2), .int .i64 (M.r 3), .int .i64 (M.r 4), .int .i64 (M.r 5), .int .i64 (M.r 6), .int .i64 (M.r 7), .slice A n c, .int .i64 M.s, .int .i64 M.t] 27)) ((w.alloc (.cells #[.int .i64 M.p, .int .i64 (M.r 0), .int .i64 (M.r 1), .int .i64 (M.r 2), .int .i64 (M.r 3), .int .i64 (M.r 4), .int .i64 (M.r 5), .int .i64 (M.r 6), .int .i64 (M.r 7), .slice A n c, .int .i64 M.s, .int .i64 M.t] 27)).alloc (.cells #[.int .i64 0, .int .i64 0, .int .i64 0, .int .i64 0, .int .i64 0, .int .i64 0, .int .i64 0, .int .i64 0, .int .i64 0, .slice none 0 0, .int .i64 0, .int .i64 0] 30)) := (Below.refl _ _).alloc (by simp) _
  have k1 := blk2 w (.cells #[.int .i64 M.p, .int .i64 (M.r 0), .int .i64 (M.r 1), .int .i64 (M.r 2), .int .i64 (M.r 3), .int .i64 (M.r 4), .int .i64 (M.r 5), .int .i64 (M.r 6), .int .i64 (M.r 7), .slice A n c, .int .i64 M.s, .int .i64 M.t] 27) 30 #[.int .i64 0, .int .i64 0, .int .i64 0, .int .i64 0, .int .i64 0, .int .i64 0, .int .i64 0, .int .i64 0, .int .i64 0, .slice none 0 0, .int .i64 0, .int .i64 0]
  have hzw := below2 w (.cells #[.int .i64 M.p, .int .i64 (M.r 0), .int .i64 (M.r 1), .int .i64 (M.r 2), .int .i64 (M.r 3), .int .i64 (M.r 4), .int .i64 (M.r 5), .int .i64 (M.r 6), .int .i64 (M.r 7), .slice A n c, .int .i64 M.s, .int .i64 M.t] 27) (.cells #[.int .i64 0, .int .i64 0, .int .i64 0, .int .i64 0, .int .i64 0, .int .i64 0, .int .i64 0, .int .i64 0, .int .i64 0, .slice none 0 0, .int .i64 0, .int .i64 0] 30)
  have hsz : ((w.alloc (.cells #[.int .i64 M.p, .int .i64 (M.r 0), .int .i64 (M.r 1), .int .i64 (M.r 2), .int .i64 (M.r 3), .int .i64 (M.r 4), .int .i64 (M.r 5), .int .i64 (M.r 6), .int .i64 (M.r 7), .slice A n c, .int .i64 M.s, .int .i64 M.t] 27)).alloc (.cells #[.int .i64 0, .int .i64 0, .int .i64 0, .int .i64 0, .int .i64 0, .int .i64 0, .int .i64 0, .int .i64 0, .int .i64 0, .slice none 0 0, .int .i64 0, .int .i64 0] 30)).heap.size = w.heap.size + 1 + 1 := by simp
  obtain ⟨w2, ew2⟩ : ∃ W, (w.alloc (.cells #[.int .i64 M.p, .int .i64 (M.r 0), .int .i64 (M.r 1), .int .i64 (M.r 2), .int .i64 (M.r 3), .int .i64 (M.r 4), .int .i64 (M.r 5), .int .i64 (M.r 6), .int .i64 (M.r 7), .slice A n c, .int .i64 M.s, .int .i64 M.t] 27)).alloc (.cells #[.int .i64 0, .int .i64 0, .int .i64 0, .int .i64 0, .int .i64 0, .int .i64 0, .int .i64 0, .int .i64 0, .int .i64 0, .slice none 0 0, .int .i64 0, .int .i64 0] 30) = W := ⟨_, rfl⟩
  rw [ew2] at hB0 k1 hzw hsz ⊢
  have HX := Lib.hid hS
  have HK := Lib.hid (And.intro k1 (And.intro hzw (And.intro hsz hB0)))
  have hS0 := hS w2.drew hB0.drew
  clear hS k0 k1 hzw hsz hB0 ew2
  refine wp_region_held_drew (S := fun w' => w'.cell? ⟨w.heap.size, 0, none⟩ = some (.int .i64 M.p) ∧ w'.cell? ⟨w.heap.size, 1, none⟩ = some (.int .i64 (M.r 0)) ∧ w'.cell? ⟨w.heap.size, 2, none⟩ = some (.int .i64 (M.r 1)) ∧ w'.cell? ⟨w.heap.size, 3, none⟩ = some (.int .i64 (M.r 2)) ∧ w'.cell? ⟨w.heap.size, 4, none⟩ = some (.int .i64 (M.r 3)) ∧ w'.cell? ⟨w.heap.size, 5, none⟩ = some (.int .i64 (M.r 4)) ∧ w'.cell? ⟨w.heap.size, 6, none⟩ = some (.int .i64 (M.r 5)) ∧ w'.cell? ⟨w.heap.size, 7, none⟩ = some (.int .i64 (M.r 6)) ∧ w'.cell? ⟨w.heap.size, 8, none⟩ = some (.int .i64 (M.r 7)) ∧ w'.cell? ⟨w.heap.size, 9, none⟩ = some (.slice A n c) ∧ w'.cell? ⟨w.heap.size, 10, none⟩ = some (.int .i64 M.s) ∧ w'.cell? ⟨w.heap.size, 11, none⟩ = some (.int .i64 M.t)) (by kernel_rfl) hS0 (fun hHeld => ?_)
  refine wpAnyH_take (i := 0) (v := ?_) (List.getElem?_toArray.trans (List.getElem?_cons_zero)) (by kernel_rfl) (by kernel_rfl) (by kernel_rfl) (fun _ _ _ h => h) (Or.inl ⟨by rfl, ?_⟩) (by assumption) ?_
  rotate_left
  · intro w' hSw; (try dsimp only at hSw); go_simp; try with_reducible rfl
  try simp only [Act.put, List.setIfInBounds_toArray, List.set_cons_zero, List.set_cons_succ]
  refine wpAnyH_take (i := 1) (v := ?_) (List.getElem?_toArray.trans (List.getElem?_cons_succ.trans (List.getElem?_cons_zero))) (by kernel_rfl) (by kernel_rfl) (by kernel_rfl) (fun _ _ _ h => h) (Or.inl ⟨by rfl, ?_⟩) (by assumption) ?_
  rotate_left
  · intro w' hSw; (try dsimp only at hSw); go_simp; try with_reducible rfl
  try simp only [Act.put, List.setIfInBounds_toArray, List.set_cons_zero, List.set_cons_succ]
  refine wpAnyH_take (i := 2) (v := ?_) (List.getElem?_toArray.trans (List.getElem?_cons_succ.trans (List.getElem?_cons_succ.trans (List.getElem?_cons_zero)))) (by kernel_rfl) (by kernel_rfl) (by kernel_rfl) (fun _ _ _ h => h) (Or.inl ⟨by rfl, ?_⟩) (by assumption) ?_
  rotate_left
  · intro w' hSw; (try dsimp only at hSw); go_simp; try with_reducible rfl
  try simp only [Act.put, List.setIfInBounds_toArray, List.set_cons_zero, List.set_cons_succ]
  refine wpAnyH_take (i := 3) (v := ?_) (List.getElem?_toArray.trans (List.getElem?_cons_succ.trans (List.getElem?_cons_succ.trans (List.getElem?_cons_succ.trans (List.getElem?_cons_zero))))) (by kernel_rfl) (by kernel_rfl) (by kernel_rfl) (fun _ _ _ h => h) (Or.inl ⟨by rfl, ?_⟩) (by assumption) ?_
  rotate_left
  · intro w' hSw; (try dsimp only at hSw); go_simp; try with_reducible rfl
  try simp only [Act.put, List.setIfInBounds_toArray, List.set_cons_zero, List.set_cons_succ]
  refine wpAnyH_take (i := 5) (v := ?_) (List.getElem?_toArray.trans (List.getElem?_cons_succ.trans (List.getElem?_cons_succ.trans (List.getElem?_cons_succ.trans (List.getElem?_cons_succ.trans (List.getElem?_cons_succ.trans (List.getElem?_cons_zero))))))) (by kernel_rfl) (by kernel_rfl) (by kernel_rfl) (fun _ _ _ h => h) (Or.inl ⟨by rfl, ?_⟩) (by assumption) ?_
  rotate_left
  · intro w' hSw; (try dsimp only at hSw); go_simp; try with_reducible rfl
  try simp only [Act.put, List.setIfInBounds_toArray, List.set_cons_zero, List.set_cons_succ]
  refine wpAnyH_take (i := 6) (v := ?_) (List.getElem?_toArray.trans (List.getElem?_cons_succ.trans (List.getElem?_cons_succ.trans (List.getElem?_cons_succ.trans (List.getElem?_cons_succ.trans (List.getElem?_cons_succ.trans (List.getElem?_cons_succ.trans (List.getElem?_cons_zero)))))))) (by kernel_rfl) (by kernel_rfl) (by kernel_rfl) (fun _ _ _ h => h) (Or.inl ⟨by rfl, ?_⟩) (by assumption) ?_
  rotate_left
  · intro w' hSw; (try dsimp only at hSw); go_simp; try with_reducible rfl
  try simp only [Act.put, List.setIfInBounds_toArray, List.set_cons_zero, List.set_cons_succ]
  refine wpAnyH_take (i := 8) (v := ?_) (List.getElem?_toArray.trans (List.getElem?_cons_succ.trans (List.getElem?_cons_succ.trans (List.getElem?_cons_succ.trans (List.getElem?_cons_succ.trans (List.getElem?_cons_succ.trans (List.getElem?_cons_succ.trans (List.getElem?_cons_succ.trans (List.getElem?_cons_succ.trans (List.getElem?_cons_zero)))))))))) (by kernel_rfl) (by kernel_rfl) (by kernel_rfl) (fun _ _ _ h => h) (Or.inl ⟨by rfl, ?_⟩) (by assumption) ?_
  rotate_left
  · intro w' hSw; (try dsimp only at hSw); go_simp; try with_reducible rfl
  try simp only [Act.put, List.setIfInBounds_toArray, List.set_cons_zero, List.set_cons_succ]
  refine wpAnyH_take (i := 9) (v := ?_) (List.getElem?_toArray.trans (List.getElem?_cons_succ.trans (List.getElem?_cons_succ.trans (List.getElem?_cons_succ.trans (List.getElem?_cons_succ.trans (List.getElem?_cons_succ.trans (List.getElem?_cons_succ.trans (List.getElem?_cons_succ.trans (List.getElem?_cons_succ.trans (List.getElem?_cons_succ.trans (List.getElem?_cons_zero))))))))))) (by kernel_rfl) (by kernel_rfl) (by kernel_rfl) (fun _ _ _ h => h) (Or.inl ⟨by rfl, ?_⟩) (by assumption) ?_
  rotate_left
  · intro w' hSw; (try dsimp only at hSw); go_simp; try with_reducible rfl
  try simp only [Act.put, List.setIfInBounds_toArray, List.set_cons_zero, List.set_cons_succ]
  refine wpAnyH_take (i := 10) (v := ?_) (List.getElem?_toArray.trans (List.getElem?_cons_succ.trans (List.getElem?_cons_succ.trans (List.getElem?_cons_succ.trans (List.getElem?_cons_succ.trans (List.getElem?_cons_succ.trans (List.getElem?_cons_succ.trans (List.getElem?_cons_succ.trans (List.getElem?_cons_succ.trans (List.getElem?_cons_succ.trans (List.getElem?_cons_succ.trans (List.getElem?_cons_zero)))))))))))) (by kernel_rfl) (by kernel_rfl) (by kernel_rfl) (fun _ _ _ h => h) (Or.inl ⟨by rfl, ?_⟩) (by assumption) ?_
  rotate_left
  · intro w' hSw; (try dsimp only at hSw); go_simp; try with_reducible rfl
  try simp only [Act.put, List.setIfInBounds_toArray, List.set_cons_zero, List.set_cons_succ]
  refine wpAnyH_take (i := 11) (v := ?_) (List.getElem?_toArray.trans (List.getElem?_cons_succ.trans (List.getElem?_cons_succ.trans (List.getElem?_cons_succ.trans (List.getElem?_cons_succ.trans (List.getElem?_cons_succ.trans (List.getElem?_cons_succ.trans (List.getElem?_cons_succ.trans (List.getElem?_cons_succ.trans (List.getElem?_cons_succ.trans (List.getElem?_cons_succ.trans (List.getElem?_cons_succ.trans (List.getElem?_cons_zero))))))))))))) (by kernel_rfl) (by kernel_rfl) (by kernel_rfl) (fun _ _ _ h => h) (Or.inl ⟨by rfl, ?_⟩) (by assumption) ?_
  rotate_left
  · intro w' hSw; (try dsimp only at hSw); go_simp; try with_reducible rfl
  try simp only [Act.put, List.setIfInBounds_toArray, List.set_cons_zero, List.set_cons_succ]
  refine wpAnyH_ready (rs := [4]) (by kernel_rfl) (by simp) ?_
  refine AllReadyH.cons (List.getElem?_toArray.trans (List.getElem?_cons_succ.trans (List.getElem?_cons_succ.trans (List.getElem?_cons_succ.trans (List.getElem?_cons_succ.trans (List.getElem?_cons_zero)))))) (fun K hK => ?_) AllReadyH.nil
  go_simp
  have hbA : Below (w.heap.size + 1) (w.alloc (.cells #[.int .i64 M.p, .int .i64 (M.r 0), .int .i64 (M.r 1), .int .i64 (M.r 2), .int .i64 (M.r 3), .int .i64 (M.r 4), .int .i64 (M.r 5), .int .i64 (M.r 6), .int .i64 (M.r 7), .slice A n c, .int .i64 M.s, .int .i64 M.t] 27)) (w2.drew.alloc (.cells #[] 2)) := HK.out.2.2.2.drew.alloc (by rw [show w2.drew.heap.size = w2.heap.size from rfl, HK.out.2.2.1]; omega) _
  have hbW : Below w.heap.size w (w2.drew.alloc (.cells #[] 2)) := HK.out.2.1.drew.alloc (by rw [show w2.drew.heap.size = w2.heap.size from rfl, HK.out.2.2.1]; omega) _
  have kA : Blk (w2.drew.alloc (.cells #[] 2)) (w.heap.size + 1) 30 #[.int .i64 0, .int .i64 0, .int .i64 0, .int .i64 0, .int .i64 0, .int .i64 0, .int .i64 0, .int .i64 0, .int .i64 0, .slice none 0 0, .int .i64 0, .int .i64 0] := Blk.alloc (Blk.drewN HK.out.1 1) _
  refine hK.out _ _ (HX.out _ hbA) (fun hHeld => ?_)
  clear hK K
  try simp only [Act.put, List.setIfInBounds_toArray, List.set_cons_zero, List.set_cons_succ]
  refine wpAnyH_ready (rs := [7]) (by kernel_rfl) (by simp) ?_
  refine AllReadyH.cons (List.getElem?_toArray.trans (List.getElem?_cons_succ.trans (List.getElem?_cons_succ.trans (List.getElem?_cons_succ.trans (List.getElem?_cons_succ.trans (List.getElem?_cons_succ.trans (List.getElem?_cons_succ.trans (List.getElem?_cons_succ.trans (List.getElem?_cons_zero))))))))) (fun K hK => ?_) AllReadyH.nil
  refine wp_append_one _ (.tmp 7) (.tmp 9) 24 rfl w2.heap.size 2 i1 _ 1 8 Tryd.underlying24 hi0 hz0 hz1 hz2 rfl (by decide) (.slice (some ⟨w2.heap.size, 0, none⟩) 0 0) 0 [] rfl (row_empty w2.drew _ _ _ (Nat.le_refl _)) w.heap.size A c n (zv M.mem) rfl (H.out.2.below hbW) (by rw [zv_length, H.out.1, Nat.mul_one]) (zv_one _) (by omega) (by unfold maxLen; omega) (show w2.heap.size ≤ (w2.alloc (.cells #[] 2)).heap.size by rw [size_alloc1]; exact Nat.le_succ _) ?_
  intro v5 w5 hown5 hg5 _
  have hblkrow : ∀ g, (Value.slice (some ⟨w2.heap.size, 0, none⟩) 0 0).ownBlock = some g → w.heap.size + 1 < g := fun g e => by
    have : w2.heap.size = g := by injection e
    have := HK.out.2.2.1
    omega
  have hb5 := hbW.grown hg5 hbW.size (fun g e => Nat.le_of_lt (Nat.lt_of_succ_lt (hblkrow g e)))
  have hb5A := hbA.grown hg5 (by have := hbA.size; rwa [size_alloc1] at this) (fun g e => Nat.le_of_lt (hblkrow g e))
  have k5 := kA.grown hg5 (fun e => Nat.lt_irrefl _ (hblkrow _ e.symm))
  rw [List.nil_append, Nat.zero_add] at hown5
  obtain ⟨A5, c5, rfl, _, _, _, _⟩ := vs_of_row hown5
  refine hK.out _ _ (HX.out _ hb5A) (fun hHeld => ?_)
  clear hK K
  try simp only [Act.put, List.setIfInBounds_toArray, List.set_cons_zero, List.set_cons_succ]
  refine wpAnyH_take (i := 12) (v := ?_) (List.getElem?_toArray.trans (List.getElem?_cons_succ.trans (List.getElem?_cons_succ.trans (List.getElem?_cons_succ.trans (List.getElem?_cons_succ.trans (List.getElem?_cons_succ.trans (List.getElem?_cons_succ.trans (List.getElem?_cons_succ.trans (List.getElem?_cons_succ.trans (List.getElem?_cons_succ.trans (List.getElem?_cons_succ.trans (List.getElem?_cons_succ.trans (List.getElem?_cons_succ.trans (List.getElem?_cons_zero)))))))))))))) (by kernel_rfl) (by kernel_rfl) (by kernel_rfl) (fun _ _ _ h => h) (Or.inl ⟨by rfl, ?_⟩) (by assumption) ?_
  rotate_left
  · intro w' hSw; (try dsimp only at hSw); go_simp; try with_reducible rfl
  try simp only [Act.put, List.setIfInBounds_toArray, List.set_cons_zero, List.set_cons_succ]
  refine wpAnyH_ready (rs := [13]) (by kernel_rfl) (by simp) ?_
  refine AllReadyH.cons (List.getElem?_toArray.trans (List.getElem?_cons_succ.trans (List.getElem?_cons_succ.trans (List.getElem?_cons_succ.trans (List.getElem?_cons_succ.trans (List.getElem?_cons_succ.trans (List.getElem?_cons_succ.trans (List.getElem?_cons_succ.trans (List.getElem?_cons_succ.trans (List.getElem?_cons_succ.trans (List.getElem?_cons_succ.trans (List.getElem?_cons_succ.trans (List.getElem?_cons_succ.trans (List.getElem?_cons_succ.trans (List.getElem?_cons_zero))))))))))))))) (fun K hK => ?_) AllReadyH.nil
  refine wp_store_one 30 (.tmp 2) (.tmp 15) rfl (w.heap.size + 1) [.int .i64 M.p, .int .i64 (M.r 0), .int .i64 (M.r 1), .int .i64 (M.r 2), .int .i64 (M.r 3), .int .i64 (M.r 4), .int .i64 (M.r 5), .int .i64 (M.r 6), .int .i64 (M.r 7), .slice A5 n c5, .int .i64 M.s, .int .i64 M.t] rfl rfl 30 _ k5 rmach_size rfl (by intro u hu; simp only [List.mem_cons, List.not_mem_nil, or_false] at hu; rcases hu with rfl | rfl | rfl | rfl | rfl | rfl | rfl | rfl | rfl | rfl | rfl | rfl <;> rfl) ?_
  intro w6 hb6 hg6
  have h6 : Below w.heap.size w w6 := hb5.grown hg6 hb5.size (fun g e => by cases e; omega)
  have hown6 := row_base (row_kept hown5 hg6 (by have := HK.out.2.2.1; omega)) HK.out.2.1.size
  have hb6A := hb5A.grown hg6 (by have := hb5A.size; rwa [size_alloc1] at this) (fun g e => by cases e; exact Nat.le_refl _)
  refine hK.out _ _ (HX.out _ hb6A) (fun hHeld => ?_)
  clear hK K
  try simp only [Act.put, List.setIfInBounds_toArray, List.set_cons_zero, List.set_cons_succ]
  refine wpAnyH_done (by kernel_rfl) ?_ _
  go_wp2_with fail
  exact bodyPost_row rfl (w.heap.size + 1) rfl 30 _ _ hb6 Tryd.underlying30 rfl rmach_size rfl ⟨A5, c5, by rw [H.out.1]; rfl, by rw [H.out.1]; exact hown6, h6⟩
end Go.Proofs.YthgiehlfmdobkaaDoor
