/-
  What package gram knows of a grammar, as plain data and in memory; its functions hasText, vanishes, roomOf by their contracts. Conditions: each theorem's own premises.
-/
import Derived.Test.YthfbmihpdkkcjaaDoorGramSet2
import Derived.Test.YthfbmihpdkkcjaaDoorGramClose
namespace Go.Proofs.YthfbmihpdkkcjaaDoor
open Go.RowKit

section
variable {P : Program} {w : World} {o : Oper} {a : Act}
theorem exec_load_ag (ty : TypeId) (x : Operand) (ho : o.op = .load ty x) (g off : Nat) (hx : a.eval x = .pointer (some ⟨g, off, none⟩)) (cs : Array Value) (d : TypeDesc) (hc : Cells w g off cs)
    (hu : P.underlying ty = some d) (hd : agg? d = true) (hi : (P.info? ty).map (·.size) = some cs.size) : (execOp a.eval o).run P w = .ok (.value (.agg cs)) w := by
  unfold execOp
  simp only [ho, hx, Instr.loadAt, Instr.sureAddr, Sem.run_bind, Sem.run_pure, Result.andThen_ok, run_loadVar_at g off ty cs d hc hu hd hi]
theorem wp_load_ag {K : Act → World → Prop} {Q : Exit → Act → World → Prop} (ty : TypeId) (x : Operand) (ho : o.op = .load ty x) (g off : Nat) (hx : a.eval x = .pointer (some ⟨g, off, none⟩)) (cs : Array Value) (d : TypeDesc) (hc : Cells w g off cs)
    (hu : P.underlying ty = some d) (hd : agg? d = true) (hi : (P.info? ty).map (·.size) = some cs.size) (h : K (a.put o.dst (.agg cs)) w) : o.wp P a w K Q := by
  unfold Oper.wp execOp
  simp only [ho, hx, Instr.loadAt, Instr.sureAddr, Sem.run_bind, Sem.run_pure, Result.andThen_ok, run_loadVar_at g off ty cs d hc hu hd hi]
  exact h
theorem wp_store_ag {K : Act → World → Prop} {Q : Exit → Act → World → Prop} (ty : TypeId) (x y : Operand) (ho : o.op = .store ty x y)
    (g off : Nat) (cells : List Value) (hx : a.eval x = .pointer (some ⟨g, off, none⟩)) (hy : a.eval y = .agg cells.toArray)
    (t : TypeId) (old : List Value) (hg : Blk w g t old.toArray) (hi : (P.info? ty).map (·.size) = some cells.length) (hfit : off + cells.length ≤ old.length) (h1 : ∀ v ∈ cells, v.oneCell' = true)
    (h : ∀ w', Blk w' g t (splice old off cells).toArray → w.grownBy w' (some g) → K (a.put o.dst undef) w') : o.wp P a w K Q := by
  obtain ⟨w', hrun, h2, h3⟩ := run_storeVar_at (P := P) g off ty t old cells hg hi hfit h1
  unfold Oper.wp execOp
  simp only [ho, hx, hy, Instr.storeAt, Instr.sureAddr, Sem.run_bind, Sem.run_pure, Result.andThen_ok, hrun]
  exact h w' h2 h3
end
theorem sg_size4 : (Tryd.prog.info? 42).map (·.size) = some 3 := by kernel_rfl
theorem sg_zero : (Tryd.prog.info? 42).map (·.zero) = some (some (.agg (Sg.cells ⟨0, 0, 0⟩).toArray)) := by kernel_rfl
theorem sg_one4 (s : Sg) : ∀ v ∈ s.cells, v.oneCell' = true := by
  intro v hv
  simp only [Sg.cells, List.mem_cons, List.not_mem_nil, or_false] at hv
  rcases hv with rfl | rfl | rfl <;> rfl
theorem svs_cells {w : World} {B : Nat} {A : Option Addr} {l : List Sg} (h : Vs w B A (svs l)) {k : Nat} (hk : k < l.length) : ∃ b o, A = some ⟨b, o, none⟩ ∧ b < B ∧ ∀ W, Below B w W → Cells W b (o + k * 3) (l.getD k ⟨0, 0, 0⟩).cells.toArray := by
  obtain ⟨b, o, e, hb, hc⟩ := h (by rw [svs_length]; omega)
  refine ⟨b, o, e, hb, fun W hW j v hv => ?_⟩
  rw [List.getElem?_toArray] at hv
  have := hc _ _ (svs_get hk hv)
  rw [hW.cell (p := ⟨b, o + k * 3 + j, none⟩) hb, Nat.add_assoc]
  exact this
/-- what is known: 82 sets (texts, vanish, 16 first, 16 follow, 48 lead), 16 rooms -/
structure Fc where
  ss : List S4
  rs : List Int
def Fc.at (F : Fc) (i : Nat) : S4 := F.ss.getD i S4.z
def Fc.room (F : Fc) (i : Nat) : Int := F.rs.getD i 0
def scs : List S4 → List Value
  | [] => []
  | s :: r => s.cells ++ scs r
def Fc.cells (F : Fc) : List Value := scs F.ss ++ F.rs.map (Value.int .i64 ·)
theorem scs_length : ∀ l : List S4, (scs l).length = 4 * l.length
  | [] => rfl
  | s :: r => by simp only [scs, S4.cells, List.length_append, List.length_cons, List.length_nil, scs_length r]; omega
theorem scs_part : ∀ {l : List S4} {i : Nat}, i < l.length → ((scs l).drop (4 * i)).take 4 = (l.getD i S4.z).cells
  | s :: r, 0, _ => by simp [scs, S4.cells]
  | s :: r, i + 1, h => by
    have := scs_part (l := r) (i := i) (by simpa using h)
    rw [scs, List.getD_cons_succ, ← this]
    rw [show 4 * (i + 1) = s.cells.length + 4 * i by simp [S4.cells]; omega, ← List.drop_drop, List.drop_left]
theorem scs_set : ∀ {l : List S4} {i : Nat} (s : S4), i < l.length → splice (scs l) (4 * i) s.cells = scs (l.set i s)
  | x :: r, 0, s, _ => by simp [splice, scs, S4.cells]
  | x :: r, i + 1, s, h => by
    have := scs_set (l := r) (i := i) s (by simpa using h)
    rw [List.set_cons_succ, scs, scs, ← this]
    unfold splice
    have e : 4 * (i + 1) = x.cells.length + 4 * i := by simp [S4.cells]; omega
    rw [e, List.take_length_add_append, show x.cells.length + 4 * i + s.cells.length = x.cells.length + (4 * i + s.cells.length) by omega, List.drop_length_add_append, List.append_assoc]
structure Fc.Ok (F : Fc) : Prop where
  n : F.ss.length = 82
  m : F.rs.length = 16
  s : ∀ s ∈ F.ss, s.Ok
theorem Fc.Ok.at {F : Fc} (h : F.Ok) (i : Nat) : (F.at i).Ok := by
  unfold Fc.at
  rw [List.getD_eq_getElem?_getD]
  cases e : F.ss[i]? with
  | none => exact S4.z_ok
  | some s => exact h.s s (List.mem_of_getElem? e)
theorem Fc.cells_length {F : Fc} (h : F.Ok) : F.cells.length = 344 := by
  unfold Fc.cells
  rw [List.length_append, scs_length, List.length_map, h.n, h.m]
def Fc.setS (F : Fc) (i : Nat) (s : S4) : Fc := ⟨F.ss.set i s, F.rs⟩
def Fc.setR (F : Fc) (i : Nat) (r : Int) : Fc := ⟨F.ss, F.rs.set i r⟩
theorem Fc.setS_ok {F : Fc} (h : F.Ok) (i : Nat) {s : S4} (hs : s.Ok) : (F.setS i s).Ok := ⟨by simp [Fc.setS, h.n], h.m, fun x hx => by
  rcases List.mem_or_eq_of_mem_set hx with hx | rfl
  · exact h.s x hx
  · exact hs⟩
theorem Fc.setR_ok {F : Fc} (h : F.Ok) (i : Nat) (r : Int) : (F.setR i r).Ok := ⟨h.n, by simp [Fc.setR, h.m], h.s⟩
theorem Fc.at_setS {F : Fc} (h : F.Ok) {i j : Nat} (hi : i < 82) (s : S4) : (F.setS i s).at j = if j = i then s else F.at j := by
  unfold Fc.at Fc.setS
  simp only [List.getD_eq_getElem?_getD, List.getElem?_set]
  by_cases e : i = j
  · subst e; simp [h.n, hi]
  · simp [e, Ne.symm e]
theorem Fc.at_setR (F : Fc) (i j : Nat) (r : Int) : (F.setR i r).at j = F.at j := rfl
theorem Fc.room_setS (F : Fc) (i j : Nat) (s : S4) : (F.setS i s).room j = F.room j := rfl
theorem Fc.room_setR {F : Fc} (h : F.Ok) {i j : Nat} (hi : i < 16) (r : Int) : (F.setR i r).room j = if j = i then r else F.room j := by
  unfold Fc.room Fc.setR
  simp only [List.getD_eq_getElem?_getD, List.getElem?_set]
  by_cases e : i = j
  · subst e; simp [h.m, hi]
  · simp [e, Ne.symm e]
/-- in memory -/
def FcAt (W : World) (g : Nat) (F : Fc) : Prop := Blk W g 61 F.cells.toArray
theorem FcAt.below {W W' : World} {g B : Nat} {F : Fc} (h : FcAt W g F) (hb : Below B W W') (hg : g < B) : FcAt W' g F := Blk.below h hb hg
theorem FcAt.cs {W : World} {g : Nat} {F : Fc} (h : FcAt W g F) (hF : F.Ok) {i o : Nat} (hi : i < 82) (ho : o = 4 * i) : Cells W g o (F.at i).cells.toArray := by
  subst ho
  refine Blk.part h ?_
  show (F.cells.drop (4 * i)).take 4 = _
  unfold Fc.cells Fc.at
  have hl : 4 * i + 4 ≤ (scs F.ss).length := by rw [scs_length, hF.n]; omega
  rw [List.drop_append_of_le_length (by omega), List.take_append_of_le_length (by rw [List.length_drop]; omega)]
  exact scs_part (by rw [hF.n]; exact hi)
theorem FcAt.rc {W : World} {g : Nat} {F : Fc} (h : FcAt W g F) (hF : F.Ok) {i o : Nat} (hi : i < 16) (ho : o = 328 + i) : W.cell? ⟨g, o, none⟩ = some (.int .i64 (F.room i)) := by
  subst ho
  rw [Blk.cell h, List.getElem?_toArray]
  unfold Fc.cells Fc.room
  rw [List.getElem?_append_right (by rw [scs_length, hF.n]; omega), scs_length, hF.n, show 328 + i - 4 * 82 = i by omega]
  simp [hF.m, hi, List.getD]
/-- bodies: names below 16, bytes below 256, no more than nine signs -/
structure BodyOk (l : List Sg) : Prop where
  n : ∀ s ∈ l, s.n < 16
  ok : ∀ s ∈ l, SgOk s
  len : l.length ≤ 9
theorem BodyOk.get {l : List Sg} (h : BodyOk l) {k : Nat} (hk : k < l.length) : (l.getD k ⟨0, 0, 0⟩).n < 16 ∧ SgOk (l.getD k ⟨0, 0, 0⟩) := by
  have hm : l.getD k ⟨0, 0, 0⟩ ∈ l := by rw [List.getD_eq_getElem?_getD, List.getElem?_eq_getElem hk]; exact List.getElem_mem hk
  exact ⟨h.n _ hm, h.ok _ hm⟩
theorem BodyOk.drop {l : List Sg} (h : BodyOk l) (k : Nat) : BodyOk (l.drop k) := ⟨fun s hs => h.n s (List.mem_of_mem_drop hs), fun s hs => h.ok s (List.mem_of_mem_drop hs), by rw [List.length_drop]; have := h.len; omega⟩
/-- has it a text, does it vanish, as far as is known? -/
def Fc.txtS (F : Fc) (s : Sg) : Bool := if s.n < 0 then decide (s.lo ≤ s.hi) else (F.at 0).has s.n.toNat
def Fc.vanS (F : Fc) (s : Sg) : Bool := if s.n < 0 then false else (F.at 1).has s.n.toNat
def Fc.txtL (F : Fc) (l : List Sg) : Bool := l.all F.txtS
def Fc.vanL (F : Fc) (l : List Sg) : Bool := l.all F.vanS
theorem all_upto {p : Sg → Bool} {l : List Sg} (h : ∀ j, j < l.length → p (l.getD j ⟨0, 0, 0⟩) = true) : l.all p = true := by
  rw [List.all_eq_true]
  intro x hx
  obtain ⟨i, hi, e⟩ := List.getElem_of_mem hx
  have := h i hi
  rw [List.getD_eq_getElem?_getD, List.getElem?_eq_getElem hi] at this
  rw [← e]
  exact this
theorem all_not {p : Sg → Bool} {l : List Sg} {j : Nat} (hj : j < l.length) (h : p (l.getD j ⟨0, 0, 0⟩) = false) : l.all p = false := by
  rw [Bool.eq_false_iff]
  intro hn
  rw [List.all_eq_true] at hn
  have hm : l.getD j ⟨0, 0, 0⟩ ∈ l := by rw [List.getD_eq_getElem?_getD, List.getElem?_eq_getElem hj]; exact List.getElem_mem hj
  rw [hn _ hm] at h
  cases h
theorem u8_wrap16 (m : Nat) (h : m < 256) : IntKind.u8.wrap (m : Int) = (m : Int) := by
  have h2 : IntKind.u8.wrap (m : Int) = (m : Int) % 256 := by simp [IntKind.wrap, IntKind.bits, IntKind.signed]
  rw [h2]
  omega
set_option maxRecDepth 100000 in
set_option maxHeartbeats 4000000 in
set_option linter.unusedSimpArgs false in
theorem gfHasText (w : World) (g : Nat) (F : Fc) (hF : F.Ok) (hf : FcAt w g F) (A : Option Addr) (l : List Sg) (n cp : Nat) (hA : Vs w w.heap.size A (svs l)) (hl : l.length = n) (hb : BodyOk l) : Calls Tryd.prog 39 #[.pointer (some ⟨g, 0, none⟩), .slice A n cp] w (BoolPost w (F.txtL l)) := by
  have hg : g < w.heap.size := Blk.lt hf
  have hn9 : n ≤ 9 := by rw [← hl]; exact hb.len
  have H := Lib.hid (And.intro hf (And.intro hA (And.intro hl (And.intro hb hF))))
  clear hf hA hl hb
  go_enter Tryd.func39, Tryd.ntmps39
  go_wp2_with fail
  go_loopw [9] (fun u wz => ∃ k : Nat, k ≤ n ∧ u = .int .i64 (k : Int) ∧ Below w.heap.size w wz ∧ ∀ j, j < k → F.txtS (l.getD j ⟨0, 0, 0⟩) = true) (fun u _ => n - (intOf u).toNat)
  case atStart => exact ⟨0, by omega, rfl, Below.refl _ _, fun j hj => by omega⟩
  case round =>
    obtain ⟨k, hk, rfl, hbel, hno⟩ := hrel
    have HI := Lib.hid (And.intro hbel hno)
    clear hno
    by_cases hlt : k < n
    · have hki : (k : Int) < (n : Int) := by omega
      have hk0 : (0 : Int) ≤ (k : Int) := by omega
      obtain ⟨b, o, rfl, hbl, hcl⟩ := svs_cells H.out.2.1 (k := k) (by rw [H.out.2.2.1]; exact hlt)
      have hsg := H.out.2.2.2.1.get (k := k) (by rw [H.out.2.2.1]; exact hlt)
      have hall := fun h => all_not (p := F.txtS) (l := l) (j := k) (by rw [H.out.2.2.1]; exact hlt) h
      have hcs := hcl wr hbel
      obtain ⟨x, ex⟩ : ∃ x, l.getD k ⟨0, 0, 0⟩ = x := ⟨_, rfl⟩
      rw [ex] at hcs hsg hall
      have HX := Lib.hid (And.intro hsg (And.intro hall ex))
      clear hcl hall ex hsg
      go_wp2_with (first
        | (with_reducible refine st_load 42 ?_; refine stopped ?_)
        | fail)
      refine go_on ?_
      refine wpList_load_at rfl 42 (.tmp 11) rfl b (o + k * 3) rfl x.cells.toArray _ hcs Tryd.underlying42 rfl sg_size4 ?_
      simp only [Act.put, List.setIfInBounds_toArray, List.set_cons_zero, List.set_cons_succ]
      refine wpList_alloc rfl 42 rfl _ sg_zero ?_
      intro w8 hb8 hw8 hz8
      simp only [Act.put, List.setIfInBounds_toArray, List.set_cons_zero, List.set_cons_succ]
      refine wpList_store_whole rfl 42 (.tmp 6) (.tmp 12) rfl wr.heap.size x.cells rfl rfl 42 (Sg.cells ⟨0, 0, 0⟩) hb8 sg_size4 rfl (sg_one4 _) ?_
      intro w9 hx9 hg9
      refine wpList_nil ?_
      simp only [Act.put, List.setIfInBounds_toArray, List.set_cons_zero, List.set_cons_succ]
      have hb9 : Below wr.heap.size wr w9 := hw8.grown hg9 hw8.size (fun j e => by cases e; exact Nat.le_refl _)
      have hb9' : Below w.heap.size w w9 := hbel.trans (hb9.mono hbel.size)
      obtain ⟨gx, egx⟩ : ∃ gx, wr.heap.size = gx := ⟨_, rfl⟩
      rw [egx] at hx9 ⊢
      obtain ⟨xn, exn⟩ : ∃ z, x.n = z := ⟨_, rfl⟩
      obtain ⟨xl, exl⟩ : ∃ z, x.lo = z := ⟨_, rfl⟩
      obtain ⟨xh, exh⟩ : ∃ z, x.hi = z := ⟨_, rfl⟩
      have k0 : ∀ W, Below w9.heap.size w9 W → W.cell? ⟨gx, 0, none⟩ = some (.int .i64 xn) := fun W h => by rw [h.cell (p := ⟨gx, 0, none⟩) hx9.lt, ← exn]; exact Blk.cell hx9 0
      have k1 : ∀ W, Below w9.heap.size w9 W → W.cell? ⟨gx, 1, none⟩ = some (.int .u8 (xl : Int)) := fun W h => by rw [h.cell (p := ⟨gx, 1, none⟩) hx9.lt, ← exl]; exact Blk.cell hx9 1
      have k2 : ∀ W, Below w9.heap.size w9 W → W.cell? ⟨gx, 2, none⟩ = some (.int .u8 (xh : Int)) := fun W h => by rw [h.cell (p := ⟨gx, 2, none⟩) hx9.lt, ← exh]; exact Blk.cell hx9 2
      have j0 := k0 w9 (Below.refl _ _)
      have j1 := k1 w9 (Below.refl _ _)
      have j2 := k2 w9 (Below.refl _ _)
      have hcF : ∀ W, Below w9.heap.size w9 W → Cells W g 0 (F.at 0).cells.toArray := fun W h => FcAt.cs (FcAt.below H.out.1 (hb9'.trans (h.mono hb9'.size)) hg) H.out.2.2.2.2 (by decide) rfl
      have HC := Lib.hid hcF
      have H9 := Lib.hid (And.intro hb9' (And.intro exn (And.intro exl exh)))
      clear hcF hx9 hg9 hb8 hw8 hz8 hb9 exn exl exh egx
      by_cases hneg : xn < 0
      · have hpv : F.txtS x = decide (xl ≤ xh) := by unfold Fc.txtS; rw [if_pos (by rw [H9.out.2.1]; exact hneg), H9.out.2.2.1, H9.out.2.2.2]
        by_cases hlh : xh < xl
        · have hlhi : (xh : Int) < (xl : Int) := by omega
          rw [decide_eq_false (by omega)] at hpv
          have HP := Lib.hid hpv
          clear hpv
          go_wp2_with fail
          go_ret
          exact ⟨by show _ = Ending.returned (.bool (l.all F.txtS)); rw [HX.out.2.1 HP.out]; rfl, H9.out.1⟩
        · have hlhi : ¬ (xh : Int) < (xl : Int) := by omega
          have hnn : decide ((0 : Int) ≤ xn) = false := decide_eq_false (by omega)
          rw [decide_eq_true (by omega)] at hpv
          have HP := Lib.hid hpv
          clear hpv
          go_wp2_with fail
          go_quiet (fail)
          rename_i nq
          go_wp2_with fail
          go_roundw
          case rel => exact ⟨k + 1, by omega, by go_num, below_drewN H9.out.1 _, fun j hj => by
            rcases Nat.lt_or_ge j k with h8 | h8
            · exact HI.out.2 j h8
            · obtain rfl : j = k := by omega
              rw [HX.out.2.2]
              exact HP.out⟩
          case measure => simp [intOf]; omega
      · obtain ⟨m, rfl⟩ : ∃ m : Nat, xn = (m : Int) := ⟨xn.toNat, by omega⟩
        have hm0 : (0 : Int) ≤ (m : Int) := by omega
        have hm16 : m < 16 := by have := HX.out.1.1; rw [H9.out.2.1] at this; omega
        have hcv := u8_wrap16 m (by omega)
        have hnn : decide ((m : Int) < 0) = false := decide_eq_false (by omega)
        have hnm : ((m : Int) < 0) = False := eq_false (by omega)
        have HH := Lib.hid (fun W => gsHas (F.at 0) (H.out.2.2.2.2.at 0) m (by omega) W)
        have hpv : F.txtS x = (F.at 0).has m := by unfold Fc.txtS; rw [H9.out.2.1, if_neg (by omega), Int.toNat_natCast]
        obtain ⟨tv, etv⟩ : ∃ z, (F.at 0).has m = z := ⟨_, rfl⟩
        rw [etv] at hpv
        have HP := Lib.hid hpv
        clear hpv
        go_wp2_with fail
        refine wp_region_held_drew (S := fun W => Below w9.heap.size w9 W) (by kernel_rfl) (Below.refl _ _).drew (fun hHeld => ?_)
        refine wpAnyH_take (i := 0) (v := ?_) (List.getElem?_toArray.trans (List.getElem?_cons_zero)) (by kernel_rfl) (by kernel_rfl) (by kernel_rfl) (fun _ _ _ h => h) (Or.inl ⟨by rfl, ?_⟩) (by assumption) ?_
        rotate_left
        · intro w' hSw; (try dsimp only at hSw); go_simp; try with_reducible rfl
        try simp only [Act.put, List.setIfInBounds_toArray, List.set_cons_zero, List.set_cons_succ]
        refine wpAnyH_take (i := 1) (v := ?_) (List.getElem?_toArray.trans (List.getElem?_cons_succ.trans (List.getElem?_cons_zero))) (by kernel_rfl) (by kernel_rfl) (by kernel_rfl) (fun _ _ _ h => h) (Or.inl ⟨by rfl, ?_⟩) (by assumption) ?_
        rotate_left
        · intro w' hSw; (try dsimp only at hSw); go_simp; try with_reducible rfl
        try simp only [Act.put, List.setIfInBounds_toArray, List.set_cons_zero, List.set_cons_succ]
        refine wpAnyH_take (i := 2) (v := ?_) (List.getElem?_toArray.trans (List.getElem?_cons_succ.trans (List.getElem?_cons_succ.trans (List.getElem?_cons_zero)))) (by kernel_rfl) (by kernel_rfl) (by kernel_rfl) (fun _ _ _ h => h) (Or.inl ⟨by rfl, ?_⟩) (by assumption) ?_
        rotate_left
        · intro w' hSw; (try dsimp only at hSw); go_simp; try with_reducible rfl
        try simp only [Act.put, List.setIfInBounds_toArray, List.set_cons_zero, List.set_cons_succ]
        refine wpAnyH_take (i := 3) (v := ?_) (List.getElem?_toArray.trans (List.getElem?_cons_succ.trans (List.getElem?_cons_succ.trans (List.getElem?_cons_succ.trans (List.getElem?_cons_zero))))) (by kernel_rfl) (by kernel_rfl) (by kernel_rfl) (fun _ _ _ h => h) (Or.inl ⟨by rfl, ?_⟩) (by assumption) ?_
        rotate_left
        · intro w' hSw; (try dsimp only at hSw); go_simp; try with_reducible rfl
        try simp only [Act.put, List.setIfInBounds_toArray, List.set_cons_zero, List.set_cons_succ]
        refine wpAnyH_take (i := 4) (v := ?_) (List.getElem?_toArray.trans (List.getElem?_cons_succ.trans (List.getElem?_cons_succ.trans (List.getElem?_cons_succ.trans (List.getElem?_cons_succ.trans (List.getElem?_cons_zero)))))) (by kernel_rfl) (by kernel_rfl) (by kernel_rfl) (fun _ _ _ h => h) (Or.inl ⟨by rfl, ?_⟩) (by assumption) ?_
        rotate_left
        · intro w' hSw; (try dsimp only at hSw); go_simp; try with_reducible rfl
        try simp only [Act.put, List.setIfInBounds_toArray, List.set_cons_zero, List.set_cons_succ]
        refine wpAnyH_take (i := 5) (v := ?_) (List.getElem?_toArray.trans (List.getElem?_cons_succ.trans (List.getElem?_cons_succ.trans (List.getElem?_cons_succ.trans (List.getElem?_cons_succ.trans (List.getElem?_cons_succ.trans (List.getElem?_cons_zero))))))) (by kernel_rfl) (by kernel_rfl) (by kernel_rfl) (fun _ _ _ h => h) (Or.inl ⟨by rfl, ?_⟩) (by assumption) ?_
        rotate_left
        · intro w' hSw; (try dsimp only at hSw); go_simp; try with_reducible rfl
        try simp only [Act.put, List.setIfInBounds_toArray, List.set_cons_zero, List.set_cons_succ]
        refine wpAnyH_take (i := 6) (v := ?_) (List.getElem?_toArray.trans (List.getElem?_cons_succ.trans (List.getElem?_cons_succ.trans (List.getElem?_cons_succ.trans (List.getElem?_cons_succ.trans (List.getElem?_cons_succ.trans (List.getElem?_cons_succ.trans (List.getElem?_cons_zero)))))))) (by kernel_rfl) (by kernel_rfl) (by kernel_rfl) (fun _ _ _ h => h) (Or.inl ⟨by rfl, ?_⟩) (by assumption) ?_
        rotate_left
        · intro w' hSw; (try dsimp only at hSw); go_simp; try with_reducible rfl
        try simp only [Act.put, List.setIfInBounds_toArray, List.set_cons_zero, List.set_cons_succ]
        refine wpAnyH_take (i := 7) (v := .agg (F.at 0).cells.toArray) (List.getElem?_toArray.trans (List.getElem?_cons_succ.trans (List.getElem?_cons_succ.trans (List.getElem?_cons_succ.trans (List.getElem?_cons_succ.trans (List.getElem?_cons_succ.trans (List.getElem?_cons_succ.trans (List.getElem?_cons_succ.trans (List.getElem?_cons_zero))))))))) (by kernel_rfl) (by kernel_rfl) (by kernel_rfl) (fun _ _ _ h => h) (Or.inl ⟨by rfl, ?_⟩) (by assumption) ?_
        · intro w' hSw; exact exec_load_ag 56 (.tmp 29) rfl g (0) rfl (F.at 0).cells.toArray _ (HC.out w' hSw) Tryd.underlying56 rfl set_size
        try simp only [Act.put, List.setIfInBounds_toArray, List.set_cons_zero, List.set_cons_succ]
        refine wpAnyH_take (i := 8) (v := ?_) (List.getElem?_toArray.trans (List.getElem?_cons_succ.trans (List.getElem?_cons_succ.trans (List.getElem?_cons_succ.trans (List.getElem?_cons_succ.trans (List.getElem?_cons_succ.trans (List.getElem?_cons_succ.trans (List.getElem?_cons_succ.trans (List.getElem?_cons_succ.trans (List.getElem?_cons_zero)))))))))) (by kernel_rfl) (by kernel_rfl) (by kernel_rfl) (fun _ _ _ h => h) (Or.inl ⟨by rfl, ?_⟩) (by assumption) ?_
        rotate_left
        · intro w' hSw; (try dsimp only at hSw); go_simp; try with_reducible rfl
        try simp only [Act.put, List.setIfInBounds_toArray, List.set_cons_zero, List.set_cons_succ]
        refine wpAnyH_take (i := 9) (v := ?_) (List.getElem?_toArray.trans (List.getElem?_cons_succ.trans (List.getElem?_cons_succ.trans (List.getElem?_cons_succ.trans (List.getElem?_cons_succ.trans (List.getElem?_cons_succ.trans (List.getElem?_cons_succ.trans (List.getElem?_cons_succ.trans (List.getElem?_cons_succ.trans (List.getElem?_cons_succ.trans (List.getElem?_cons_zero))))))))))) (by kernel_rfl) (by kernel_rfl) (by kernel_rfl) (fun _ _ _ h => h) (Or.inl ⟨by rfl, ?_⟩) (by assumption) ?_
        rotate_left
        · intro w' hSw; (try dsimp only at hSw); go_simp; try with_reducible rfl
        try simp only [Act.put, List.setIfInBounds_toArray, List.set_cons_zero, List.set_cons_succ]
        refine wpAnyH_take (i := 10) (v := ?_) (List.getElem?_toArray.trans (List.getElem?_cons_succ.trans (List.getElem?_cons_succ.trans (List.getElem?_cons_succ.trans (List.getElem?_cons_succ.trans (List.getElem?_cons_succ.trans (List.getElem?_cons_succ.trans (List.getElem?_cons_succ.trans (List.getElem?_cons_succ.trans (List.getElem?_cons_succ.trans (List.getElem?_cons_succ.trans (List.getElem?_cons_zero)))))))))))) (by kernel_rfl) (by kernel_rfl) (by kernel_rfl) (fun _ _ _ h => h) (Or.inl ⟨by rfl, ?_⟩) (by assumption) ?_
        rotate_left
        · intro w' hSw; (try dsimp only at hSw); go_simp; try with_reducible rfl
        try simp only [Act.put, List.setIfInBounds_toArray, List.set_cons_zero, List.set_cons_succ]
        refine wpAnyH_ready (rs := [11]) (by kernel_rfl) (by simp) ?_
        refine AllReadyH.cons (List.getElem?_toArray.trans (List.getElem?_cons_succ.trans (List.getElem?_cons_succ.trans (List.getElem?_cons_succ.trans (List.getElem?_cons_succ.trans (List.getElem?_cons_succ.trans (List.getElem?_cons_succ.trans (List.getElem?_cons_succ.trans (List.getElem?_cons_succ.trans (List.getElem?_cons_succ.trans (List.getElem?_cons_succ.trans (List.getElem?_cons_succ.trans (List.getElem?_cons_zero))))))))))))) (fun K hK => ?_) AllReadyH.nil
        go_simp
        go_at_call 19
        refine (HH.out _).mono ?_
        rintro e w10 ⟨rfl, hb10⟩
        rw [etv]
        refine hK.out _ _ (below_undr hb10) (fun hHeld => ?_)
        clear hK K
        try simp only [Act.put, List.setIfInBounds_toArray, List.set_cons_zero, List.set_cons_succ]
        refine wpAnyH_take (i := 12) (v := ?_) (List.getElem?_toArray.trans (List.getElem?_cons_succ.trans (List.getElem?_cons_succ.trans (List.getElem?_cons_succ.trans (List.getElem?_cons_succ.trans (List.getElem?_cons_succ.trans (List.getElem?_cons_succ.trans (List.getElem?_cons_succ.trans (List.getElem?_cons_succ.trans (List.getElem?_cons_succ.trans (List.getElem?_cons_succ.trans (List.getElem?_cons_succ.trans (List.getElem?_cons_succ.trans (List.getElem?_cons_zero)))))))))))))) (by kernel_rfl) (by kernel_rfl) (by kernel_rfl) (fun _ _ _ h => h) (Or.inl ⟨by rfl, ?_⟩) (by assumption) ?_
        rotate_left
        · intro w' hSw; (try dsimp only at hSw); go_simp; try with_reducible rfl
        try simp only [Act.put, List.setIfInBounds_toArray, List.set_cons_zero, List.set_cons_succ]
        refine wpAnyH_take (i := 13) (v := ?_) (List.getElem?_toArray.trans (List.getElem?_cons_succ.trans (List.getElem?_cons_succ.trans (List.getElem?_cons_succ.trans (List.getElem?_cons_succ.trans (List.getElem?_cons_succ.trans (List.getElem?_cons_succ.trans (List.getElem?_cons_succ.trans (List.getElem?_cons_succ.trans (List.getElem?_cons_succ.trans (List.getElem?_cons_succ.trans (List.getElem?_cons_succ.trans (List.getElem?_cons_succ.trans (List.getElem?_cons_succ.trans (List.getElem?_cons_zero))))))))))))))) (by kernel_rfl) (by kernel_rfl) (by kernel_rfl) (fun _ _ _ h => h) (Or.inl ⟨by rfl, ?_⟩) (by assumption) ?_
        rotate_left
        · intro w' hSw; (try dsimp only at hSw); go_simp; try with_reducible rfl
        try simp only [Act.put, List.setIfInBounds_toArray, List.set_cons_zero, List.set_cons_succ]
        refine wpAnyH_done (by kernel_rfl) ?_ _
        cases tv
        · go_wp2_with fail
          go_ret
          exact ⟨by show _ = Ending.returned (.bool (l.all F.txtS)); rw [HX.out.2.1 HP.out]; rfl, H9.out.1.trans ((below_undr hb10).mono H9.out.1.size)⟩
        · go_wp2_with fail
          go_roundw
          case rel => exact ⟨k + 1, by omega, by go_num, H9.out.1.trans ((below_undr hb10).mono H9.out.1.size), fun j hj => by
            rcases Nat.lt_or_ge j k with h8 | h8
            · exact HI.out.2 j h8
            · obtain rfl : j = k := by omega
              rw [HX.out.2.2]
              exact HP.out⟩
          case measure => simp [intOf]; omega
    · obtain rfl : k = n := by omega
      have hkn : ¬ (k : Int) < (k : Int) := by omega
      have hall := all_upto (p := F.txtS) (l := l) (fun j hj => HI.out.2 j (by rw [← H.out.2.2.1]; exact hj))
      go_wp2_with fail
      go_ret
      exact ⟨by show _ = Ending.returned (.bool (l.all F.txtS)); rw [hall]; rfl, HI.out.1⟩
set_option maxRecDepth 100000 in
set_option maxHeartbeats 4000000 in
set_option linter.unusedSimpArgs false in
theorem gfVanishes (w : World) (g : Nat) (F : Fc) (hF : F.Ok) (hf : FcAt w g F) (A : Option Addr) (l : List Sg) (n cp : Nat) (hA : Vs w w.heap.size A (svs l)) (hl : l.length = n) (hb : BodyOk l) : Calls Tryd.prog 41 #[.pointer (some ⟨g, 0, none⟩), .slice A n cp] w (BoolPost w (F.vanL l)) := by
  have hg : g < w.heap.size := Blk.lt hf
  have hn9 : n ≤ 9 := by rw [← hl]; exact hb.len
  have H := Lib.hid (And.intro hf (And.intro hA (And.intro hl (And.intro hb hF))))
  clear hf hA hl hb
  go_enter Tryd.func41, Tryd.ntmps41
  go_wp2_with fail
  go_loopw [9] (fun u wz => ∃ k : Nat, k ≤ n ∧ u = .int .i64 (k : Int) ∧ Below w.heap.size w wz ∧ ∀ j, j < k → F.vanS (l.getD j ⟨0, 0, 0⟩) = true) (fun u _ => n - (intOf u).toNat)
  case atStart => exact ⟨0, by omega, rfl, Below.refl _ _, fun j hj => by omega⟩
  case round =>
    obtain ⟨k, hk, rfl, hbel, hno⟩ := hrel
    have HI := Lib.hid (And.intro hbel hno)
    clear hno
    by_cases hlt : k < n
    · have hki : (k : Int) < (n : Int) := by omega
      have hk0 : (0 : Int) ≤ (k : Int) := by omega
      obtain ⟨b, o, rfl, hbl, hcl⟩ := svs_cells H.out.2.1 (k := k) (by rw [H.out.2.2.1]; exact hlt)
      have hsg := H.out.2.2.2.1.get (k := k) (by rw [H.out.2.2.1]; exact hlt)
      have hall := fun h => all_not (p := F.vanS) (l := l) (j := k) (by rw [H.out.2.2.1]; exact hlt) h
      have hcs := hcl wr hbel
      obtain ⟨x, ex⟩ : ∃ x, l.getD k ⟨0, 0, 0⟩ = x := ⟨_, rfl⟩
      rw [ex] at hcs hsg hall
      have HX := Lib.hid (And.intro hsg (And.intro hall ex))
      clear hcl hall ex hsg
      go_wp2_with (first
        | (with_reducible refine st_load 42 ?_; refine stopped ?_)
        | fail)
      refine go_on ?_
      refine wpList_load_at rfl 42 (.tmp 11) rfl b (o + k * 3) rfl x.cells.toArray _ hcs Tryd.underlying42 rfl sg_size4 ?_
      simp only [Act.put, List.setIfInBounds_toArray, List.set_cons_zero, List.set_cons_succ]
      refine wpList_alloc rfl 42 rfl _ sg_zero ?_
      intro w8 hb8 hw8 hz8
      simp only [Act.put, List.setIfInBounds_toArray, List.set_cons_zero, List.set_cons_succ]
      refine wpList_store_whole rfl 42 (.tmp 6) (.tmp 12) rfl wr.heap.size x.cells rfl rfl 42 (Sg.cells ⟨0, 0, 0⟩) hb8 sg_size4 rfl (sg_one4 _) ?_
      intro w9 hx9 hg9
      refine wpList_nil ?_
      simp only [Act.put, List.setIfInBounds_toArray, List.set_cons_zero, List.set_cons_succ]
      have hb9 : Below wr.heap.size wr w9 := hw8.grown hg9 hw8.size (fun j e => by cases e; exact Nat.le_refl _)
      have hb9' : Below w.heap.size w w9 := hbel.trans (hb9.mono hbel.size)
      obtain ⟨gx, egx⟩ : ∃ gx, wr.heap.size = gx := ⟨_, rfl⟩
      rw [egx] at hx9 ⊢
      obtain ⟨xn, exn⟩ : ∃ z, x.n = z := ⟨_, rfl⟩
      obtain ⟨xl, exl⟩ : ∃ z, x.lo = z := ⟨_, rfl⟩
      obtain ⟨xh, exh⟩ : ∃ z, x.hi = z := ⟨_, rfl⟩
      have k0 : ∀ W, Below w9.heap.size w9 W → W.cell? ⟨gx, 0, none⟩ = some (.int .i64 xn) := fun W h => by rw [h.cell (p := ⟨gx, 0, none⟩) hx9.lt, ← exn]; exact Blk.cell hx9 0
      have k1 : ∀ W, Below w9.heap.size w9 W → W.cell? ⟨gx, 1, none⟩ = some (.int .u8 (xl : Int)) := fun W h => by rw [h.cell (p := ⟨gx, 1, none⟩) hx9.lt, ← exl]; exact Blk.cell hx9 1
      have k2 : ∀ W, Below w9.heap.size w9 W → W.cell? ⟨gx, 2, none⟩ = some (.int .u8 (xh : Int)) := fun W h => by rw [h.cell (p := ⟨gx, 2, none⟩) hx9.lt, ← exh]; exact Blk.cell hx9 2
      have j0 := k0 w9 (Below.refl _ _)
      have j1 := k1 w9 (Below.refl _ _)
      have j2 := k2 w9 (Below.refl _ _)
      have hcF : ∀ W, Below w9.heap.size w9 W → Cells W g 4 (F.at 1).cells.toArray := fun W h => FcAt.cs (FcAt.below H.out.1 (hb9'.trans (h.mono hb9'.size)) hg) H.out.2.2.2.2 (by decide) rfl
      have HC := Lib.hid hcF
      have H9 := Lib.hid (And.intro hb9' (And.intro exn (And.intro exl exh)))
      clear hcF hx9 hg9 hb8 hw8 hz8 hb9 exn exl exh egx
      by_cases hneg : xn < 0
      · have hpv : F.vanS x = false := by unfold Fc.vanS; rw [if_pos (by rw [H9.out.2.1]; exact hneg)]
        have HP := Lib.hid hpv
        clear hpv
        go_wp2_with fail
        go_quiet (fail)
        rename_i nq
        go_wp2_with fail
        go_ret
        exact ⟨by show _ = Ending.returned (.bool (l.all F.vanS)); rw [HX.out.2.1 HP.out]; rfl, below_drewN H9.out.1 _⟩
      · obtain ⟨m, rfl⟩ : ∃ m : Nat, xn = (m : Int) := ⟨xn.toNat, by omega⟩
        have hm0 : (0 : Int) ≤ (m : Int) := by omega
        have hm16 : m < 16 := by have := HX.out.1.1; rw [H9.out.2.1] at this; omega
        have hcv := u8_wrap16 m (by omega)
        have hnn : decide ((m : Int) < 0) = false := decide_eq_false (by omega)
        have hnm : ((m : Int) < 0) = False := eq_false (by omega)
        have HH := Lib.hid (fun W => gsHas (F.at 1) (H.out.2.2.2.2.at 1) m (by omega) W)
        have hpv : F.vanS x = (F.at 1).has m := by unfold Fc.vanS; rw [H9.out.2.1, if_neg (by omega), Int.toNat_natCast]
        obtain ⟨tv, etv⟩ : ∃ z, (F.at 1).has m = z := ⟨_, rfl⟩
        rw [etv] at hpv
        have HP := Lib.hid hpv
        clear hpv
        go_wp2_with fail
        refine wp_region_held_drew (S := fun W => Below w9.heap.size w9 W) (by kernel_rfl) (Below.refl _ _).drew (fun hHeld => ?_)
        refine wpAnyH_take (i := 0) (v := ?_) (List.getElem?_toArray.trans (List.getElem?_cons_zero)) (by kernel_rfl) (by kernel_rfl) (by kernel_rfl) (fun _ _ _ h => h) (Or.inl ⟨by rfl, ?_⟩) (by assumption) ?_
        rotate_left
        · intro w' hSw; (try dsimp only at hSw); go_simp; try with_reducible rfl
        try simp only [Act.put, List.setIfInBounds_toArray, List.set_cons_zero, List.set_cons_succ]
        refine wpAnyH_take (i := 1) (v := ?_) (List.getElem?_toArray.trans (List.getElem?_cons_succ.trans (List.getElem?_cons_zero))) (by kernel_rfl) (by kernel_rfl) (by kernel_rfl) (fun _ _ _ h => h) (Or.inl ⟨by rfl, ?_⟩) (by assumption) ?_
        rotate_left
        · intro w' hSw; (try dsimp only at hSw); go_simp; try with_reducible rfl
        try simp only [Act.put, List.setIfInBounds_toArray, List.set_cons_zero, List.set_cons_succ]
        refine wpAnyH_take (i := 2) (v := ?_) (List.getElem?_toArray.trans (List.getElem?_cons_succ.trans (List.getElem?_cons_succ.trans (List.getElem?_cons_zero)))) (by kernel_rfl) (by kernel_rfl) (by kernel_rfl) (fun _ _ _ h => h) (Or.inl ⟨by rfl, ?_⟩) (by assumption) ?_
        rotate_left
        · intro w' hSw; (try dsimp only at hSw); go_simp; try with_reducible rfl
        try simp only [Act.put, List.setIfInBounds_toArray, List.set_cons_zero, List.set_cons_succ]
        refine wpAnyH_take (i := 3) (v := ?_) (List.getElem?_toArray.trans (List.getElem?_cons_succ.trans (List.getElem?_cons_succ.trans (List.getElem?_cons_succ.trans (List.getElem?_cons_zero))))) (by kernel_rfl) (by kernel_rfl) (by kernel_rfl) (fun _ _ _ h => h) (Or.inl ⟨by rfl, ?_⟩) (by assumption) ?_
        rotate_left
        · intro w' hSw; (try dsimp only at hSw); go_simp; try with_reducible rfl
        try simp only [Act.put, List.setIfInBounds_toArray, List.set_cons_zero, List.set_cons_succ]
        refine wpAnyH_take (i := 4) (v := ?_) (List.getElem?_toArray.trans (List.getElem?_cons_succ.trans (List.getElem?_cons_succ.trans (List.getElem?_cons_succ.trans (List.getElem?_cons_succ.trans (List.getElem?_cons_zero)))))) (by kernel_rfl) (by kernel_rfl) (by kernel_rfl) (fun _ _ _ h => h) (Or.inl ⟨by rfl, ?_⟩) (by assumption) ?_
        rotate_left
        · intro w' hSw; (try dsimp only at hSw); go_simp; try with_reducible rfl
        try simp only [Act.put, List.setIfInBounds_toArray, List.set_cons_zero, List.set_cons_succ]
        refine wpAnyH_take (i := 5) (v := ?_) (List.getElem?_toArray.trans (List.getElem?_cons_succ.trans (List.getElem?_cons_succ.trans (List.getElem?_cons_succ.trans (List.getElem?_cons_succ.trans (List.getElem?_cons_succ.trans (List.getElem?_cons_zero))))))) (by kernel_rfl) (by kernel_rfl) (by kernel_rfl) (fun _ _ _ h => h) (Or.inl ⟨by rfl, ?_⟩) (by assumption) ?_
        rotate_left
        · intro w' hSw; (try dsimp only at hSw); go_simp; try with_reducible rfl
        try simp only [Act.put, List.setIfInBounds_toArray, List.set_cons_zero, List.set_cons_succ]
        refine wpAnyH_take (i := 6) (v := ?_) (List.getElem?_toArray.trans (List.getElem?_cons_succ.trans (List.getElem?_cons_succ.trans (List.getElem?_cons_succ.trans (List.getElem?_cons_succ.trans (List.getElem?_cons_succ.trans (List.getElem?_cons_succ.trans (List.getElem?_cons_zero)))))))) (by kernel_rfl) (by kernel_rfl) (by kernel_rfl) (fun _ _ _ h => h) (Or.inl ⟨by rfl, ?_⟩) (by assumption) ?_
        rotate_left
        · intro w' hSw; (try dsimp only at hSw); go_simp; try with_reducible rfl
        try simp only [Act.put, List.setIfInBounds_toArray, List.set_cons_zero, List.set_cons_succ]
        refine wpAnyH_take (i := 7) (v := .agg (F.at 1).cells.toArray) (List.getElem?_toArray.trans (List.getElem?_cons_succ.trans (List.getElem?_cons_succ.trans (List.getElem?_cons_succ.trans (List.getElem?_cons_succ.trans (List.getElem?_cons_succ.trans (List.getElem?_cons_succ.trans (List.getElem?_cons_succ.trans (List.getElem?_cons_zero))))))))) (by kernel_rfl) (by kernel_rfl) (by kernel_rfl) (fun _ _ _ h => h) (Or.inl ⟨by rfl, ?_⟩) (by assumption) ?_
        · intro w' hSw; exact exec_load_ag 56 (.tmp 19) rfl g (4) rfl (F.at 1).cells.toArray _ (HC.out w' hSw) Tryd.underlying56 rfl set_size
        try simp only [Act.put, List.setIfInBounds_toArray, List.set_cons_zero, List.set_cons_succ]
        refine wpAnyH_take (i := 8) (v := ?_) (List.getElem?_toArray.trans (List.getElem?_cons_succ.trans (List.getElem?_cons_succ.trans (List.getElem?_cons_succ.trans (List.getElem?_cons_succ.trans (List.getElem?_cons_succ.trans (List.getElem?_cons_succ.trans (List.getElem?_cons_succ.trans (List.getElem?_cons_succ.trans (List.getElem?_cons_zero)))))))))) (by kernel_rfl) (by kernel_rfl) (by kernel_rfl) (fun _ _ _ h => h) (Or.inl ⟨by rfl, ?_⟩) (by assumption) ?_
        rotate_left
        · intro w' hSw; (try dsimp only at hSw); go_simp; try with_reducible rfl
        try simp only [Act.put, List.setIfInBounds_toArray, List.set_cons_zero, List.set_cons_succ]
        refine wpAnyH_take (i := 9) (v := ?_) (List.getElem?_toArray.trans (List.getElem?_cons_succ.trans (List.getElem?_cons_succ.trans (List.getElem?_cons_succ.trans (List.getElem?_cons_succ.trans (List.getElem?_cons_succ.trans (List.getElem?_cons_succ.trans (List.getElem?_cons_succ.trans (List.getElem?_cons_succ.trans (List.getElem?_cons_succ.trans (List.getElem?_cons_zero))))))))))) (by kernel_rfl) (by kernel_rfl) (by kernel_rfl) (fun _ _ _ h => h) (Or.inl ⟨by rfl, ?_⟩) (by assumption) ?_
        rotate_left
        · intro w' hSw; (try dsimp only at hSw); go_simp; try with_reducible rfl
        try simp only [Act.put, List.setIfInBounds_toArray, List.set_cons_zero, List.set_cons_succ]
        refine wpAnyH_take (i := 10) (v := ?_) (List.getElem?_toArray.trans (List.getElem?_cons_succ.trans (List.getElem?_cons_succ.trans (List.getElem?_cons_succ.trans (List.getElem?_cons_succ.trans (List.getElem?_cons_succ.trans (List.getElem?_cons_succ.trans (List.getElem?_cons_succ.trans (List.getElem?_cons_succ.trans (List.getElem?_cons_succ.trans (List.getElem?_cons_succ.trans (List.getElem?_cons_zero)))))))))))) (by kernel_rfl) (by kernel_rfl) (by kernel_rfl) (fun _ _ _ h => h) (Or.inl ⟨by rfl, ?_⟩) (by assumption) ?_
        rotate_left
        · intro w' hSw; (try dsimp only at hSw); go_simp; try with_reducible rfl
        try simp only [Act.put, List.setIfInBounds_toArray, List.set_cons_zero, List.set_cons_succ]
        refine wpAnyH_ready (rs := [11]) (by kernel_rfl) (by simp) ?_
        refine AllReadyH.cons (List.getElem?_toArray.trans (List.getElem?_cons_succ.trans (List.getElem?_cons_succ.trans (List.getElem?_cons_succ.trans (List.getElem?_cons_succ.trans (List.getElem?_cons_succ.trans (List.getElem?_cons_succ.trans (List.getElem?_cons_succ.trans (List.getElem?_cons_succ.trans (List.getElem?_cons_succ.trans (List.getElem?_cons_succ.trans (List.getElem?_cons_succ.trans (List.getElem?_cons_zero))))))))))))) (fun K hK => ?_) AllReadyH.nil
        go_simp
        go_at_call 19
        refine (HH.out _).mono ?_
        rintro e w10 ⟨rfl, hb10⟩
        rw [etv]
        refine hK.out _ _ (below_undr hb10) (fun hHeld => ?_)
        clear hK K
        try simp only [Act.put, List.setIfInBounds_toArray, List.set_cons_zero, List.set_cons_succ]
        refine wpAnyH_take (i := 12) (v := ?_) (List.getElem?_toArray.trans (List.getElem?_cons_succ.trans (List.getElem?_cons_succ.trans (List.getElem?_cons_succ.trans (List.getElem?_cons_succ.trans (List.getElem?_cons_succ.trans (List.getElem?_cons_succ.trans (List.getElem?_cons_succ.trans (List.getElem?_cons_succ.trans (List.getElem?_cons_succ.trans (List.getElem?_cons_succ.trans (List.getElem?_cons_succ.trans (List.getElem?_cons_succ.trans (List.getElem?_cons_zero)))))))))))))) (by kernel_rfl) (by kernel_rfl) (by kernel_rfl) (fun _ _ _ h => h) (Or.inl ⟨by rfl, ?_⟩) (by assumption) ?_
        rotate_left
        · intro w' hSw; (try dsimp only at hSw); go_simp; try with_reducible rfl
        try simp only [Act.put, List.setIfInBounds_toArray, List.set_cons_zero, List.set_cons_succ]
        refine wpAnyH_take (i := 13) (v := ?_) (List.getElem?_toArray.trans (List.getElem?_cons_succ.trans (List.getElem?_cons_succ.trans (List.getElem?_cons_succ.trans (List.getElem?_cons_succ.trans (List.getElem?_cons_succ.trans (List.getElem?_cons_succ.trans (List.getElem?_cons_succ.trans (List.getElem?_cons_succ.trans (List.getElem?_cons_succ.trans (List.getElem?_cons_succ.trans (List.getElem?_cons_succ.trans (List.getElem?_cons_succ.trans (List.getElem?_cons_succ.trans (List.getElem?_cons_zero))))))))))))))) (by kernel_rfl) (by kernel_rfl) (by kernel_rfl) (fun _ _ _ h => h) (Or.inl ⟨by rfl, ?_⟩) (by assumption) ?_
        rotate_left
        · intro w' hSw; (try dsimp only at hSw); go_simp; try with_reducible rfl
        try simp only [Act.put, List.setIfInBounds_toArray, List.set_cons_zero, List.set_cons_succ]
        refine wpAnyH_done (by kernel_rfl) ?_ _
        cases tv
        · go_wp2_with fail
          go_ret
          exact ⟨by show _ = Ending.returned (.bool (l.all F.vanS)); rw [HX.out.2.1 HP.out]; rfl, H9.out.1.trans ((below_undr hb10).mono H9.out.1.size)⟩
        · go_wp2_with fail
          go_roundw
          case rel => exact ⟨k + 1, by omega, by go_num, H9.out.1.trans ((below_undr hb10).mono H9.out.1.size), fun j hj => by
            rcases Nat.lt_or_ge j k with h8 | h8
            · exact HI.out.2 j h8
            · obtain rfl : j = k := by omega
              rw [HX.out.2.2]
              exact HP.out⟩
          case measure => simp [intOf]; omega
    · obtain rfl : k = n := by omega
      have hkn : ¬ (k : Int) < (k : Int) := by omega
      have hall := all_upto (p := F.vanS) (l := l) (fun j hj => HI.out.2 j (by rw [← H.out.2.2.1]; exact hj))
      go_wp2_with fail
      go_ret
      exact ⟨by show _ = Ending.returned (.bool (l.all F.vanS)); rw [hall]; rfl, HI.out.1⟩
end Go.Proofs.YthfbmihpdkkcjaaDoor
