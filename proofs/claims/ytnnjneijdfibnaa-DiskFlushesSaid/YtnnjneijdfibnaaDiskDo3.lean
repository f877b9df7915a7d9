/-
  The law's Do where it flushes. Conditions: the theorem's own premises.
-/
import Derived.Test.YtnnjneijdfibnaaDiskDo2
namespace Go.Proofs.Ytnnjneijdfibnaa
open Go.RowKit

theorem exec_load_row {P : Program} {w : World} {o : Oper} {a : Act} (ty : TypeId) (x : Operand) (ho : o.op = .load ty x) (g off : Nat) (hx : a.eval x = .pointer (some ⟨g, off, none⟩)) (cs : Array Value) (d : TypeDesc) (hc : Cells w g off cs)
    (hu : P.underlying ty = some d) (hd : agg? d = true) (hi : (P.info? ty).map (·.size) = some cs.size) : (execOp a.eval o).run P w = .ok (.value (.agg cs)) w := by
  unfold execOp
  simp only [ho, hx, Instr.loadAt, Instr.sureAddr, Sem.run_bind, Sem.run_pure, Result.andThen_ok, run_loadVar_at g off ty cs d hc hu hd hi]
theorem wp_store_row {P : Program} {w : World} {o : Oper} {a : Act} {K : Act → World → Prop} {Q : Exit → Act → World → Prop} (ty : TypeId) (x y : Operand) (ho : o.op = .store ty x y)
    (g : Nat) (cells : List Value) (hx : a.eval x = .pointer (some ⟨g, 0, none⟩)) (hy : a.eval y = .agg cells.toArray)
    (t : TypeId) (old : List Value) (hg : Blk w g t old.toArray) (hi : (P.info? ty).map (·.size) = some cells.length) (hfit : old.length = cells.length) (h1 : ∀ v ∈ cells, v.oneCell' = true)
    (h : ∀ w', Blk w' g t cells.toArray → w.grownBy w' (some g) → K (a.put o.dst undef) w') : o.wp P a w K Q := by
  obtain ⟨w', hrun, h2, h3⟩ := run_storeVar_at (P := P) g 0 ty t old cells hg hi (by omega) h1
  rw [splice_whole _ _ hfit] at h2
  unfold Oper.wp execOp
  simp only [ho, hx, hy, Instr.storeAt, Instr.sureAddr, Sem.run_bind, Sem.run_pure, Result.andThen_ok, hrun]
  exact h w' h2 h3
theorem laid_has (m : Dk) (b : Bool) (s : List Bool) : (m.laid b s).has.length = m.has.length := by simp [Dk.laid, lay_length]
theorem flush_has (m : Dk) : m.flush.1.has.length = m.has.length := by
  unfold Dk.flush
  split
  · rw [laid_has, step_has]
  · exact step_has m
theorem flush_waits (m : Dk) : m.flush.1.waits.length ≤ m.waits.length := by
  unfold Dk.flush
  split
  · simp [Dk.laid]
  · exact step_waits m
set_option maxRecDepth 100000 in
set_option maxHeartbeats 4000000 in
set_option linter.unusedSimpArgs false in
theorem do_flush (w : World) (gd : Nat) (F : Nat → Prop) (m : Dk) (k : Nat) (cs : List Value) (d : Dk) (a : ActV) (S : Option Addr) (n c : Nat) (h : DoPre w gd F m k cs d a S n) (hdo : a.do_ = 4) :
    Calls Try.prog 25 #[.pointer (some ⟨gd, 0, none⟩), .agg cs.toArray, .agg (actCells a S c).toArray] w (DoPost w gd F k cs d S n) := by
  obtain ⟨hok, A0, W0, S0, ca0, cw0, cv0, ecs, hA0, hW0, hS0⟩ := h.ref
  have hRef : RefIs w w.heap.size cs d := h.ref
  have hlen : cs.length = 5 := by rw [ecs]; rfl
  have hone : ∀ v ∈ cs, v.oneCell' = true := by rw [ecs]; exact refCells_one _ _ _ _ _ _ _
  have HC5 := Lib.hid (And.intro hlen (And.intro hone ecs))
  have HH := Lib.hid h
  obtain ⟨X, eX⟩ : ∃ X, actCells a S c = X := ⟨_, rfl⟩
  have HX := Lib.hid eX
  rw [eX]
  obtain ⟨C, eC⟩ : ∃ C, cs.toArray = C := ⟨_, rfl⟩
  obtain ⟨Y, eY⟩ : ∃ Y, X.toArray = Y := ⟨_, rfl⟩
  rw [eC, eY]
  have HCY := Lib.hid (And.intro eC eY)
  clear hok hA0 hW0 hS0 hlen hone h hRef eX eC eY
  clear ecs
  go_enter Try.func25, Try.ntmps25
  go_wp2_with (first | (with_reducible refine st_box 57 ?_; refine stopped ?_) | fail)
  refine go_on ?_
  refine wpList_box rfl 57 (.tmp 1) rfl C rfl ?_
  intro w1 hb1 hw1 hz1
  refine wpList_box rfl 44 (.tmp 2) rfl Y rfl ?_
  intro w2 hb2 hw2 hz2
  refine wpList_alloc rfl 57 rfl _ rdisk_zero ?_
  intro w3 hb3 hw3 hz3
  obtain ⟨g4, e4⟩ : ∃ g, w.heap.size = g := ⟨_, rfl⟩
  have e5 : w1.heap.size = g4 + 1 := by omega
  have e6 : w2.heap.size = g4 + 2 := by omega
  rw [e4] at hb1 hw1 ⊢
  rw [e5] at hb2 hw2 ⊢
  rw [e6] at hb3 hw3 ⊢
  simp only [Act.put, List.setIfInBounds_toArray, List.set_cons_zero, List.set_cons_succ]
  rw [← HCY.out.1] at hb1
  rw [← HCY.out.2] at hb2
  have hbw : Below g4 w w3 := (hw1.trans (hw2.mono (by omega))).trans (hw3.mono (by omega))
  have hst : DoS w w3 gd g4 F F m cs d S n cs d X := ⟨HH.out.code.below (e4.symm ▸ hbw), (HH.out.ref.below (e4.symm ▸ hbw)).more (by omega), HH.out.far, HH.out.ref.beyond (by omega), HH.out.ref.beyond (by omega), fun _ _ h _ => h,
    (hb1.below hw2 (by omega)).below hw3 (by omega), hb2.below hw3 (by omega), hb3, e4, fun g hg => by have := HH.out.code.lt g hg; omega, .of_below (e4.symm ▸ hbw), fun _ => .inl⟩
  have HS := Lib.hid hst
  have hcd : w3.cell? ⟨g4 + 1, 0, none⟩ = some (.int .i64 a.do_) := by rw [hst.b5.cell, ← HX.out]; rfl
  have hca : w3.cell? ⟨g4 + 1, 1, none⟩ = some (.int .i64 a.at_) := by rw [hst.b5.cell, ← HX.out]; rfl
  have hco : w3.cell? ⟨g4 + 1, 2, none⟩ = some (.int .i64 a.off) := by rw [hst.b5.cell, ← HX.out]; rfl
  have hcf : w3.cell? ⟨g4 + 1, 3, none⟩ = some (.int .u8 (a.fill.toNat : Int)) := by rw [hst.b5.cell, ← HX.out]; rfl
  have hck : w3.cell? ⟨g4 + 1, 4, none⟩ = some (.slice S n c) := by rw [hst.b5.cell, ← HX.out, ← HH.out.keep]; rfl
  have hbase := e4
  clear hb1 hb2 hb3 hw1 hw2 hw3 hz1 hz2 hz3 e4 e5 e6 hbw hst
  obtain ⟨pd, epd⟩ : ∃ x, a.do_ = x := ⟨_, rfl⟩
  obtain ⟨pa, epa⟩ : ∃ x, a.at_ = x := ⟨_, rfl⟩
  obtain ⟨po, epo⟩ : ∃ x, a.off = x := ⟨_, rfl⟩
  obtain ⟨fl, efl⟩ : ∃ x, a.fill.toNat = x := ⟨_, rfl⟩
  rw [epd] at hcd
  rw [epa] at hca
  rw [epo] at hco
  rw [efl] at hcf
  have HAt := Lib.hid (And.intro epd (And.intro epa (And.intro epo efl)))
  rw [hdo] at epd
  subst epd
  clear epa epo efl hdo
  go_wp2_with (first | (with_reducible refine st_load 57 ?_; refine stopped ?_) | fail)
  refine go_on ?_
  refine wpList_load_at rfl 57 (.tmp 4) rfl g4 0 rfl cs.toArray _ (Blk.cells HS.out.b4) Try.underlying57 rfl (rsize_arr HC5.out.1) ?_
  simp only [Act.put, List.setIfInBounds_toArray, List.set_cons_zero, List.set_cons_succ]
  have hrc := refFlush_any w3 cs d HS.out.ref (by have := HH.out.kd; have := HH.out.kk; omega)
  have HRc := Lib.hid hrc
  clear hrc
  go_wp2_with fail
  refine HRc.out.mono ?_
  rintro e w4 ⟨cs5, rfl, hR5, hf5, hb5⟩
  have hsh := hR5.shape
  have HR5 := Lib.hid (And.intro hR5 (And.intro hf5 (And.intro hb5 hsh)))
  clear hR5 hf5 hb5 hsh
  obtain ⟨nd, end_⟩ : ∃ x, d.flush.2 = x := ⟨_, rfl⟩
  rw [end_]
  clear end_ hca hco hcf hck
  go_wp2_with (first | (with_reducible refine st_store 57 ?_; refine stopped ?_) | fail)
  refine go_on ?_
  refine wpList_store_whole rfl 57 (.tmp 4) (.tmp 67) rfl g4 cs5 rfl rfl 57 cs (HS.out.b4.below HR5.out.2.2.1 (by have := HS.out.siz; omega)) (rsize_of HR5.out.2.2.2.1) (by rw [HC5.out.1, HR5.out.2.2.2.1]) HR5.out.2.2.2.2 ?_
  intro w5 hb5 hg5
  simp only [Act.put, List.setIfInBounds_toArray, List.set_cons_zero, List.set_cons_succ]
  have HS5 := Lib.hid (HS.out.onRef HR5.out.1 HR5.out.2.1 HR5.out.2.2.1 hg5 hb5)
  have HSd := Lib.hid (HS5.out.below ((Below.refl w5.heap.size w5).drew))
  clear hb5 hg5
  go_wp2_with fail
  have hS0 : (fun w' : World => Blk w' g4 57 cs5.toArray) w5.drew := HS5.out.b4
  refine wp_region_held_drew (S := fun w' => Blk w' g4 57 cs5.toArray) (by kernel_rfl) hS0 (fun hHeld => ?_)
  refine wpAnyH_take (i := 1) (v := ?_) (List.getElem?_toArray.trans (List.getElem?_cons_succ.trans (List.getElem?_cons_zero))) (by kernel_rfl) (by kernel_rfl) (by kernel_rfl) (fun _ _ _ h => h) (Or.inl ⟨by rfl, ?_⟩) (by assumption) ?_
  rotate_left
  · intro w' hSw; (try dsimp only at hSw); go_simp; try with_reducible rfl
  try simp only [Act.put, List.setIfInBounds_toArray, List.set_cons_zero, List.set_cons_succ]
  refine wpAnyH_take (i := 3) (v := ?_) (List.getElem?_toArray.trans (List.getElem?_cons_succ.trans (List.getElem?_cons_succ.trans (List.getElem?_cons_succ.trans (List.getElem?_cons_zero))))) (by kernel_rfl) (by kernel_rfl) (by kernel_rfl) (fun _ _ _ h => h) (Or.inl ⟨by rfl, ?_⟩) (by assumption) ?_
  rotate_left
  · intro w' hSw; (try dsimp only at hSw); go_simp; try with_reducible rfl
  try simp only [Act.put, List.setIfInBounds_toArray, List.set_cons_zero, List.set_cons_succ]
  refine wpAnyH_take (i := 0) (v := .agg cs5.toArray) (List.getElem?_toArray.trans (List.getElem?_cons_zero)) (by kernel_rfl) (by kernel_rfl) (by kernel_rfl) (fun _ _ _ h => h) (Or.inl ⟨by rfl, ?_⟩) (by assumption) ?_
  · intro w' hSw; exact exec_load_row 57 (.tmp 4) rfl g4 0 rfl cs5.toArray _ (Blk.cells hSw) Try.underlying57 rfl (rsize_arr HR5.out.2.2.2.1)
  try simp only [Act.put, List.setIfInBounds_toArray, List.set_cons_zero, List.set_cons_succ]
  refine wpAnyH_ready (rs := [2]) (by kernel_rfl) (by simp) ?_
  refine AllReadyH.cons (List.getElem?_toArray.trans (List.getElem?_cons_succ.trans (List.getElem?_cons_succ.trans (List.getElem?_cons_zero)))) (fun K hK => ?_) AllReadyH.nil
  go_simp
  refine (dkFlush w5.drew gd F m HSd.out.code (by have := HH.out.km; have := HH.out.kk; omega)).mono ?_
  rintro e w6 ⟨rfl, h6, hk6⟩
  have HS6 := Lib.hid (HSd.out.onCode h6 hk6 (fun _ => .inl))
  obtain ⟨nm, enm⟩ : ∃ x, m.flush.2 = x := ⟨_, rfl⟩
  rw [enm]
  have hS6 : (fun w' : World => Blk w' g4 57 cs5.toArray) w6 := HS6.out.b4
  clear h6 hk6 enm
  refine hK.out _ _ hS6 (fun hHeld => ?_)
  clear hK K
  try simp only [Act.put, List.setIfInBounds_toArray, List.set_cons_zero, List.set_cons_succ]
  refine wpAnyH_take (i := 4) (v := ?_) (List.getElem?_toArray.trans (List.getElem?_cons_succ.trans (List.getElem?_cons_succ.trans (List.getElem?_cons_succ.trans (List.getElem?_cons_succ.trans (List.getElem?_cons_zero)))))) (by kernel_rfl) (by kernel_rfl) (by kernel_rfl) (fun _ _ _ h => h) (Or.inl ⟨by rfl, ?_⟩) (by assumption) ?_
  rotate_left
  · intro w' hSw; (try dsimp only at hSw); go_simp; try with_reducible rfl
  try simp only [Act.put, List.setIfInBounds_toArray, List.set_cons_zero, List.set_cons_succ]
  refine wpAnyH_ready (rs := [5]) (by kernel_rfl) (by simp) ?_
  refine AllReadyH.cons (List.getElem?_toArray.trans (List.getElem?_cons_succ.trans (List.getElem?_cons_succ.trans (List.getElem?_cons_succ.trans (List.getElem?_cons_succ.trans (List.getElem?_cons_succ.trans (List.getElem?_cons_zero))))))) (fun K hK => ?_) AllReadyH.nil
  refine wp_store_row 57 (.tmp 6) (.tmp 69) rfl (g4 + 2) cs5 rfl rfl 57 rzero HS6.out.b6 (rsize_of HR5.out.2.2.2.1) (by rw [HR5.out.2.2.2.1]; rfl) HR5.out.2.2.2.2 ?_
  intro w7 hb7 hg7
  have hS7 : (fun w' : World => Blk w' g4 57 cs5.toArray) w7 := HS6.out.b4.grown hg7 (some_neq (by omega))
  refine hK.out _ _ hS7 (fun hHeld => ?_)
  clear hK K
  try simp only [Act.put, List.setIfInBounds_toArray, List.set_cons_zero, List.set_cons_succ]
  refine wpAnyH_take (i := 6) (v := ?_) (List.getElem?_toArray.trans (List.getElem?_cons_succ.trans (List.getElem?_cons_succ.trans (List.getElem?_cons_succ.trans (List.getElem?_cons_succ.trans (List.getElem?_cons_succ.trans (List.getElem?_cons_succ.trans (List.getElem?_cons_zero)))))))) (by kernel_rfl) (by kernel_rfl) (by kernel_rfl) (fun _ _ _ h => h) (Or.inl ⟨by rfl, ?_⟩) (by assumption) ?_
  rotate_left
  · intro w' hSw; (try dsimp only at hSw); go_simp; try with_reducible rfl
  try simp only [Act.put, List.setIfInBounds_toArray, List.set_cons_zero, List.set_cons_succ]
  refine wpAnyH_done (by kernel_rfl) ?_ _
  repeat (first | go_values | go_skip | go_guarded | go_step)
  refine bodyPost_rowv rfl (g4 + 2) rfl (.bool _) rfl 57 _ _ hb7 Try.underlying57 rfl (rsize_arr HR5.out.2.2.2.1) rfl ?_
  exact HS6.out.done hg7 _ (by have := flush_waits m; have := HH.out.km; omega) (by have := flush_waits d; have := HH.out.kd; omega) (by rw [flush_has]; exact HH.out.m4) (by rw [flush_has]; exact HH.out.d4) (by rw [HH.out.md])
end Go.Proofs.Ytnnjneijdfibnaa
