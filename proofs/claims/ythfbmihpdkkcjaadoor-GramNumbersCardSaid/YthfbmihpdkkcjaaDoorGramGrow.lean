/-
  The closure of package gram's study: a set grows, and it is noted; by its contract. Conditions: the theorem's own premises.
-/
import Derived.Test.YthfbmihpdkkcjaaDoorGramFc3
namespace Go.Proofs.YthfbmihpdkkcjaaDoor
open Go.RowKit

theorem splice_app {α : Type} (a b c : List α) {o : Nat} (h : o + c.length ≤ a.length) : splice (a ++ b) o c = splice a o c ++ b := by
  unfold splice
  rw [List.take_append_of_le_length (by omega), List.drop_append_of_le_length h, List.append_assoc, List.append_assoc]
theorem Fc.cells_setS {F : Fc} (hF : F.Ok) {i o : Nat} (hi : i < 82) (ho : o = 4 * i) (s : S4) : splice F.cells o s.cells = (F.setS i s).cells := by
  subst ho
  unfold Fc.cells Fc.setS
  rw [splice_app _ _ _ (by rw [scs_length, hF.n]; simp [S4.cells]; omega), scs_set s (by rw [hF.n]; exact hi)]
theorem Fc.setS_self {F : Fc} (hF : F.Ok) {i : Nat} (hi : i < 82) : F.setS i (F.at i) = F := by
  unfold Fc.setS Fc.at
  cases F with
  | mk ss rs =>
    simp only [Fc.mk.injEq, and_true]
    have h : i < ss.length := by have := hF.n; simp only at this; omega
    rw [List.getD_eq_getElem?_getD, List.getElem?_eq_getElem h]
    exact List.set_getElem_self h
def GrowPost (w : World) (g gr : Nat) (F : Fc) (b : Bool) (i : Nat) (s : S4) (e : Ending) (w' : World) : Prop :=
  e = .returned (.tuple #[]) ∧ FcAt w' g (F.setS i ((F.at i).or s)) ∧ Blk w' gr 4 #[.bool (b || decide ((F.at i).or s ≠ F.at i))] ∧ Kept (fun j => j = g ∨ j = gr) w w'
section
variable {P : Program} {w : World} {o : Oper} {a : Act}
theorem wp_alloc_ag {K : Act → World → Prop} {Q : Exit → Act → World → Prop} (ty : TypeId) (ho : o.op = .alloc ty)
    (cs : Array Value) (hz : (P.info? ty).map (·.zero) = some (some (.agg cs)))
    (h : ∀ w', Blk w' w.heap.size ty cs → Below w.heap.size w w' → w'.heap.size = w.heap.size + 1 → K (a.put o.dst (.pointer (some ⟨w.heap.size, 0, none⟩))) w') : o.wp P a w K Q := by
  have e : (Instr.alloc ty true (.tuple #[])).run P w = .ok (.pointer (some ⟨w.heap.size, 0, none⟩)) (w.alloc (.cells cs ty)) := by
    cases hq : P.info? ty with
    | none => simp [hq] at hz
    | some i =>
      have hs : i.zero = some (.agg cs) := by simpa [hq] using hz
      simp [Instr.alloc, zeroValue, typeInfo, hq, hs, newVar, newRow, Value.cells]
  unfold Oper.wp execOp
  simp only [ho, Sem.run_bind, Sem.run_pure, Result.andThen_ok, e]
  exact h _ (Blk.new w ty cs) (below_alloc w _) (by simp)
end
set_option maxRecDepth 100000 in
set_option maxHeartbeats 4000000 in
set_option linter.unusedSimpArgs false in
theorem gfGrow (w : World) (F : Fc) (g gr : Nat) (b : Bool) (hf : FcAt w g F) (hr : Blk w gr 4 #[.bool b]) (hF : F.Ok) (i o : Nat) (hi : i < 82) (ho : o = 4 * i) (s : S4) (hs : s.Ok) : Calls Tryd.prog 37 #[.pointer (some ⟨g, o, none⟩), .agg s.cells.toArray, .pointer (some ⟨gr, 0, none⟩)] w (GrowPost w g gr F b i s) := by
  have hne : g ≠ gr := Blk.apart hf hr (by decide)
  have H := Lib.hid (And.intro hf (And.intro hr (And.intro hF (And.intro hi ho))))
  have HYo := hF.at i
  obtain ⟨Y, eY⟩ : ∃ Y, F.at i = Y := ⟨_, rfl⟩
  rw [eY] at HYo
  have HY := Lib.hid eY
  obtain ⟨V, eV⟩ : ∃ V, Y.or s = V := ⟨_, rfl⟩
  have hVor : Y.or s = V := eV
  clear hf hr hi ho eY eV
  obtain ⟨X, eX⟩ : ∃ X, s.cells.toArray = X := ⟨_, rfl⟩
  rw [eX]
  go_enter Tryd.func37, Tryd.ntmps37
  go_wp2_with (first
    | (refine wpList_box rfl 56 (.tmp 1) rfl X rfl ?_; intro w1 hb1 hw1 hz1)
    | fail)
  rw [← eX] at hb1
  obtain ⟨g4, eg4⟩ : ∃ z, w.heap.size = z := ⟨_, rfl⟩
  have hfx := FcAt.below H.out.1 hw1 H.out.1.lt
  have hcY : ∀ W, Below w1.heap.size w1 W → Cells W g o Y.cells.toArray := fun W h => HY.out ▸ FcAt.cs (FcAt.below hfx h hfx.lt) H.out.2.2.1 H.out.2.2.2.1 H.out.2.2.2.2
  have hcs : ∀ W, Below w1.heap.size w1 W → SetAt W w.heap.size s := fun W h => Blk.below hb1 h hb1.lt
  have HC := Lib.hid (And.intro hcY hcs)
  have HW := Lib.hid hw1
  clear hcY hcs hfx eg4 eX hz1
  refine wp_region_held_drew (S := fun W : World => Below w1.heap.size w1 W) (by kernel_rfl) (Below.refl _ _).drew (fun hHeld => ?_)
  refine wpAnyH_take (i := 0) (v := ?_) (List.getElem?_toArray.trans (List.getElem?_cons_zero)) (by kernel_rfl) (by kernel_rfl) (by kernel_rfl) (fun _ _ _ h => h) (Or.inl ⟨by rfl, ?_⟩) (by assumption) ?_
  rotate_left
  · intro w' hSw; (try dsimp only at hSw); go_simp; try with_reducible rfl
  try simp only [Act.put, List.setIfInBounds_toArray, List.set_cons_zero, List.set_cons_succ]
  refine wpAnyH_take (i := 1) (v := ?_) (List.getElem?_toArray.trans (List.getElem?_cons_succ.trans (List.getElem?_cons_zero))) (by kernel_rfl) (by kernel_rfl) (by kernel_rfl) (fun _ _ _ h => h) (Or.inl ⟨by rfl, ?_⟩) (by assumption) ?_
  rotate_left
  · intro w' hSw; (try dsimp only at hSw); go_simp; try with_reducible rfl
  try simp only [Act.put, List.setIfInBounds_toArray, List.set_cons_zero, List.set_cons_succ]
  refine wpAnyH_take (i := 2) (v := .agg (Y).cells.toArray) (List.getElem?_toArray.trans (List.getElem?_cons_succ.trans (List.getElem?_cons_succ.trans (List.getElem?_cons_zero)))) (by kernel_rfl) (by kernel_rfl) (by kernel_rfl) (fun _ _ _ h => h) (Or.inl ⟨by rfl, ?_⟩) (by assumption) ?_
  · intro w' hSw; exact exec_load_ag 56 (.tmp 7) rfl g (o) rfl (Y).cells.toArray _ (HC.out.1 w' hSw) Tryd.underlying56 rfl set_size
  try simp only [Act.put, List.setIfInBounds_toArray, List.set_cons_zero, List.set_cons_succ]
  refine wpAnyH_take (i := 3) (v := .agg (s).cells.toArray) (List.getElem?_toArray.trans (List.getElem?_cons_succ.trans (List.getElem?_cons_succ.trans (List.getElem?_cons_succ.trans (List.getElem?_cons_zero))))) (by kernel_rfl) (by kernel_rfl) (by kernel_rfl) (fun _ _ _ h => h) (Or.inl ⟨by rfl, ?_⟩) (by assumption) ?_
  · intro w' hSw; exact exec_load_ag 56 (.tmp 4) rfl w.heap.size (0) rfl (s).cells.toArray _ (Blk.cells (HC.out.2 w' hSw)) Tryd.underlying56 rfl set_size
  try simp only [Act.put, List.setIfInBounds_toArray, List.set_cons_zero, List.set_cons_succ]
  refine wpAnyH_ready (rs := [4, 5]) (by kernel_rfl) (by simp) ?_
  refine AllReadyH.cons (List.getElem?_toArray.trans (List.getElem?_cons_succ.trans (List.getElem?_cons_succ.trans (List.getElem?_cons_succ.trans (List.getElem?_cons_succ.trans (List.getElem?_cons_zero)))))) (fun K hK => ?_) ?_
  · go_simp
    go_at_call 38
    refine (gsUnion Y s HYo hs _).mono ?_
    rintro e w3 ⟨rfl, hb3⟩
    rw [hVor]
    refine hK.out _ _ (below_undr hb3) (fun hHeld => ?_)
    clear hK K
    try simp only [Act.put, List.setIfInBounds_toArray, List.set_cons_zero, List.set_cons_succ]
    refine wpAnyH_ready (rs := [5]) (by kernel_rfl) (by simp) ?_
    refine AllReadyH.cons (List.getElem?_toArray.trans (List.getElem?_cons_succ.trans (List.getElem?_cons_succ.trans (List.getElem?_cons_succ.trans (List.getElem?_cons_succ.trans (List.getElem?_cons_succ.trans (List.getElem?_cons_zero))))))) (fun K hK => ?_) AllReadyH.nil
    refine wp_alloc_ag 56 rfl _ set_zero ?_
    intro w4 hb4 hw4 hz4
    refine hK.out _ _ ((below_undr hb3).trans (hw4.mono (below_undr hb3).size)) (fun hHeld => ?_)
    clear hK K
    try simp only [Act.put, List.setIfInBounds_toArray, List.set_cons_zero, List.set_cons_succ]
    have hb13 : Below w1.heap.size w1 w3 := below_undr hb3
    have hb14 : Below w1.heap.size w1 w4 := hb13.trans (hw4.mono hb13.size)
    have hbw4 : Below w.heap.size w w4 := HW.out.trans (hb14.mono HW.out.size)
    have hge : w1.heap.size ≤ w3.heap.size := hb13.size
    have hgew : w.heap.size ≤ w3.heap.size := Nat.le_trans HW.out.size hge
    refine wpAnyH_ready (rs := [6]) (by kernel_rfl) (by simp) ?_
    refine AllReadyH.cons (List.getElem?_toArray.trans (List.getElem?_cons_succ.trans (List.getElem?_cons_succ.trans (List.getElem?_cons_succ.trans (List.getElem?_cons_succ.trans (List.getElem?_cons_succ.trans (List.getElem?_cons_succ.trans (List.getElem?_cons_zero)))))))) (fun K hK => ?_) AllReadyH.nil
    refine wp_store_ag 56 (.tmp 5) (.tmp 10) rfl w3.heap.size 0 V.cells rfl rfl 56 S4.z.cells hb4 set_size (by show 0 + 4 ≤ 4; decide) (set_one _) ?_
    intro w6 hb6 hg6
    rw [splice_whole S4.z.cells V.cells rfl] at hb6
    refine hK.out _ _ (hb14.grown hg6 hb14.size (fun j e => by cases e; exact hge)) (fun hHeld => ?_)
    clear hK K
    try simp only [Act.put, List.setIfInBounds_toArray, List.set_cons_zero, List.set_cons_succ]
    refine wpAnyH_done (by kernel_rfl) ?_ _
    obtain ⟨gv, egv⟩ : ∃ z, w3.heap.size = z := ⟨_, rfl⟩
    have hgv : SetAt w6 gv V := by rw [← egv]; exact hb6
    have hbW : Below w.heap.size w w6 := hbw4.grown hg6 hbw4.size (fun j e => by cases e; exact hgew)
    clear hb6 hg6 hbw4 hb13 hb14 hb4 hw4 hz4
    rw [egv]
    obtain ⟨W, eW⟩ : ∃ W, w6 = W := ⟨_, rfl⟩
    rw [eW] at hgv hbW ⊢
    clear eW
    have hfW := FcAt.below H.out.1 hbW H.out.1.lt
    have hrW := Blk.below H.out.2.1 hbW H.out.2.1.lt
    have hq := run_eqSet V Y
    go_wp2_with fail
    have hS1 : (fun W : World => SetAt W gv V ∧ Cells W g o Y.cells.toArray) W.drew := ⟨hgv.drew, HY.out ▸ FcAt.cs (Blk.drewN hfW 1) H.out.2.2.1 H.out.2.2.2.1 H.out.2.2.2.2⟩
    refine wp_region_held_drew (S := fun W : World => SetAt W gv V ∧ Cells W g o Y.cells.toArray) (by kernel_rfl) hS1 (fun hHeld => ?_)
    refine wpAnyH_take (i := 0) (v := .agg (V).cells.toArray) (List.getElem?_toArray.trans (List.getElem?_cons_zero)) (by kernel_rfl) (by kernel_rfl) (by kernel_rfl) (fun _ _ _ h => h) (Or.inl ⟨by rfl, ?_⟩) (by assumption) ?_
    · intro w' hSw; exact exec_load_ag 56 (.tmp 5) rfl gv (0) rfl (V).cells.toArray _ (Blk.cells hSw.1) Tryd.underlying56 rfl set_size
    try simp only [Act.put, List.setIfInBounds_toArray, List.set_cons_zero, List.set_cons_succ]
    refine wpAnyH_take (i := 1) (v := ?_) (List.getElem?_toArray.trans (List.getElem?_cons_succ.trans (List.getElem?_cons_zero))) (by kernel_rfl) (by kernel_rfl) (by kernel_rfl) (fun _ _ _ h => h) (Or.inl ⟨by rfl, ?_⟩) (by assumption) ?_
    rotate_left
    · intro w' hSw; (try dsimp only at hSw); go_simp; try with_reducible rfl
    try simp only [Act.put, List.setIfInBounds_toArray, List.set_cons_zero, List.set_cons_succ]
    refine wpAnyH_take (i := 2) (v := ?_) (List.getElem?_toArray.trans (List.getElem?_cons_succ.trans (List.getElem?_cons_succ.trans (List.getElem?_cons_zero)))) (by kernel_rfl) (by kernel_rfl) (by kernel_rfl) (fun _ _ _ h => h) (Or.inl ⟨by rfl, ?_⟩) (by assumption) ?_
    rotate_left
    · intro w' hSw; (try dsimp only at hSw); go_simp; try with_reducible rfl
    try simp only [Act.put, List.setIfInBounds_toArray, List.set_cons_zero, List.set_cons_succ]
    refine wpAnyH_take (i := 3) (v := .agg (Y).cells.toArray) (List.getElem?_toArray.trans (List.getElem?_cons_succ.trans (List.getElem?_cons_succ.trans (List.getElem?_cons_succ.trans (List.getElem?_cons_zero))))) (by kernel_rfl) (by kernel_rfl) (by kernel_rfl) (fun _ _ _ h => h) (Or.inl ⟨by rfl, ?_⟩) (by assumption) ?_
    · intro w' hSw; exact exec_load_ag 56 (.tmp 13) rfl g (o) rfl (Y).cells.toArray _ (hSw.2) Tryd.underlying56 rfl set_size
    try simp only [Act.put, List.setIfInBounds_toArray, List.set_cons_zero, List.set_cons_succ]
    refine wpAnyH_take (i := 4) (v := ?_) (List.getElem?_toArray.trans (List.getElem?_cons_succ.trans (List.getElem?_cons_succ.trans (List.getElem?_cons_succ.trans (List.getElem?_cons_succ.trans (List.getElem?_cons_zero)))))) (by kernel_rfl) (by kernel_rfl) (by kernel_rfl) (fun _ _ _ h => h) (Or.inl ⟨by rfl, ?_⟩) (by assumption) ?_
    rotate_left
    · intro w' hSw; (try dsimp only at hSw); go_simp; try with_reducible rfl
    try simp only [Act.put, List.setIfInBounds_toArray, List.set_cons_zero, List.set_cons_succ]
    refine wpAnyH_done (by kernel_rfl) ?_ _
    cases hd : decide (V = Y) with
    | true =>
      have hVY : V = Y := of_decide_eq_true hd
      go_wp2_with fail
      (first | go_end0 | refine bodyPost_ret (results_none rfl _ _ _) rfl ?_)
      refine ⟨rfl, ?_, ?_, Kept.of_below (below_drewN hbW 1)⟩
      · rw [HY.out, hVor, hVY, ← HY.out, Fc.setS_self H.out.2.2.1 H.out.2.2.2.1]
        exact Blk.drewN hfW 1
      · rw [HY.out, hVor, decide_eq_false (by rw [hVY]; exact fun h => h rfl), Bool.or_false]
        exact Blk.drewN hrW 1
    | false =>
      have hVY : V ≠ Y := of_decide_eq_false hd
      go_wp2_with (first
        | (with_reducible refine st_load 56 ?_; refine stopped ?_)
        | fail)
      refine go_on ?_
      refine wpList_load_at rfl 56 (.tmp 5) rfl gv 0 rfl V.cells.toArray _ (Blk.cells hgv.drew) Tryd.underlying56 rfl set_size ?_
      simp only [Act.put, List.setIfInBounds_toArray, List.set_cons_zero, List.set_cons_succ]
      go_wp2_with (first
        | (with_reducible refine st_store 56 ?_; refine stopped ?_)
        | fail)
      refine go_on ?_
      refine wpList_store_at rfl 56 (.tmp 18) (.tmp 17) rfl g o V.cells rfl rfl 61 F.cells (Blk.drewN hfW 1) set_size (by rw [Fc.cells_length H.out.2.2.1]; have := H.out.2.2.2.1; have := H.out.2.2.2.2; show o + 4 ≤ 344; omega) (set_one _) ?_
      intro w8 hb8 hg8
      rw [Fc.cells_setS H.out.2.2.1 H.out.2.2.2.1 H.out.2.2.2.2] at hb8
      refine wpList_nil ?_
      simp only [Act.put, List.setIfInBounds_toArray, List.set_cons_zero, List.set_cons_succ]
      have hr8 := Blk.grown (Blk.drewN hrW 1) hg8 (some_neq (Ne.symm hne))
      have c8 : w8.cell? ⟨gr, 0, none⟩ = some (.bool b) := Blk.cell hr8 0
      have f8 : w8.frozen? ⟨gr, 0, none⟩ = false := Blk.frozen hr8 0
      have hr9 := Blk.set_ hr8 0 (.bool true)
      have hf9 : FcAt (w8.setCell ⟨gr, 0, none⟩ (.bool true)) g (F.setS i V) := Blk.far hb8 (p := ⟨gr, 0, none⟩) hne _
      have hk8 : Kept (fun j => j = g ∨ j = gr) w w8 := Kept.trans (Kept.of_below (below_drewN hbW 1)) (Kept.of_grown hg8 (fun j e => .inl (.inl (Option.some.inj e).symm))) (fun _ => .inl)
      have hk9 : Kept (fun j => j = g ∨ j = gr) w (w8.setCell ⟨gr, 0, none⟩ (.bool true)) := Kept.trans hk8 (Kept.set (fun j => j = g ∨ j = gr) w8 ⟨gr, 0, none⟩ (.bool true) (.inl (.inr rfl))) (fun _ => .inl)
      have HZ := Lib.hid (And.intro hr9 (And.intro hf9 hk9))
      clear hr9 hf9 hk9 hk8
      go_wp2_with fail
      (first | go_end0 | refine bodyPost_ret (results_none rfl _ _ _) rfl ?_)
      refine ⟨rfl, ?_, ?_, HZ.out.2.2⟩
      · rw [HY.out, hVor]; exact HZ.out.2.1
      · rw [HY.out, hVor, decide_eq_true hVY, Bool.or_true]
        exact HZ.out.1
  · refine AllReadyH.cons (List.getElem?_toArray.trans (List.getElem?_cons_succ.trans (List.getElem?_cons_succ.trans (List.getElem?_cons_succ.trans (List.getElem?_cons_succ.trans (List.getElem?_cons_succ.trans (List.getElem?_cons_zero))))))) (fun K hK => ?_) AllReadyH.nil
    refine wp_alloc_ag 56 rfl _ set_zero ?_
    intro w3 hb3 hw3 hz3
    refine hK.out _ _ ((Below.refl w1.heap.size w1).drew.trans (hw3.mono (by exact Nat.le_refl _))) (fun hHeld => ?_)
    clear hK K
    try simp only [Act.put, List.setIfInBounds_toArray, List.set_cons_zero, List.set_cons_succ]
    have hb13 : Below w1.heap.size w1 w3 := (Below.refl w1.heap.size w1).drew.trans (hw3.mono (by exact Nat.le_refl _))
    refine wpAnyH_ready (rs := [4]) (by kernel_rfl) (by simp) ?_
    refine AllReadyH.cons (List.getElem?_toArray.trans (List.getElem?_cons_succ.trans (List.getElem?_cons_succ.trans (List.getElem?_cons_succ.trans (List.getElem?_cons_succ.trans (List.getElem?_cons_zero)))))) (fun K hK => ?_) AllReadyH.nil
    go_simp
    go_at_call 38
    refine (gsUnion Y s HYo hs _).mono ?_
    rintro e w4 ⟨rfl, hb4⟩
    rw [hVor]
    refine hK.out _ _ (hb13.trans (hb4.mono hb13.size)) (fun hHeld => ?_)
    clear hK K
    try simp only [Act.put, List.setIfInBounds_toArray, List.set_cons_zero, List.set_cons_succ]
    have hb14 : Below w1.heap.size w1 w4 := hb13.trans (hb4.mono hb13.size)
    have hbw4 : Below w.heap.size w w4 := HW.out.trans (hb14.mono HW.out.size)
    have hgew : w.heap.size ≤ w1.heap.size := HW.out.size
    refine wpAnyH_ready (rs := [6]) (by kernel_rfl) (by simp) ?_
    refine AllReadyH.cons (List.getElem?_toArray.trans (List.getElem?_cons_succ.trans (List.getElem?_cons_succ.trans (List.getElem?_cons_succ.trans (List.getElem?_cons_succ.trans (List.getElem?_cons_succ.trans (List.getElem?_cons_succ.trans (List.getElem?_cons_zero)))))))) (fun K hK => ?_) AllReadyH.nil
    refine wp_store_ag 56 (.tmp 5) (.tmp 10) rfl w1.heap.size 0 V.cells rfl rfl 56 S4.z.cells (Blk.below hb3 hb4 hb3.lt) set_size (by show 0 + 4 ≤ 4; decide) (set_one _) ?_
    intro w6 hb6 hg6
    rw [splice_whole S4.z.cells V.cells rfl] at hb6
    refine hK.out _ _ (hb14.grown hg6 hb14.size (fun j e => by cases e; exact Nat.le_refl _)) (fun hHeld => ?_)
    clear hK K
    try simp only [Act.put, List.setIfInBounds_toArray, List.set_cons_zero, List.set_cons_succ]
    refine wpAnyH_done (by kernel_rfl) ?_ _
    obtain ⟨gv, egv⟩ : ∃ z, w1.heap.size = z := ⟨_, rfl⟩
    have hgv : SetAt w6 gv V := by rw [← egv]; exact hb6
    have hbW : Below w.heap.size w w6 := hbw4.grown hg6 hbw4.size (fun j e => by cases e; exact hgew)
    clear hb6 hg6 hbw4 hb13 hb14 hb4 hw3 hz3 hb3
    rw [egv]
    obtain ⟨W, eW⟩ : ∃ W, w6 = W := ⟨_, rfl⟩
    rw [eW] at hgv hbW ⊢
    clear eW
    have hfW := FcAt.below H.out.1 hbW H.out.1.lt
    have hrW := Blk.below H.out.2.1 hbW H.out.2.1.lt
    have hq := run_eqSet V Y
    go_wp2_with fail
    have hS1 : (fun W : World => SetAt W gv V ∧ Cells W g o Y.cells.toArray) W.drew := ⟨hgv.drew, HY.out ▸ FcAt.cs (Blk.drewN hfW 1) H.out.2.2.1 H.out.2.2.2.1 H.out.2.2.2.2⟩
    refine wp_region_held_drew (S := fun W : World => SetAt W gv V ∧ Cells W g o Y.cells.toArray) (by kernel_rfl) hS1 (fun hHeld => ?_)
    refine wpAnyH_take (i := 0) (v := .agg (V).cells.toArray) (List.getElem?_toArray.trans (List.getElem?_cons_zero)) (by kernel_rfl) (by kernel_rfl) (by kernel_rfl) (fun _ _ _ h => h) (Or.inl ⟨by rfl, ?_⟩) (by assumption) ?_
    · intro w' hSw; exact exec_load_ag 56 (.tmp 5) rfl gv (0) rfl (V).cells.toArray _ (Blk.cells hSw.1) Tryd.underlying56 rfl set_size
    try simp only [Act.put, List.setIfInBounds_toArray, List.set_cons_zero, List.set_cons_succ]
    refine wpAnyH_take (i := 1) (v := ?_) (List.getElem?_toArray.trans (List.getElem?_cons_succ.trans (List.getElem?_cons_zero))) (by kernel_rfl) (by kernel_rfl) (by kernel_rfl) (fun _ _ _ h => h) (Or.inl ⟨by rfl, ?_⟩) (by assumption) ?_
    rotate_left
    · intro w' hSw; (try dsimp only at hSw); go_simp; try with_reducible rfl
    try simp only [Act.put, List.setIfInBounds_toArray, List.set_cons_zero, List.set_cons_succ]
    refine wpAnyH_take (i := 2) (v := ?_) (List.getElem?_toArray.trans (List.getElem?_cons_succ.trans (List.getElem?_cons_succ.trans (List.getElem?_cons_zero)))) (by kernel_rfl) (by kernel_rfl) (by kernel_rfl) (fun _ _ _ h => h) (Or.inl ⟨by rfl, ?_⟩) (by assumption) ?_
    rotate_left
    · intro w' hSw; (try dsimp only at hSw); go_simp; try with_reducible rfl
    try simp only [Act.put, List.setIfInBounds_toArray, List.set_cons_zero, List.set_cons_succ]
    refine wpAnyH_take (i := 3) (v := .agg (Y).cells.toArray) (List.getElem?_toArray.trans (List.getElem?_cons_succ.trans (List.getElem?_cons_succ.trans (List.getElem?_cons_succ.trans (List.getElem?_cons_zero))))) (by kernel_rfl) (by kernel_rfl) (by kernel_rfl) (fun _ _ _ h => h) (Or.inl ⟨by rfl, ?_⟩) (by assumption) ?_
    · intro w' hSw; exact exec_load_ag 56 (.tmp 13) rfl g (o) rfl (Y).cells.toArray _ (hSw.2) Tryd.underlying56 rfl set_size
    try simp only [Act.put, List.setIfInBounds_toArray, List.set_cons_zero, List.set_cons_succ]
    refine wpAnyH_take (i := 4) (v := ?_) (List.getElem?_toArray.trans (List.getElem?_cons_succ.trans (List.getElem?_cons_succ.trans (List.getElem?_cons_succ.trans (List.getElem?_cons_succ.trans (List.getElem?_cons_zero)))))) (by kernel_rfl) (by kernel_rfl) (by kernel_rfl) (fun _ _ _ h => h) (Or.inl ⟨by rfl, ?_⟩) (by assumption) ?_
    rotate_left
    · intro w' hSw; (try dsimp only at hSw); go_simp; try with_reducible rfl
    try simp only [Act.put, List.setIfInBounds_toArray, List.set_cons_zero, List.set_cons_succ]
    refine wpAnyH_done (by kernel_rfl) ?_ _
    cases hd : decide (V = Y) with
    | true =>
      have hVY : V = Y := of_decide_eq_true hd
      go_wp2_with fail
      (first | go_end0 | refine bodyPost_ret (results_none rfl _ _ _) rfl ?_)
      refine ⟨rfl, ?_, ?_, Kept.of_below (below_drewN hbW 1)⟩
      · rw [HY.out, hVor, hVY, ← HY.out, Fc.setS_self H.out.2.2.1 H.out.2.2.2.1]
        exact Blk.drewN hfW 1
      · rw [HY.out, hVor, decide_eq_false (by rw [hVY]; exact fun h => h rfl), Bool.or_false]
        exact Blk.drewN hrW 1
    | false =>
      have hVY : V ≠ Y := of_decide_eq_false hd
      go_wp2_with (first
        | (with_reducible refine st_load 56 ?_; refine stopped ?_)
        | fail)
      refine go_on ?_
      refine wpList_load_at rfl 56 (.tmp 5) rfl gv 0 rfl V.cells.toArray _ (Blk.cells hgv.drew) Tryd.underlying56 rfl set_size ?_
      simp only [Act.put, List.setIfInBounds_toArray, List.set_cons_zero, List.set_cons_succ]
      go_wp2_with (first
        | (with_reducible refine st_store 56 ?_; refine stopped ?_)
        | fail)
      refine go_on ?_
      refine wpList_store_at rfl 56 (.tmp 18) (.tmp 17) rfl g o V.cells rfl rfl 61 F.cells (Blk.drewN hfW 1) set_size (by rw [Fc.cells_length H.out.2.2.1]; have := H.out.2.2.2.1; have := H.out.2.2.2.2; show o + 4 ≤ 344; omega) (set_one _) ?_
      intro w8 hb8 hg8
      rw [Fc.cells_setS H.out.2.2.1 H.out.2.2.2.1 H.out.2.2.2.2] at hb8
      refine wpList_nil ?_
      simp only [Act.put, List.setIfInBounds_toArray, List.set_cons_zero, List.set_cons_succ]
      have hr8 := Blk.grown (Blk.drewN hrW 1) hg8 (some_neq (Ne.symm hne))
      have c8 : w8.cell? ⟨gr, 0, none⟩ = some (.bool b) := Blk.cell hr8 0
      have f8 : w8.frozen? ⟨gr, 0, none⟩ = false := Blk.frozen hr8 0
      have hr9 := Blk.set_ hr8 0 (.bool true)
      have hf9 : FcAt (w8.setCell ⟨gr, 0, none⟩ (.bool true)) g (F.setS i V) := Blk.far hb8 (p := ⟨gr, 0, none⟩) hne _
      have hk8 : Kept (fun j => j = g ∨ j = gr) w w8 := Kept.trans (Kept.of_below (below_drewN hbW 1)) (Kept.of_grown hg8 (fun j e => .inl (.inl (Option.some.inj e).symm))) (fun _ => .inl)
      have hk9 : Kept (fun j => j = g ∨ j = gr) w (w8.setCell ⟨gr, 0, none⟩ (.bool true)) := Kept.trans hk8 (Kept.set (fun j => j = g ∨ j = gr) w8 ⟨gr, 0, none⟩ (.bool true) (.inl (.inr rfl))) (fun _ => .inl)
      have HZ := Lib.hid (And.intro hr9 (And.intro hf9 hk9))
      clear hr9 hf9 hk9 hk8
      go_wp2_with fail
      (first | go_end0 | refine bodyPost_ret (results_none rfl _ _ _) rfl ?_)
      refine ⟨rfl, ?_, ?_, HZ.out.2.2⟩
      · rw [HY.out, hVor]; exact HZ.out.2.1
      · rw [HY.out, hVor, decide_eq_true hVY, Bool.or_true]
        exact HZ.out.1
end Go.Proofs.YthfbmihpdkkcjaaDoor
