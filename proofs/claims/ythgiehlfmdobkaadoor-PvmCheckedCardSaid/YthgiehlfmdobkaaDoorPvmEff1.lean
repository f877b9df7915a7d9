/-
  Package pvm's effect: Set, by its contract. Conditions: the theorem's own premises.
-/
import Derived.Test.YthgiehlfmdobkaaDoorPvmFnH
import Derived.BigQuiet
namespace Go.Proofs.YthgiehlfmdobkaaDoor
open Go.RowKit

set_option maxRecDepth 100000 in
set_option maxHeartbeats 4000000 in
set_option linter.unusedSimpArgs false in
theorem pvEff1 {B g : Nat} {M : Mach} {A : Option Addr} {n cp : Nat} (w : World) (hv : MV B w g M A n cp) (hn : n ≤ 1000000) (op a b c : Nat) (hi : Ins.ok ⟨op, a, b, c⟩) (hf : formedB ⟨op, a, b, c⟩ = true) (hp0 : 0 ≤ M.p) (hp9 : M.p < 1000000) (hop : op = 1) :
    Calls Tryd.prog 49 #[.pointer (some ⟨g, 0, none⟩), .agg #[.int .u8 (op : Int), .int .u8 (a : Int), .int .u8 (b : Int), .int .u8 (c : Int)]] w (EffPost B g A n cp w (effM ⟨op, a, b, c⟩ M)) := by
  obtain ⟨X, kd, nm, t, er⟩ : ∃ X kd nm t, effM ⟨op, a, b, c⟩ M = (X, kd, nm, t) := ⟨_, _, _, _, rfl⟩
  obtain ⟨p, ep⟩ : ∃ p, M.p = p := ⟨_, rfl⟩
  rw [er]
  rw [ep] at hp0 hp9
  have HV := Lib.hid (And.intro hv (And.intro hn (And.intro hi (And.intro hf (And.intro er (And.intro ep hop))))))
  clear hv hn hi hf er ep hop
  go_enter Tryd.func49, Tryd.ntmps49
  go_wp2_with (first
    | (refine wpList_box rfl 61 (.tmp 1) rfl (a4 op a b c).toArray rfl ?_; intro w1 hb1 hw1 hz1)
    | (with_reducible refine st_alloc 38 ?_; refine stopped ?_)
    | fail)
  refine go_on ?_
  refine wpList_alloc rfl 38 rfl #[.int .i64 0, .int .i64 0] event_zero ?_
  intro w2 hb2 hw2 hz2
  rw [hz1] at hb2 hz2 ⊢
  simp only [Act.put, List.setIfInBounds_toArray, List.set_cons_zero, List.set_cons_succ]
  go_wp2_with (first
    | (with_reducible refine st_alloc 38 ?_; refine stopped ?_)
    | fail)
  refine go_on ?_
  refine wpList_alloc rfl 38 rfl #[.int .i64 0, .int .i64 0] event_zero ?_
  intro w3 hb3 hw3 hz3
  rw [hz2] at hb3 hz3 ⊢
  simp only [Act.put, List.setIfInBounds_toArray, List.set_cons_zero, List.set_cons_succ]
  have hbl := (hw1.trans (hw2.mono hw1.size)).trans (hw3.mono (Nat.le_trans hw1.size hw2.size))
  have HX := Lib.hid (show EffAt B g A n cp w op a b c 0 0 M w3 from ⟨HV.out.1.below hbl, (hb1.below hw2 hb1.lt).below hw3 (Nat.lt_of_lt_of_le hb1.lt hw2.size), hb2.below hw3 hb2.lt, hb3, Kept.of_below hbl⟩)
  have hlt := HV.out.1.lt
  have HL := Lib.hid (And.intro HV.out.1.fl hlt)
  clear hb1 hw1 hz1 hb2 hw2 hz2 hb3 hw3 hz3 hbl
  refine wpList_nil ?_
  have hcp := HX.out.mv.cp
  rw [HV.out.2.2.2.2.2.1] at hcp
  have hfp := HX.out.mv.fz 0
  have i0' : w3.cell? ⟨w.heap.size, 0, none⟩ = some (.int .u8 (op : Int)) := by rw [HX.out.i4.cell]; rfl
  obtain rfl := HV.out.2.2.2.2.2.2
  have i1' : w3.cell? ⟨w.heap.size, 1, none⟩ = some (.int .u8 (a : Int)) := by rw [HX.out.i4.cell]; rfl
  have i2' : w3.cell? ⟨w.heap.size, 2, none⟩ = some (.int .u8 (b : Int)) := by rw [HX.out.i4.cell]; rfl
  have i3' : w3.cell? ⟨w.heap.size, 3, none⟩ = some (.int .u8 (c : Int)) := by rw [HX.out.i4.cell]; rfl
  have hx := HV.out.2.2.2.2.1.symm
  cases hx
  have ha8 : a < 8 := by have := HV.out.2.2.2.1; rw [formed_1] at this; exact of_decide_eq_true this
  have ai : (a : Int) < 8 := by omega
  have a0 : (0 : Int) ≤ (a : Int) := by omega
  have hnum := fun W => coNumber 1 a b c HV.out.2.2.1 W
  have hns := num_small HV.out.2.2.1
  obtain ⟨z, ez⟩ : ∃ z, Ins.numS ⟨1, a, b, c⟩ = z := ⟨_, rfl⟩
  rw [ez] at hnum hns
  have HN := Lib.hid (And.intro hnum (And.intro hns ez))
  clear hnum hns ez
  have hS : ∀ W, Below w3.heap.size w3 W → W.cell? ⟨g, 1 + a, none⟩ = some (.int .i64 (M.r a)) ∧ W.frozen? ⟨g, 1 + a, none⟩ = false ∧ W.cell? ⟨w.heap.size, 1, none⟩ = some (.int .u8 (a : Int)) := fun W h =>
    ⟨(HX.out.below h).mv.cr ha8, (HX.out.below h).mv.fz (1 + a), by rw [(HX.out.below h).i4.cell]; rfl⟩
  have HS := Lib.hid hS
  have cra := (hS w3 (Below.refl _ _)).1
  have fra := (hS w3 (Below.refl _ _)).2.1
  clear hS
  go_wp2_with fail
  go_region_with (go_at_call 33; refine (HN.out.1 _).mono ?_; rintro e w4 ⟨rfl, hb4⟩; have hbb : Below w3.heap.size w3 w4 := below_undr hb4; have cra4 := (HS.out w4 hbb).1; have fra4 := (HS.out w4 hbb).2.1; have i14 := (HS.out w4 hbb).2.2)
  all_goals
    have hE4 := (HX.out.below hbb).set HL.out.2 (1 + a) (.int .i64 z) (mcells_r _ _ _ _ _ a ha8) rfl (ok_setR HX.out.mv.ok a (r64_small HN.out.2.1.2.1 HN.out.2.1.2.2))
    obtain ⟨w6, ew6⟩ : ∃ W, w4.setCell ⟨g, 1 + a, none⟩ (.int .i64 z) = W := ⟨_, rfl⟩
    rw [ew6] at hE4 ⊢
    have HE4 := Lib.hid hE4
    clear hE4 ew6 hcp hfp i0' i1' i2' i3' cra fra cra4 fra4 i14 hbb hb4
    have hcp9' : w6.cell? ⟨g, 0, none⟩ = some (.int .i64 p) := HE4.out.mv.cp.trans (congrArg (fun x => some (Value.int .i64 x)) (HV.out.2.2.2.2.2.1))
    have hfp9 := HE4.out.mv.fz 0
    have hokp : R64 (p + 1) := ⟨by omega, by omega⟩
    have HE9 := Lib.hid (HE4.out.set HL.out.2 0 (.int .i64 (p + 1)) (mcells_p _ _ _ _ _) rfl ⟨hokp, HE4.out.mv.ok.r, HE4.out.mv.ok.mem, HE4.out.mv.ok.s, HE4.out.mv.ok.t⟩)
    clear hokp
    go_wp2_with (first
      | (with_reducible refine st_load 38 ?_; refine stopped ?_)
      | fail)
    refine go_on ?_
    refine wpList_load_at rfl 38 (.tmp 6) rfl (w.heap.size + 2) 0 rfl #[.int .i64 0, .int .i64 0] _ (Blk.cells HE9.out.e) Tryd.underlying38 rfl event_size ?_
    refine wpList_store_whole rfl 38 (.tmp 4) (.tmp 103) rfl (w.heap.size + 1) [.int .i64 0, .int .i64 0] rfl rfl 38 [.int .i64 0, .int .i64 0] HE9.out.r event_size rfl (ev_one _ _) ?_
    intro w7 hb7 hg7
    have hfin := HE9.out.fin HL.out.1 hg7
    simp only [Act.put, List.setIfInBounds_toArray, List.set_cons_zero, List.set_cons_succ]
    go_wp2_with fail
    exact bodyPost_rowv rfl (w.heap.size + 1) rfl _ rfl 38 _ _ hb7 Tryd.underlying38 rfl event_size rfl ⟨rfl, (by rw [(show step1 (setR M a (Ins.numS ⟨1, a, b, c⟩)) = { setR M a z with p := p + 1 } by unfold step1; rw [show (setR M a (Ins.numS ⟨1, a, b, c⟩)).p = p from HV.out.2.2.2.2.2.1, HN.out.2.2])]; exact hfin)⟩
end Go.Proofs.YthgiehlfmdobkaaDoor
