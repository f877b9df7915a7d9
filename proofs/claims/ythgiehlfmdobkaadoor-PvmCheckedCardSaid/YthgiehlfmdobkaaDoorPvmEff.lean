/-
  Package pvm's effect, a class of Ops each, by its contracts. Conditions: each theorem's own premises.
-/
import Derived.Test.YthgiehlfmdobkaaDoorPvmFnH
import Derived.BigQuiet
namespace Go.Proofs.YthgiehlfmdobkaaDoor
open Go.RowKit

set_option maxRecDepth 100000 in
set_option maxHeartbeats 4000000 in
set_option linter.unusedSimpArgs false in
theorem pvEff0 {B g : Nat} {M : Mach} {A : Option Addr} {n cp : Nat} (w : World) (hv : MV B w g M A n cp) (hn : n ≤ 1000000) (op a b c : Nat) (hi : Ins.ok ⟨op, a, b, c⟩) (hf : formedB ⟨op, a, b, c⟩ = true) (hp0 : 0 ≤ M.p) (hp9 : M.p < 1000000) (hop : op = 0) :
    Calls Tryd.prog 49 #[.pointer (some ⟨g, 0, none⟩), .agg #[.int .u8 (op : Int), .int .u8 (a : Int), .int .u8 (b : Int), .int .u8 (c : Int)]] w (EffPost B g A n cp w (effM ⟨op, a, b, c⟩ M)) := by
  obtain ⟨X, kd, nm, t, er⟩ : ∃ X kd nm t, effM ⟨op, a, b, c⟩ M = (X, kd, nm, t) := ⟨_, _, _, _, rfl⟩
  obtain ⟨p, ep⟩ : ∃ p, M.p = p := ⟨_, rfl⟩
  rw [er]
  rw [ep] at hp0 hp9
  have HV := Lib.hid (And.intro hv (And.intro hn (And.intro hi (And.intro hf (And.intro er (And.intro ep hop))))))
  clear hv hn hi hf er ep hop
  go_enter Tryd.func49, Tryd.ntmps49
  go_wp2_with (first
    | (refine wpList_box rfl 61 (.tmp 1) rfl (a4 op a b c).toArray rfl ?_; intro w1 hb1 hw1 hz1)
    | (with_reducible refine st_alloc 38 ?_; refine stopped ?_)
    | fail)
  refine go_on ?_
  refine wpList_alloc rfl 38 rfl #[.int .i64 0, .int .i64 0] event_zero ?_
  intro w2 hb2 hw2 hz2
  rw [hz1] at hb2 hz2 ⊢
  simp only [Act.put, List.setIfInBounds_toArray, List.set_cons_zero, List.set_cons_succ]
  go_wp2_with (first
    | (with_reducible refine st_alloc 38 ?_; refine stopped ?_)
    | fail)
  refine go_on ?_
  refine wpList_alloc rfl 38 rfl #[.int .i64 0, .int .i64 0] event_zero ?_
  intro w3 hb3 hw3 hz3
  rw [hz2] at hb3 hz3 ⊢
  simp only [Act.put, List.setIfInBounds_toArray, List.set_cons_zero, List.set_cons_succ]
  have hbl := (hw1.trans (hw2.mono hw1.size)).trans (hw3.mono (Nat.le_trans hw1.size hw2.size))
  have HX := Lib.hid (show EffAt B g A n cp w op a b c 0 0 M w3 from ⟨HV.out.1.below hbl, (hb1.below hw2 hb1.lt).below hw3 (Nat.lt_of_lt_of_le hb1.lt hw2.size), hb2.below hw3 hb2.lt, hb3, Kept.of_below hbl⟩)
  have hlt := HV.out.1.lt
  have HL := Lib.hid (And.intro HV.out.1.fl hlt)
  clear hb1 hw1 hz1 hb2 hw2 hz2 hb3 hw3 hz3 hbl
  refine wpList_nil ?_
  have hcp := HX.out.mv.cp
  rw [HV.out.2.2.2.2.2.1] at hcp
  have hfp := HX.out.mv.fz 0
  have i0' : w3.cell? ⟨w.heap.size, 0, none⟩ = some (.int .u8 (op : Int)) := by rw [HX.out.i4.cell]; rfl
  obtain rfl := HV.out.2.2.2.2.2.2
  have hx := HV.out.2.2.2.2.1.symm
  cases hx
  have cs := HX.out.mv.cs
  have fs := HX.out.mv.fz 10
  have ce : w3.cell? ⟨w.heap.size + 2, 0, none⟩ = some (.int .i64 0) := by rw [HX.out.e.cell]; rfl
  have fe := HX.out.e.frozen 0
  have hgn : g ≠ w.heap.size + 2 := by omega
  have hgn' : ¬ w.heap.size + 2 = g := by omega
  have hE := ((HX.out.set hlt 10 (.int .i64 1) (mcells_s _ _ _ _ 1) rfl ⟨HX.out.mv.ok.p, HX.out.mv.ok.r, HX.out.mv.ok.mem, r64_1, HX.out.mv.ok.t⟩).ev0 HL.out.1 2).set (X' := { M with s := 1 }) hlt 0 (.int .i64 p) (by rw [← HV.out.2.2.2.2.2.1]; exact mcells_p _ _ _ _ _) rfl ⟨HX.out.mv.ok.p, HX.out.mv.ok.r, HX.out.mv.ok.mem, r64_1, HX.out.mv.ok.t⟩
  have HE := Lib.hid hE
  clear hE
  go_wp2_with (first
    | (with_reducible refine st_load 38 ?_; refine stopped ?_)
    | fail)
  refine go_on ?_
  refine wpList_load_at rfl 38 (.tmp 6) rfl (w.heap.size + 2) 0 rfl #[.int .i64 2, .int .i64 0] _ (Blk.cells HE.out.e) Tryd.underlying38 rfl event_size ?_
  refine wpList_store_whole rfl 38 (.tmp 4) (.tmp 103) rfl (w.heap.size + 1) [.int .i64 2, .int .i64 0] rfl rfl 38 [.int .i64 0, .int .i64 0] HE.out.r event_size rfl (ev_one _ _) ?_
  intro w6 hb6 hg6
  have hfin := HE.out.fin HL.out.1 hg6
  simp only [Act.put, List.setIfInBounds_toArray, List.set_cons_zero, List.set_cons_succ]
  go_wp2_with fail
  exact bodyPost_rowv rfl (w.heap.size + 1) rfl _ rfl 38 _ _ hb6 Tryd.underlying38 rfl event_size rfl ⟨rfl, hfin⟩

set_option maxRecDepth 100000 in
set_option maxHeartbeats 4000000 in
set_option linter.unusedSimpArgs false in
theorem pvEff1 {B g : Nat} {M : Mach} {A : Option Addr} {n cp : Nat} (w : World) (hv : MV B w g M A n cp) (hn : n ≤ 1000000) (op a b c : Nat) (hi : Ins.ok ⟨op, a, b, c⟩) (hf : formedB ⟨op, a, b, c⟩ = true) (hp0 : 0 ≤ M.p) (hp9 : M.p < 1000000) (hop : op = 1) :
    Calls Tryd.prog 49 #[.pointer (some ⟨g, 0, none⟩), .agg #[.int .u8 (op : Int), .int .u8 (a : Int), .int .u8 (b : Int), .int .u8 (c : Int)]] w (EffPost B g A n cp w (effM ⟨op, a, b, c⟩ M)) := by
  obtain ⟨X, kd, nm, t, er⟩ : ∃ X kd nm t, effM ⟨op, a, b, c⟩ M = (X, kd, nm, t) := ⟨_, _, _, _, rfl⟩
  obtain ⟨p, ep⟩ : ∃ p, M.p = p := ⟨_, rfl⟩
  rw [er]
  rw [ep] at hp0 hp9
  have HV := Lib.hid (And.intro hv (And.intro hn (And.intro hi (And.intro hf (And.intro er (And.intro ep hop))))))
  clear hv hn hi hf er ep hop
  go_enter Tryd.func49, Tryd.ntmps49
  go_wp2_with (first
    | (refine wpList_box rfl 61 (.tmp 1) rfl (a4 op a b c).toArray rfl ?_; intro w1 hb1 hw1 hz1)
    | (with_reducible refine st_alloc 38 ?_; refine stopped ?_)
    | fail)
  refine go_on ?_
  refine wpList_alloc rfl 38 rfl #[.int .i64 0, .int .i64 0] event_zero ?_
  intro w2 hb2 hw2 hz2
  rw [hz1] at hb2 hz2 ⊢
  simp only [Act.put, List.setIfInBounds_toArray, List.set_cons_zero, List.set_cons_succ]
  go_wp2_with (first
    | (with_reducible refine st_alloc 38 ?_; refine stopped ?_)
    | fail)
  refine go_on ?_
  refine wpList_alloc rfl 38 rfl #[.int .i64 0, .int .i64 0] event_zero ?_
  intro w3 hb3 hw3 hz3
  rw [hz2] at hb3 hz3 ⊢
  simp only [Act.put, List.setIfInBounds_toArray, List.set_cons_zero, List.set_cons_succ]
  have hbl := (hw1.trans (hw2.mono hw1.size)).trans (hw3.mono (Nat.le_trans hw1.size hw2.size))
  have HX := Lib.hid (show EffAt B g A n cp w op a b c 0 0 M w3 from ⟨HV.out.1.below hbl, (hb1.below hw2 hb1.lt).below hw3 (Nat.lt_of_lt_of_le hb1.lt hw2.size), hb2.below hw3 hb2.lt, hb3, Kept.of_below hbl⟩)
  have hlt := HV.out.1.lt
  have HL := Lib.hid (And.intro HV.out.1.fl hlt)
  clear hb1 hw1 hz1 hb2 hw2 hz2 hb3 hw3 hz3 hbl
  refine wpList_nil ?_
  have hcp := HX.out.mv.cp
  rw [HV.out.2.2.2.2.2.1] at hcp
  have hfp := HX.out.mv.fz 0
  have i0' : w3.cell? ⟨w.heap.size, 0, none⟩ = some (.int .u8 (op : Int)) := by rw [HX.out.i4.cell]; rfl
  obtain rfl := HV.out.2.2.2.2.2.2
  have i1' : w3.cell? ⟨w.heap.size, 1, none⟩ = some (.int .u8 (a : Int)) := by rw [HX.out.i4.cell]; rfl
  have i2' : w3.cell? ⟨w.heap.size, 2, none⟩ = some (.int .u8 (b : Int)) := by rw [HX.out.i4.cell]; rfl
  have i3' : w3.cell? ⟨w.heap.size, 3, none⟩ = some (.int .u8 (c : Int)) := by rw [HX.out.i4.cell]; rfl
  have hx := HV.out.2.2.2.2.1.symm
  cases hx
  have ha8 : a < 8 := by have := HV.out.2.2.2.1; rw [formed_1] at this; exact of_decide_eq_true this
  have ai : (a : Int) < 8 := by omega
  have a0 : (0 : Int) ≤ (a : Int) := by omega
  have hnum := fun W => coNumber 1 a b c HV.out.2.2.1 W
  have hns := num_small HV.out.2.2.1
  obtain ⟨z, ez⟩ : ∃ z, Ins.numS ⟨1, a, b, c⟩ = z := ⟨_, rfl⟩
  rw [ez] at hnum hns
  have HN := Lib.hid (And.intro hnum (And.intro hns ez))
  clear hnum hns ez
  have hS : ∀ W, Below w3.heap.size w3 W → W.cell? ⟨g, 1 + a, none⟩ = some (.int .i64 (M.r a)) ∧ W.frozen? ⟨g, 1 + a, none⟩ = false ∧ W.cell? ⟨w.heap.size, 1, none⟩ = some (.int .u8 (a : Int)) := fun W h =>
    ⟨(HX.out.below h).mv.cr ha8, (HX.out.below h).mv.fz (1 + a), by rw [(HX.out.below h).i4.cell]; rfl⟩
  have HS := Lib.hid hS
  have cra := (hS w3 (Below.refl _ _)).1
  have fra := (hS w3 (Below.refl _ _)).2.1
  clear hS
  go_wp2_with fail
  go_region_with (go_at_call 33; refine (HN.out.1 _).mono ?_; rintro e w4 ⟨rfl, hb4⟩; have hbb : Below w3.heap.size w3 w4 := below_undr hb4; have cra4 := (HS.out w4 hbb).1; have fra4 := (HS.out w4 hbb).2.1; have i14 := (HS.out w4 hbb).2.2)
  all_goals
    have hE4 := (HX.out.below hbb).set HL.out.2 (1 + a) (.int .i64 z) (mcells_r _ _ _ _ _ a ha8) rfl (ok_setR HX.out.mv.ok a (r64_small HN.out.2.1.2.1 HN.out.2.1.2.2))
    obtain ⟨w6, ew6⟩ : ∃ W, w4.setCell ⟨g, 1 + a, none⟩ (.int .i64 z) = W := ⟨_, rfl⟩
    rw [ew6] at hE4 ⊢
    have HE4 := Lib.hid hE4
    clear hE4 ew6 hcp hfp i0' i1' i2' i3' cra fra cra4 fra4 i14 hbb hb4
    have hcp9' : w6.cell? ⟨g, 0, none⟩ = some (.int .i64 p) := HE4.out.mv.cp.trans (congrArg (fun x => some (Value.int .i64 x)) (HV.out.2.2.2.2.2.1))
    have hfp9 := HE4.out.mv.fz 0
    have hokp : R64 (p + 1) := ⟨by omega, by omega⟩
    have HE9 := Lib.hid (HE4.out.set HL.out.2 0 (.int .i64 (p + 1)) (mcells_p _ _ _ _ _) rfl ⟨hokp, HE4.out.mv.ok.r, HE4.out.mv.ok.mem, HE4.out.mv.ok.s, HE4.out.mv.ok.t⟩)
    clear hokp
    go_wp2_with (first
      | (with_reducible refine st_load 38 ?_; refine stopped ?_)
      | fail)
    refine go_on ?_
    refine wpList_load_at rfl 38 (.tmp 6) rfl (w.heap.size + 2) 0 rfl #[.int .i64 0, .int .i64 0] _ (Blk.cells HE9.out.e) Tryd.underlying38 rfl event_size ?_
    refine wpList_store_whole rfl 38 (.tmp 4) (.tmp 103) rfl (w.heap.size + 1) [.int .i64 0, .int .i64 0] rfl rfl 38 [.int .i64 0, .int .i64 0] HE9.out.r event_size rfl (ev_one _ _) ?_
    intro w7 hb7 hg7
    have hfin := HE9.out.fin HL.out.1 hg7
    simp only [Act.put, List.setIfInBounds_toArray, List.set_cons_zero, List.set_cons_succ]
    go_wp2_with fail
    exact bodyPost_rowv rfl (w.heap.size + 1) rfl _ rfl 38 _ _ hb7 Tryd.underlying38 rfl event_size rfl ⟨rfl, (by rw [(show step1 (setR M a (Ins.numS ⟨1, a, b, c⟩)) = { setR M a z with p := p + 1 } by unfold step1; rw [show (setR M a (Ins.numS ⟨1, a, b, c⟩)).p = p from HV.out.2.2.2.2.2.1, HN.out.2.2])]; exact hfin)⟩

set_option maxRecDepth 100000 in
set_option maxHeartbeats 4000000 in
set_option linter.unusedSimpArgs false in
theorem pvEffC {B g : Nat} {M : Mach} {A : Option Addr} {n cp : Nat} (w : World) (hv : MV B w g M A n cp) (hn : n ≤ 1000000) (op a b c : Nat) (hi : Ins.ok ⟨op, a, b, c⟩) (hf : formedB ⟨op, a, b, c⟩ = true) (hp0 : 0 ≤ M.p) (hp9 : M.p < 1000000) (h2 : 2 ≤ op) (h12 : op ≤ 12) :
    Calls Tryd.prog 49 #[.pointer (some ⟨g, 0, none⟩), .agg #[.int .u8 (op : Int), .int .u8 (a : Int), .int .u8 (b : Int), .int .u8 (c : Int)]] w (EffPost B g A n cp w (effM ⟨op, a, b, c⟩ M)) := by
  obtain ⟨X, kd, nm, t, er⟩ : ∃ X kd nm t, effM ⟨op, a, b, c⟩ M = (X, kd, nm, t) := ⟨_, _, _, _, rfl⟩
  obtain ⟨p, ep⟩ : ∃ p, M.p = p := ⟨_, rfl⟩
  rw [er]
  rw [ep] at hp0 hp9
  have HV := Lib.hid (And.intro hv (And.intro hn (And.intro hi (And.intro hf (And.intro er (And.intro ep (And.intro h2 h12)))))))
  clear hv hn hi hf er ep h2 h12
  go_enter Tryd.func49, Tryd.ntmps49
  go_wp2_with (first
    | (refine wpList_box rfl 61 (.tmp 1) rfl (a4 op a b c).toArray rfl ?_; intro w1 hb1 hw1 hz1)
    | (with_reducible refine st_alloc 38 ?_; refine stopped ?_)
    | fail)
  refine go_on ?_
  refine wpList_alloc rfl 38 rfl #[.int .i64 0, .int .i64 0] event_zero ?_
  intro w2 hb2 hw2 hz2
  rw [hz1] at hb2 hz2 ⊢
  simp only [Act.put, List.setIfInBounds_toArray, List.set_cons_zero, List.set_cons_succ]
  go_wp2_with (first
    | (with_reducible refine st_alloc 38 ?_; refine stopped ?_)
    | fail)
  refine go_on ?_
  refine wpList_alloc rfl 38 rfl #[.int .i64 0, .int .i64 0] event_zero ?_
  intro w3 hb3 hw3 hz3
  rw [hz2] at hb3 hz3 ⊢
  simp only [Act.put, List.setIfInBounds_toArray, List.set_cons_zero, List.set_cons_succ]
  have hbl := (hw1.trans (hw2.mono hw1.size)).trans (hw3.mono (Nat.le_trans hw1.size hw2.size))
  have HX := Lib.hid (show EffAt B g A n cp w op a b c 0 0 M w3 from ⟨HV.out.1.below hbl, (hb1.below hw2 hb1.lt).below hw3 (Nat.lt_of_lt_of_le hb1.lt hw2.size), hb2.below hw3 hb2.lt, hb3, Kept.of_below hbl⟩)
  have hlt := HV.out.1.lt
  have HL := Lib.hid (And.intro HV.out.1.fl hlt)
  clear hb1 hw1 hz1 hb2 hw2 hz2 hb3 hw3 hz3 hbl
  refine wpList_nil ?_
  have hcp := HX.out.mv.cp
  rw [HV.out.2.2.2.2.2.1] at hcp
  have hfp := HX.out.mv.fz 0
  have i0' : w3.cell? ⟨w.heap.size, 0, none⟩ = some (.int .u8 (op : Int)) := by rw [HX.out.i4.cell]; rfl
  have i1' : w3.cell? ⟨w.heap.size, 1, none⟩ = some (.int .u8 (a : Int)) := by rw [HX.out.i4.cell]; rfl
  have i2' : w3.cell? ⟨w.heap.size, 2, none⟩ = some (.int .u8 (b : Int)) := by rw [HX.out.i4.cell]; rfl
  have i3' : w3.cell? ⟨w.heap.size, 3, none⟩ = some (.int .u8 (c : Int)) := by rw [HX.out.i4.cell]; rfl
  have hab : a < 8 ∧ b < 8 ∧ c < 8 := by
    have h := HV.out.2.2.2.1
    by_cases h2 : op = 2
    · subst h2
      rw [formed_2] at h
      have := of_decide_eq_true h
      omega
    · rw [formed_mid (by have := HV.out.2.2.2.2.2.2.1; omega) HV.out.2.2.2.2.2.2.2] at h
      exact of_decide_eq_true h
  have hcal := fun W => pvCalc op (M.r b) (M.r c) HV.out.2.2.2.2.2.2.1 HV.out.2.2.2.2.2.2.2 W
  obtain ⟨v, y, ey⟩ : ∃ v y, calcM op (M.r b) (M.r c) = (v, y) := ⟨_, _, rfl⟩
  rw [ey] at hcal
  have hv64 : R64 v := by
    have h9 : v = (calcM op (M.r b) (M.r c)).1 := by rw [ey]
    rw [h9]
    unfold calcM
    split
    · exact r64_0
    · dsimp only
      split
      · exact HV.out.1.ok.r b
      · exact r64_two op (HV.out.1.ok.r b)
  have hxx : (X, kd, nm, t) = if y = 0 then (step1 (setR M a v), 0, 0, 0) else (M, 0, 0, y) := by
    rw [← HV.out.2.2.2.2.1]
    have h9 := HV.out.2.2.2.2.2.2
    have n0 : ¬ op = 0 := by omega
    have n1 : ¬ op = 1 := by omega
    unfold effM
    dsimp only
    rw [if_neg n0, if_neg n1, if_pos h9.2, ey]
  have e0 : ((op : Int) == 0) = false := by rw [beq_eq_false_iff_ne]; have := HV.out.2.2.2.2.2.2; omega
  have e1 : ((op : Int) == 1) = false := by rw [beq_eq_false_iff_ne]; have := HV.out.2.2.2.2.2.2; omega
  have e13 : ((op : Int) == 13) = false := by rw [beq_eq_false_iff_ne]; have := HV.out.2.2.2.2.2.2; omega
  have e14 : ((op : Int) == 14) = false := by rw [beq_eq_false_iff_ne]; have := HV.out.2.2.2.2.2.2; omega
  have e15 : ((op : Int) == 15) = false := by rw [beq_eq_false_iff_ne]; have := HV.out.2.2.2.2.2.2; omega
  have e16 : ((op : Int) == 16) = false := by rw [beq_eq_false_iff_ne]; have := HV.out.2.2.2.2.2.2; omega
  have e17 : ((op : Int) == 17) = false := by rw [beq_eq_false_iff_ne]; have := HV.out.2.2.2.2.2.2; omega
  have crb := HX.out.mv.cr hab.2.1
  have crc := HX.out.mv.cr hab.2.2
  have ai : (a : Int) < 8 := by omega
  have a0 : (0 : Int) ≤ (a : Int) := by omega
  have bi : (b : Int) < 8 := by omega
  have b0 : (0 : Int) ≤ (b : Int) := by omega
  have ci : (c : Int) < 8 := by omega
  have c0 : (0 : Int) ≤ (c : Int) := by omega
  have HC := Lib.hid (And.intro hcal (And.intro hxx (And.intro hv64 hab.1)))
  clear hcal hxx hab hv64
  go_wp2_with fail
  go_quiet ((go_at_call 61; exact same_quiet (HC.out.1 _)))
  have HE3 := Lib.hid (HX.out.drewN nq)
  obtain ⟨w5, ew5⟩ : ∃ W, w3.drewN nq = W := ⟨_, rfl⟩
  rw [ew5] at HE3 ⊢
  clear ew5 hcp hfp i0' i1' i2' i3' crb crc
  by_cases hy : y = 0
  · subst hy
    have hx := HC.out.2.1
    rw [if_pos rfl] at hx
    cases hx
    have i1' : w5.cell? ⟨w.heap.size, 1, none⟩ = some (.int .u8 (a : Int)) := by rw [HE3.out.i4.cell]; rfl
    have cra := HE3.out.mv.cr HC.out.2.2.2
    have fra := HE3.out.mv.fz (1 + a)
    go_wp2_with fail
    go_region
    have hE4 := (HE3.out.set HL.out.2 (1 + a) (.int .i64 v) (mcells_r _ _ _ _ v a HC.out.2.2.2) rfl (ok_setR HX.out.mv.ok a HC.out.2.2.1)).drewN 1
    have hE4 : EffAt B g A n cp w op a b c 0 0 (setR M a v) (w5.setCell ⟨g, 1 + a, none⟩ (.int .i64 v)).drew := hE4
    obtain ⟨w6, ew6⟩ : ∃ W, (w5.setCell ⟨g, 1 + a, none⟩ (.int .i64 v)).drew = W := ⟨_, rfl⟩
    rw [ew6] at hE4 ⊢
    have HE4 := Lib.hid hE4
    clear hE4 i1' cra fra ew6
    have hcp9' : w6.cell? ⟨g, 0, none⟩ = some (.int .i64 p) := HE4.out.mv.cp.trans (congrArg (fun x => some (Value.int .i64 x)) (HV.out.2.2.2.2.2.1))
    have hfp9 := HE4.out.mv.fz 0
    have hokp : R64 (p + 1) := ⟨by omega, by omega⟩
    have HE9 := Lib.hid (HE4.out.set HL.out.2 0 (.int .i64 (p + 1)) (mcells_p _ _ _ _ _) rfl ⟨hokp, HE4.out.mv.ok.r, HE4.out.mv.ok.mem, HE4.out.mv.ok.s, HE4.out.mv.ok.t⟩)
    clear hokp
    go_wp2_with (first
      | (with_reducible refine st_load 38 ?_; refine stopped ?_)
      | fail)
    refine go_on ?_
    refine wpList_load_at rfl 38 (.tmp 6) rfl (w.heap.size + 2) 0 rfl #[.int .i64 0, .int .i64 0] _ (Blk.cells HE9.out.e) Tryd.underlying38 rfl event_size ?_
    refine wpList_store_whole rfl 38 (.tmp 4) (.tmp 103) rfl (w.heap.size + 1) [.int .i64 0, .int .i64 0] rfl rfl 38 [.int .i64 0, .int .i64 0] HE9.out.r event_size rfl (ev_one _ _) ?_
    intro w7 hb7 hg7
    have hfin := HE9.out.fin HL.out.1 hg7
    simp only [Act.put, List.setIfInBounds_toArray, List.set_cons_zero, List.set_cons_succ]
    go_wp2_with fail
    exact bodyPost_rowv rfl (w.heap.size + 1) rfl _ rfl 38 _ _ hb7 Tryd.underlying38 rfl event_size rfl ⟨rfl, by rw [show step1 (setR M a v) = { setR M a v with p := p + 1 } by unfold step1; rw [show (setR M a v).p = p from HV.out.2.2.2.2.2.1]]; exact hfin⟩
  · have hyb : (y != 0) = true := by rw [bne_iff_ne]; exact hy
    have hx := HC.out.2.1
    rw [if_neg hy] at hx
    cases hx
    go_wp2_with (first
      | (with_reducible refine st_store 38 ?_; refine stopped ?_)
      | fail)
    refine go_on ?_
    refine wpList_store_whole rfl 38 (.tmp 4) (.tmp 90) rfl (w.heap.size + 1) [.int .i64 0, .int .i64 0] rfl rfl 38 [.int .i64 0, .int .i64 0] HE3.out.r event_size rfl (ev_one _ _) ?_
    intro w6 hb6 hg6
    have hfin := HE3.out.fin HL.out.1 hg6
    simp only [Act.put, List.setIfInBounds_toArray, List.set_cons_zero, List.set_cons_succ]
    go_wp2_with fail
    exact bodyPost_rowv rfl (w.heap.size + 1) rfl _ rfl 38 _ _ hb6 Tryd.underlying38 rfl event_size rfl ⟨rfl, hfin⟩

set_option maxRecDepth 100000 in
set_option maxHeartbeats 4000000 in
set_option linter.unusedSimpArgs false in
theorem pvEffX {B g : Nat} {M : Mach} {A : Option Addr} {n cp : Nat} (w : World) (hv : MV B w g M A n cp) (hn : n ≤ 1000000) (op a b c : Nat) (hi : Ins.ok ⟨op, a, b, c⟩) (hf : formedB ⟨op, a, b, c⟩ = true) (hp0 : 0 ≤ M.p) (hp9 : M.p < 1000000) (hop : op = 13 ∨ op = 14) :
    Calls Tryd.prog 49 #[.pointer (some ⟨g, 0, none⟩), .agg #[.int .u8 (op : Int), .int .u8 (a : Int), .int .u8 (b : Int), .int .u8 (c : Int)]] w (EffPost B g A n cp w (effM ⟨op, a, b, c⟩ M)) := by
  obtain ⟨X, kd, nm, t, er⟩ : ∃ X kd nm t, effM ⟨op, a, b, c⟩ M = (X, kd, nm, t) := ⟨_, _, _, _, rfl⟩
  obtain ⟨p, ep⟩ : ∃ p, M.p = p := ⟨_, rfl⟩
  rw [er]
  rw [ep] at hp0 hp9
  have HV := Lib.hid (And.intro hv (And.intro hn (And.intro hi (And.intro hf (And.intro er (And.intro ep hop))))))
  clear hv hn hi hf er ep hop
  go_enter Tryd.func49, Tryd.ntmps49
  go_wp2_with (first
    | (refine wpList_box rfl 61 (.tmp 1) rfl (a4 op a b c).toArray rfl ?_; intro w1 hb1 hw1 hz1)
    | (with_reducible refine st_alloc 38 ?_; refine stopped ?_)
    | fail)
  refine go_on ?_
  refine wpList_alloc rfl 38 rfl #[.int .i64 0, .int .i64 0] event_zero ?_
  intro w2 hb2 hw2 hz2
  rw [hz1] at hb2 hz2 ⊢
  simp only [Act.put, List.setIfInBounds_toArray, List.set_cons_zero, List.set_cons_succ]
  go_wp2_with (first
    | (with_reducible refine st_alloc 38 ?_; refine stopped ?_)
    | fail)
  refine go_on ?_
  refine wpList_alloc rfl 38 rfl #[.int .i64 0, .int .i64 0] event_zero ?_
  intro w3 hb3 hw3 hz3
  rw [hz2] at hb3 hz3 ⊢
  simp only [Act.put, List.setIfInBounds_toArray, List.set_cons_zero, List.set_cons_succ]
  have hbl := (hw1.trans (hw2.mono hw1.size)).trans (hw3.mono (Nat.le_trans hw1.size hw2.size))
  have HX := Lib.hid (show EffAt B g A n cp w op a b c 0 0 M w3 from ⟨HV.out.1.below hbl, (hb1.below hw2 hb1.lt).below hw3 (Nat.lt_of_lt_of_le hb1.lt hw2.size), hb2.below hw3 hb2.lt, hb3, Kept.of_below hbl⟩)
  have hlt := HV.out.1.lt
  have HL := Lib.hid (And.intro HV.out.1.fl hlt)
  clear hb1 hw1 hz1 hb2 hw2 hz2 hb3 hw3 hz3 hbl
  refine wpList_nil ?_
  have hcp := HX.out.mv.cp
  rw [HV.out.2.2.2.2.2.1] at hcp
  have hfp := HX.out.mv.fz 0
  have i0' : w3.cell? ⟨w.heap.size, 0, none⟩ = some (.int .u8 (op : Int)) := by rw [HX.out.i4.cell]; rfl
  have i1' : w3.cell? ⟨w.heap.size, 1, none⟩ = some (.int .u8 (a : Int)) := by rw [HX.out.i4.cell]; rfl
  have i2' : w3.cell? ⟨w.heap.size, 2, none⟩ = some (.int .u8 (b : Int)) := by rw [HX.out.i4.cell]; rfl
  have i3' : w3.cell? ⟨w.heap.size, 3, none⟩ = some (.int .u8 (c : Int)) := by rw [HX.out.i4.cell]; rfl
  have hab : a < 8 ∧ b < 8 := by
    have := HV.out.2.2.2.1
    rcases HV.out.2.2.2.2.2.2 with rfl | rfl
    · rw [formed_13] at this; exact of_decide_eq_true this
    · rw [formed_14] at this; exact of_decide_eq_true this
  have hxc := pvExch w3 HX.out.mv HV.out.2.1 op a b c HV.out.2.2.1 hab.1 hab.2 HV.out.2.2.2.2.2.2
  obtain ⟨Y, y, ey⟩ : ∃ Y y, exchM op a b c M = (Y, y) := ⟨_, _, rfl⟩
  rw [ey] at hxc
  have hxx : (X, kd, nm, t) = if y = 0 then (step1 Y, 0, 0, 0) else (M, 0, 0, y) := by
    rw [← HV.out.2.2.2.2.1]
    have h9 := HV.out.2.2.2.2.2.2
    have n0 : ¬ op = 0 := by omega
    have n1 : ¬ op = 1 := by omega
    have n2 : ¬ op ≤ 12 := by omega
    have n3 : op ≤ 14 := by omega
    unfold effM
    dsimp only
    rw [if_neg n0, if_neg n1, if_neg n2, if_pos n3, ey]
  have hYp : Y.p = p ∧ (y ≠ 0 → Y = M) := by
    have h9 := ey
    cases hx : findM M.mem (M.r b) c with
    | none =>
      rw [exch_none hx] at h9
      cases h9
      exact ⟨HV.out.2.2.2.2.2.1, fun _ => rfl⟩
    | some k =>
      rw [exch_some hx] at h9
      cases h9
      refine ⟨?_, fun h => absurd rfl h⟩
      split
      · exact HV.out.2.2.2.2.2.1
      · exact HV.out.2.2.2.2.2.1
  have e0 : ((op : Int) == 0) = false := by rw [beq_eq_false_iff_ne]; have := HV.out.2.2.2.2.2.2; omega
  have e1 : ((op : Int) == 1) = false := by rw [beq_eq_false_iff_ne]; have := HV.out.2.2.2.2.2.2; omega
  have HC := Lib.hid (And.intro hxc (And.intro hxx hYp))
  clear hxc hxx hYp hab
  rcases HV.out.2.2.2.2.2.2 with rfl | rfl
  · by_cases hy : y = 0
    · subst hy
      have hx := HC.out.2.1
      rw [if_pos rfl] at hx
      cases hx
      go_wp2_with (first
        | (go_at_call 60; refine HC.out.1.mono ?_; rintro e w4 ⟨rfl, hm4, hk4⟩; refine stopped ?_)
        | fail)
      have HE4 := Lib.hid (HX.out.kept HL.out.1 hk4 hm4)
      refine go_on ?_
      clear hcp hfp i0' i1' i2' i3' hm4 hk4
      have hcp9' : w4.cell? ⟨g, 0, none⟩ = some (.int .i64 p) := HE4.out.mv.cp.trans (congrArg (fun x => some (Value.int .i64 x)) (HC.out.2.2.1))
      have hfp9 := HE4.out.mv.fz 0
      have hokp : R64 (p + 1) := ⟨by omega, by omega⟩
      have HE9 := Lib.hid (HE4.out.set HL.out.2 0 (.int .i64 (p + 1)) (mcells_p _ _ _ _ _) rfl ⟨hokp, HE4.out.mv.ok.r, HE4.out.mv.ok.mem, HE4.out.mv.ok.s, HE4.out.mv.ok.t⟩)
      clear hokp
      go_wp2_with (first
        | (with_reducible refine st_load 38 ?_; refine stopped ?_)
        | fail)
      refine go_on ?_
      refine wpList_load_at rfl 38 (.tmp 6) rfl (w.heap.size + 2) 0 rfl #[.int .i64 0, .int .i64 0] _ (Blk.cells HE9.out.e) Tryd.underlying38 rfl event_size ?_
      refine wpList_store_whole rfl 38 (.tmp 4) (.tmp 103) rfl (w.heap.size + 1) [.int .i64 0, .int .i64 0] rfl rfl 38 [.int .i64 0, .int .i64 0] HE9.out.r event_size rfl (ev_one _ _) ?_
      intro w6 hb6 hg6
      have hfin := HE9.out.fin HL.out.1 hg6
      simp only [Act.put, List.setIfInBounds_toArray, List.set_cons_zero, List.set_cons_succ]
      go_wp2_with fail
      exact bodyPost_rowv rfl (w.heap.size + 1) rfl _ rfl 38 _ _ hb6 Tryd.underlying38 rfl event_size rfl ⟨rfl, by rw [show step1 Y = { Y with p := p + 1 } by unfold step1; rw [HC.out.2.2.1]]; exact hfin⟩
    · have hyb : (y != 0) = true := by rw [bne_iff_ne]; exact hy
      have hx := HC.out.2.1
      rw [if_neg hy] at hx
      cases hx
      obtain rfl := HC.out.2.2.2 hy
      go_wp2_with (first
        | (go_at_call 60; refine HC.out.1.mono ?_; rintro e w4 ⟨rfl, hm4, hk4⟩)
        | (with_reducible refine st_store 38 ?_; refine stopped ?_)
        | fail)
      have HE4 := Lib.hid (HX.out.kept HL.out.1 hk4 hm4)
      refine go_on ?_
      refine wpList_store_whole rfl 38 (.tmp 4) (.tmp 52) rfl (w.heap.size + 1) [.int .i64 0, .int .i64 0] rfl rfl 38 [.int .i64 0, .int .i64 0] HE4.out.r event_size rfl (ev_one _ _) ?_
      intro w6 hb6 hg6
      have hfin := HE4.out.fin HL.out.1 hg6
      simp only [Act.put, List.setIfInBounds_toArray, List.set_cons_zero, List.set_cons_succ]
      go_wp2_with fail
      exact bodyPost_rowv rfl (w.heap.size + 1) rfl _ rfl 38 _ _ hb6 Tryd.underlying38 rfl event_size rfl ⟨rfl, hfin⟩
  · by_cases hy : y = 0
    · subst hy
      have hx := HC.out.2.1
      rw [if_pos rfl] at hx
      cases hx
      go_wp2_with (first
        | (go_at_call 60; refine HC.out.1.mono ?_; rintro e w4 ⟨rfl, hm4, hk4⟩; refine stopped ?_)
        | fail)
      have HE4 := Lib.hid (HX.out.kept HL.out.1 hk4 hm4)
      refine go_on ?_
      clear hcp hfp i0' i1' i2' i3' hm4 hk4
      have hcp9' : w4.cell? ⟨g, 0, none⟩ = some (.int .i64 p) := HE4.out.mv.cp.trans (congrArg (fun x => some (Value.int .i64 x)) (HC.out.2.2.1))
      have hfp9 := HE4.out.mv.fz 0
      have hokp : R64 (p + 1) := ⟨by omega, by omega⟩
      have HE9 := Lib.hid (HE4.out.set HL.out.2 0 (.int .i64 (p + 1)) (mcells_p _ _ _ _ _) rfl ⟨hokp, HE4.out.mv.ok.r, HE4.out.mv.ok.mem, HE4.out.mv.ok.s, HE4.out.mv.ok.t⟩)
      clear hokp
      go_wp2_with (first
        | (with_reducible refine st_load 38 ?_; refine stopped ?_)
        | fail)
      refine go_on ?_
      refine wpList_load_at rfl 38 (.tmp 6) rfl (w.heap.size + 2) 0 rfl #[.int .i64 0, .int .i64 0] _ (Blk.cells HE9.out.e) Tryd.underlying38 rfl event_size ?_
      refine wpList_store_whole rfl 38 (.tmp 4) (.tmp 103) rfl (w.heap.size + 1) [.int .i64 0, .int .i64 0] rfl rfl 38 [.int .i64 0, .int .i64 0] HE9.out.r event_size rfl (ev_one _ _) ?_
      intro w6 hb6 hg6
      have hfin := HE9.out.fin HL.out.1 hg6
      simp only [Act.put, List.setIfInBounds_toArray, List.set_cons_zero, List.set_cons_succ]
      go_wp2_with fail
      exact bodyPost_rowv rfl (w.heap.size + 1) rfl _ rfl 38 _ _ hb6 Tryd.underlying38 rfl event_size rfl ⟨rfl, by rw [show step1 Y = { Y with p := p + 1 } by unfold step1; rw [HC.out.2.2.1]]; exact hfin⟩
    · have hyb : (y != 0) = true := by rw [bne_iff_ne]; exact hy
      have hx := HC.out.2.1
      rw [if_neg hy] at hx
      cases hx
      obtain rfl := HC.out.2.2.2 hy
      go_wp2_with (first
        | (go_at_call 60; refine HC.out.1.mono ?_; rintro e w4 ⟨rfl, hm4, hk4⟩)
        | (with_reducible refine st_store 38 ?_; refine stopped ?_)
        | fail)
      have HE4 := Lib.hid (HX.out.kept HL.out.1 hk4 hm4)
      refine go_on ?_
      refine wpList_store_whole rfl 38 (.tmp 4) (.tmp 52) rfl (w.heap.size + 1) [.int .i64 0, .int .i64 0] rfl rfl 38 [.int .i64 0, .int .i64 0] HE4.out.r event_size rfl (ev_one _ _) ?_
      intro w6 hb6 hg6
      have hfin := HE4.out.fin HL.out.1 hg6
      simp only [Act.put, List.setIfInBounds_toArray, List.set_cons_zero, List.set_cons_succ]
      go_wp2_with fail
      exact bodyPost_rowv rfl (w.heap.size + 1) rfl _ rfl 38 _ _ hb6 Tryd.underlying38 rfl event_size rfl ⟨rfl, hfin⟩

set_option maxRecDepth 100000 in
set_option maxHeartbeats 4000000 in
set_option linter.unusedSimpArgs false in
theorem pvEffZ {B g : Nat} {M : Mach} {A : Option Addr} {n cp : Nat} (w : World) (hv : MV B w g M A n cp) (hn : n ≤ 1000000) (op a b c : Nat) (hi : Ins.ok ⟨op, a, b, c⟩) (hf : formedB ⟨op, a, b, c⟩ = true) (hp0 : 0 ≤ M.p) (hp9 : M.p < 1000000) (hop : op = 16) :
    Calls Tryd.prog 49 #[.pointer (some ⟨g, 0, none⟩), .agg #[.int .u8 (op : Int), .int .u8 (a : Int), .int .u8 (b : Int), .int .u8 (c : Int)]] w (EffPost B g A n cp w (effM ⟨op, a, b, c⟩ M)) := by
  obtain ⟨X, kd, nm, t, er⟩ : ∃ X kd nm t, effM ⟨op, a, b, c⟩ M = (X, kd, nm, t) := ⟨_, _, _, _, rfl⟩
  obtain ⟨p, ep⟩ : ∃ p, M.p = p := ⟨_, rfl⟩
  rw [er]
  rw [ep] at hp0 hp9
  have HV := Lib.hid (And.intro hv (And.intro hn (And.intro hi (And.intro hf (And.intro er (And.intro ep hop))))))
  clear hv hn hi hf er ep hop
  go_enter Tryd.func49, Tryd.ntmps49
  go_wp2_with (first
    | (refine wpList_box rfl 61 (.tmp 1) rfl (a4 op a b c).toArray rfl ?_; intro w1 hb1 hw1 hz1)
    | (with_reducible refine st_alloc 38 ?_; refine stopped ?_)
    | fail)
  refine go_on ?_
  refine wpList_alloc rfl 38 rfl #[.int .i64 0, .int .i64 0] event_zero ?_
  intro w2 hb2 hw2 hz2
  rw [hz1] at hb2 hz2 ⊢
  simp only [Act.put, List.setIfInBounds_toArray, List.set_cons_zero, List.set_cons_succ]
  go_wp2_with (first
    | (with_reducible refine st_alloc 38 ?_; refine stopped ?_)
    | fail)
  refine go_on ?_
  refine wpList_alloc rfl 38 rfl #[.int .i64 0, .int .i64 0] event_zero ?_
  intro w3 hb3 hw3 hz3
  rw [hz2] at hb3 hz3 ⊢
  simp only [Act.put, List.setIfInBounds_toArray, List.set_cons_zero, List.set_cons_succ]
  have hbl := (hw1.trans (hw2.mono hw1.size)).trans (hw3.mono (Nat.le_trans hw1.size hw2.size))
  have HX := Lib.hid (show EffAt B g A n cp w op a b c 0 0 M w3 from ⟨HV.out.1.below hbl, (hb1.below hw2 hb1.lt).below hw3 (Nat.lt_of_lt_of_le hb1.lt hw2.size), hb2.below hw3 hb2.lt, hb3, Kept.of_below hbl⟩)
  have hlt := HV.out.1.lt
  have HL := Lib.hid (And.intro HV.out.1.fl hlt)
  clear hb1 hw1 hz1 hb2 hw2 hz2 hb3 hw3 hz3 hbl
  refine wpList_nil ?_
  have hcp := HX.out.mv.cp
  rw [HV.out.2.2.2.2.2.1] at hcp
  have hfp := HX.out.mv.fz 0
  have i0' : w3.cell? ⟨w.heap.size, 0, none⟩ = some (.int .u8 (op : Int)) := by rw [HX.out.i4.cell]; rfl
  obtain rfl := HV.out.2.2.2.2.2.2
  have i1' : w3.cell? ⟨w.heap.size, 1, none⟩ = some (.int .u8 (a : Int)) := by rw [HX.out.i4.cell]; rfl
  have i2' : w3.cell? ⟨w.heap.size, 2, none⟩ = some (.int .u8 (b : Int)) := by rw [HX.out.i4.cell]; rfl
  have i3' : w3.cell? ⟨w.heap.size, 3, none⟩ = some (.int .u8 (c : Int)) := by rw [HX.out.i4.cell]; rfl
  have ha8 : a < 8 := by have := HV.out.2.2.2.1; rw [formed_16] at this; exact of_decide_eq_true this
  have ai : (a : Int) < 8 := by omega
  have a0 : (0 : Int) ≤ (a : Int) := by omega
  have cra := HX.out.mv.cr ha8
  obtain ⟨v, ev'⟩ : ∃ v, M.r a = v := ⟨_, rfl⟩
  rw [ev'] at cra
  have hnum := fun W => coNumber 16 a b c HV.out.2.2.1 W
  rw [numS_place (.inr rfl)] at hnum
  obtain ⟨z, ez⟩ : ∃ z, b + 256 * c = z := ⟨_, rfl⟩
  have hzb : z < 65536 := by have h1 := HV.out.2.2.1.2.2.1; have h2 := HV.out.2.2.1.2.2.2; dsimp only at h1 h2; omega
  rw [ez] at hnum
  have HN := Lib.hid hnum
  clear hnum
  go_wp2_with fail
  go_quiet (fail)
  have HE3 := Lib.hid (HX.out.drewN nq)
  obtain ⟨w5, ew5⟩ : ∃ W, w3.drewN nq = W := ⟨_, rfl⟩
  rw [ew5] at HE3 ⊢
  clear ew5 hcp hfp i0' i1' i2' i3' cra
  have i0' : w5.cell? ⟨w.heap.size, 0, none⟩ = some (.int .u8 ((16 : Nat) : Int)) := by rw [HE3.out.i4.cell]; rfl
  have i1' : w5.cell? ⟨w.heap.size, 1, none⟩ = some (.int .u8 (a : Int)) := by rw [HE3.out.i4.cell]; rfl
  have i2' : w5.cell? ⟨w.heap.size, 2, none⟩ = some (.int .u8 (b : Int)) := by rw [HE3.out.i4.cell]; rfl
  have i3' : w5.cell? ⟨w.heap.size, 3, none⟩ = some (.int .u8 (c : Int)) := by rw [HE3.out.i4.cell]; rfl
  by_cases hv0 : v = 0
  · subst hv0
    have hx := HV.out.2.2.2.2.1
    rw [show effM ⟨16, a, b, c⟩ M = ({ M with p := (z : Int) }, 0, 0, 0) by
      have e9 : ((Ins.num ⟨16, a, b, c⟩ : Nat) : Int) = (z : Int) := by rw [← ez]; rfl
      rw [← e9]; unfold effM; dsimp only; rw [if_neg (by decide), if_neg (by decide), if_neg (by decide), if_neg (by decide), if_pos (.inr ⟨rfl, ev'⟩)]] at hx
    cases hx
    go_wp2_with (first
      | (go_at_call 33; refine (HN.out _).mono ?_; rintro e w4 ⟨rfl, hb4⟩; refine stopped ?_)
      | fail)
    have HE4 := Lib.hid (HE3.out.below hb4)
    refine go_on ?_
    clear i0' i1' i2' i3'
    have hcp9' : w4.cell? ⟨g, 0, none⟩ = some (.int .i64 p) := HE4.out.mv.cp.trans (congrArg (fun x => some (Value.int .i64 x)) (HV.out.2.2.2.2.2.1))
    have hfp9 := HE4.out.mv.fz 0
    have hokp : R64 (z : Int) := r64_small (by omega) (by omega)
    have HE9 := Lib.hid (HE4.out.set HL.out.2 0 (.int .i64 (z : Int)) (mcells_p _ _ _ _ _) rfl ⟨hokp, HE4.out.mv.ok.r, HE4.out.mv.ok.mem, HE4.out.mv.ok.s, HE4.out.mv.ok.t⟩)
    clear hokp
    go_wp2_with (first
      | (with_reducible refine st_load 38 ?_; refine stopped ?_)
      | fail)
    refine go_on ?_
    refine wpList_load_at rfl 38 (.tmp 6) rfl (w.heap.size + 2) 0 rfl #[.int .i64 0, .int .i64 0] _ (Blk.cells HE9.out.e) Tryd.underlying38 rfl event_size ?_
    refine wpList_store_whole rfl 38 (.tmp 4) (.tmp 103) rfl (w.heap.size + 1) [.int .i64 0, .int .i64 0] rfl rfl 38 [.int .i64 0, .int .i64 0] HE9.out.r event_size rfl (ev_one _ _) ?_
    intro w6 hb6 hg6
    have hfin := HE9.out.fin HL.out.1 hg6
    simp only [Act.put, List.setIfInBounds_toArray, List.set_cons_zero, List.set_cons_succ]
    go_wp2_with fail
    exact bodyPost_rowv rfl (w.heap.size + 1) rfl _ rfl 38 _ _ hb6 Tryd.underlying38 rfl event_size rfl ⟨rfl, hfin⟩
  · have hvb : (v != 0) = true := by rw [bne_iff_ne]; exact hv0
    have hx := HV.out.2.2.2.2.1
    rw [show effM ⟨16, a, b, c⟩ M = ({ M with p := p + 1 }, 0, 0, 0) by
      have e9 : step1 M = { M with p := p + 1 } := by unfold step1; rw [HV.out.2.2.2.2.2.1]
      rw [← e9]; unfold effM; dsimp only; rw [if_neg (by decide), if_neg (by decide), if_neg (by decide), if_neg (by decide), if_neg (by rw [ev']; simp [hv0]), if_pos rfl]] at hx
    cases hx
    clear i0' i1' i2' i3'
    have hcp9' : w5.cell? ⟨g, 0, none⟩ = some (.int .i64 p) := HE3.out.mv.cp.trans (congrArg (fun x => some (Value.int .i64 x)) (HV.out.2.2.2.2.2.1))
    have hfp9 := HE3.out.mv.fz 0
    have hokp : R64 (p + 1) := ⟨by omega, by omega⟩
    have HE9 := Lib.hid (HE3.out.set HL.out.2 0 (.int .i64 (p + 1)) (mcells_p _ _ _ _ _) rfl ⟨hokp, HE3.out.mv.ok.r, HE3.out.mv.ok.mem, HE3.out.mv.ok.s, HE3.out.mv.ok.t⟩)
    clear hokp
    go_wp2_with (first
      | (with_reducible refine st_load 38 ?_; refine stopped ?_)
      | fail)
    refine go_on ?_
    refine wpList_load_at rfl 38 (.tmp 6) rfl (w.heap.size + 2) 0 rfl #[.int .i64 0, .int .i64 0] _ (Blk.cells HE9.out.e) Tryd.underlying38 rfl event_size ?_
    refine wpList_store_whole rfl 38 (.tmp 4) (.tmp 103) rfl (w.heap.size + 1) [.int .i64 0, .int .i64 0] rfl rfl 38 [.int .i64 0, .int .i64 0] HE9.out.r event_size rfl (ev_one _ _) ?_
    intro w6 hb6 hg6
    have hfin := HE9.out.fin HL.out.1 hg6
    simp only [Act.put, List.setIfInBounds_toArray, List.set_cons_zero, List.set_cons_succ]
    go_wp2_with fail
    exact bodyPost_rowv rfl (w.heap.size + 1) rfl _ rfl 38 _ _ hb6 Tryd.underlying38 rfl event_size rfl ⟨rfl, hfin⟩

set_option maxRecDepth 100000 in
set_option maxHeartbeats 4000000 in
set_option linter.unusedSimpArgs false in
theorem pvEffJ {B g : Nat} {M : Mach} {A : Option Addr} {n cp : Nat} (w : World) (hv : MV B w g M A n cp) (hn : n ≤ 1000000) (op a b c : Nat) (hi : Ins.ok ⟨op, a, b, c⟩) (hf : formedB ⟨op, a, b, c⟩ = true) (hp0 : 0 ≤ M.p) (hp9 : M.p < 1000000) (hop : op = 15) :
    Calls Tryd.prog 49 #[.pointer (some ⟨g, 0, none⟩), .agg #[.int .u8 (op : Int), .int .u8 (a : Int), .int .u8 (b : Int), .int .u8 (c : Int)]] w (EffPost B g A n cp w (effM ⟨op, a, b, c⟩ M)) := by
  obtain ⟨X, kd, nm, t, er⟩ : ∃ X kd nm t, effM ⟨op, a, b, c⟩ M = (X, kd, nm, t) := ⟨_, _, _, _, rfl⟩
  obtain ⟨p, ep⟩ : ∃ p, M.p = p := ⟨_, rfl⟩
  rw [er]
  rw [ep] at hp0 hp9
  have HV := Lib.hid (And.intro hv (And.intro hn (And.intro hi (And.intro hf (And.intro er (And.intro ep hop))))))
  clear hv hn hi hf er ep hop
  go_enter Tryd.func49, Tryd.ntmps49
  go_wp2_with (first
    | (refine wpList_box rfl 61 (.tmp 1) rfl (a4 op a b c).toArray rfl ?_; intro w1 hb1 hw1 hz1)
    | (with_reducible refine st_alloc 38 ?_; refine stopped ?_)
    | fail)
  refine go_on ?_
  refine wpList_alloc rfl 38 rfl #[.int .i64 0, .int .i64 0] event_zero ?_
  intro w2 hb2 hw2 hz2
  rw [hz1] at hb2 hz2 ⊢
  simp only [Act.put, List.setIfInBounds_toArray, List.set_cons_zero, List.set_cons_succ]
  go_wp2_with (first
    | (with_reducible refine st_alloc 38 ?_; refine stopped ?_)
    | fail)
  refine go_on ?_
  refine wpList_alloc rfl 38 rfl #[.int .i64 0, .int .i64 0] event_zero ?_
  intro w3 hb3 hw3 hz3
  rw [hz2] at hb3 hz3 ⊢
  simp only [Act.put, List.setIfInBounds_toArray, List.set_cons_zero, List.set_cons_succ]
  have hbl := (hw1.trans (hw2.mono hw1.size)).trans (hw3.mono (Nat.le_trans hw1.size hw2.size))
  have HX := Lib.hid (show EffAt B g A n cp w op a b c 0 0 M w3 from ⟨HV.out.1.below hbl, (hb1.below hw2 hb1.lt).below hw3 (Nat.lt_of_lt_of_le hb1.lt hw2.size), hb2.below hw3 hb2.lt, hb3, Kept.of_below hbl⟩)
  have hlt := HV.out.1.lt
  have HL := Lib.hid (And.intro HV.out.1.fl hlt)
  clear hb1 hw1 hz1 hb2 hw2 hz2 hb3 hw3 hz3 hbl
  refine wpList_nil ?_
  have hcp := HX.out.mv.cp
  rw [HV.out.2.2.2.2.2.1] at hcp
  have hfp := HX.out.mv.fz 0
  have i0' : w3.cell? ⟨w.heap.size, 0, none⟩ = some (.int .u8 (op : Int)) := by rw [HX.out.i4.cell]; rfl
  obtain rfl := HV.out.2.2.2.2.2.2
  have hx := HV.out.2.2.2.2.1.symm
  cases hx
  have i1' : w3.cell? ⟨w.heap.size, 1, none⟩ = some (.int .u8 (a : Int)) := by rw [HX.out.i4.cell]; rfl
  have i2' : w3.cell? ⟨w.heap.size, 2, none⟩ = some (.int .u8 (b : Int)) := by rw [HX.out.i4.cell]; rfl
  have i3' : w3.cell? ⟨w.heap.size, 3, none⟩ = some (.int .u8 (c : Int)) := by rw [HX.out.i4.cell]; rfl
  have hnum := fun W => coNumber 15 a b c HV.out.2.2.1 W
  rw [numS_place (.inl rfl)] at hnum
  obtain ⟨z, ez⟩ : ∃ z, b + 256 * c = z := ⟨_, rfl⟩
  have hzb : z < 65536 := by have h1 := HV.out.2.2.1.2.2.1; have h2 := HV.out.2.2.1.2.2.2; dsimp only at h1 h2; omega
  rw [ez] at hnum
  have HN := Lib.hid hnum
  clear hnum
  go_wp2_with (first
    | (go_at_call 33; refine (HN.out _).mono ?_; rintro e w4 ⟨rfl, hb4⟩; refine stopped ?_)
    | fail)
  have HE4 := Lib.hid (HX.out.below hb4)
  refine go_on ?_
  clear hcp hfp i0' i1' i2' i3'
  have hcp9' : w4.cell? ⟨g, 0, none⟩ = some (.int .i64 p) := HE4.out.mv.cp.trans (congrArg (fun x => some (Value.int .i64 x)) (HV.out.2.2.2.2.2.1))
  have hfp9 := HE4.out.mv.fz 0
  have hokp : R64 (z : Int) := r64_small (by omega) (by omega)
  have HE9 := Lib.hid (HE4.out.set HL.out.2 0 (.int .i64 (z : Int)) (mcells_p _ _ _ _ _) rfl ⟨hokp, HE4.out.mv.ok.r, HE4.out.mv.ok.mem, HE4.out.mv.ok.s, HE4.out.mv.ok.t⟩)
  clear hokp
  go_wp2_with (first
    | (with_reducible refine st_load 38 ?_; refine stopped ?_)
    | fail)
  refine go_on ?_
  refine wpList_load_at rfl 38 (.tmp 6) rfl (w.heap.size + 2) 0 rfl #[.int .i64 0, .int .i64 0] _ (Blk.cells HE9.out.e) Tryd.underlying38 rfl event_size ?_
  refine wpList_store_whole rfl 38 (.tmp 4) (.tmp 103) rfl (w.heap.size + 1) [.int .i64 0, .int .i64 0] rfl rfl 38 [.int .i64 0, .int .i64 0] HE9.out.r event_size rfl (ev_one _ _) ?_
  intro w6 hb6 hg6
  have hfin := HE9.out.fin HL.out.1 hg6
  simp only [Act.put, List.setIfInBounds_toArray, List.set_cons_zero, List.set_cons_succ]
  go_wp2_with fail
  exact bodyPost_rowv rfl (w.heap.size + 1) rfl _ rfl 38 _ _ hb6 Tryd.underlying38 rfl event_size rfl ⟨rfl, (by rw [(show ((Ins.num ⟨15, a, b, c⟩ : Nat) : Int) = (z : Int) by rw [← ez]; rfl)]; exact hfin)⟩

set_option maxRecDepth 100000 in
set_option maxHeartbeats 4000000 in
set_option linter.unusedSimpArgs false in
theorem pvEffK {B g : Nat} {M : Mach} {A : Option Addr} {n cp : Nat} (w : World) (hv : MV B w g M A n cp) (hn : n ≤ 1000000) (op a b c : Nat) (hi : Ins.ok ⟨op, a, b, c⟩) (hf : formedB ⟨op, a, b, c⟩ = true) (hp0 : 0 ≤ M.p) (hp9 : M.p < 1000000) (hop : op = 17) :
    Calls Tryd.prog 49 #[.pointer (some ⟨g, 0, none⟩), .agg #[.int .u8 (op : Int), .int .u8 (a : Int), .int .u8 (b : Int), .int .u8 (c : Int)]] w (EffPost B g A n cp w (effM ⟨op, a, b, c⟩ M)) := by
  obtain ⟨X, kd, nm, t, er⟩ : ∃ X kd nm t, effM ⟨op, a, b, c⟩ M = (X, kd, nm, t) := ⟨_, _, _, _, rfl⟩
  obtain ⟨p, ep⟩ : ∃ p, M.p = p := ⟨_, rfl⟩
  rw [er]
  rw [ep] at hp0 hp9
  have HV := Lib.hid (And.intro hv (And.intro hn (And.intro hi (And.intro hf (And.intro er (And.intro ep hop))))))
  clear hv hn hi hf er ep hop
  go_enter Tryd.func49, Tryd.ntmps49
  go_wp2_with (first
    | (refine wpList_box rfl 61 (.tmp 1) rfl (a4 op a b c).toArray rfl ?_; intro w1 hb1 hw1 hz1)
    | (with_reducible refine st_alloc 38 ?_; refine stopped ?_)
    | fail)
  refine go_on ?_
  refine wpList_alloc rfl 38 rfl #[.int .i64 0, .int .i64 0] event_zero ?_
  intro w2 hb2 hw2 hz2
  rw [hz1] at hb2 hz2 ⊢
  simp only [Act.put, List.setIfInBounds_toArray, List.set_cons_zero, List.set_cons_succ]
  go_wp2_with (first
    | (with_reducible refine st_alloc 38 ?_; refine stopped ?_)
    | fail)
  refine go_on ?_
  refine wpList_alloc rfl 38 rfl #[.int .i64 0, .int .i64 0] event_zero ?_
  intro w3 hb3 hw3 hz3
  rw [hz2] at hb3 hz3 ⊢
  simp only [Act.put, List.setIfInBounds_toArray, List.set_cons_zero, List.set_cons_succ]
  have hbl := (hw1.trans (hw2.mono hw1.size)).trans (hw3.mono (Nat.le_trans hw1.size hw2.size))
  have HX := Lib.hid (show EffAt B g A n cp w op a b c 0 0 M w3 from ⟨HV.out.1.below hbl, (hb1.below hw2 hb1.lt).below hw3 (Nat.lt_of_lt_of_le hb1.lt hw2.size), hb2.below hw3 hb2.lt, hb3, Kept.of_below hbl⟩)
  have hlt := HV.out.1.lt
  have HL := Lib.hid (And.intro HV.out.1.fl hlt)
  clear hb1 hw1 hz1 hb2 hw2 hz2 hb3 hw3 hz3 hbl
  refine wpList_nil ?_
  have hcp := HX.out.mv.cp
  rw [HV.out.2.2.2.2.2.1] at hcp
  have hfp := HX.out.mv.fz 0
  have i0' : w3.cell? ⟨w.heap.size, 0, none⟩ = some (.int .u8 (op : Int)) := by rw [HX.out.i4.cell]; rfl
  obtain rfl := HV.out.2.2.2.2.2.2
  have hx := HV.out.2.2.2.2.1.symm
  cases hx
  have i1' : w3.cell? ⟨w.heap.size, 1, none⟩ = some (.int .u8 (a : Int)) := by rw [HX.out.i4.cell]; rfl
  have i2' : w3.cell? ⟨w.heap.size, 2, none⟩ = some (.int .u8 (b : Int)) := by rw [HX.out.i4.cell]; rfl
  have i3' : w3.cell? ⟨w.heap.size, 3, none⟩ = some (.int .u8 (c : Int)) := by rw [HX.out.i4.cell]; rfl
  have hin : (a : Int) < 256 := by have := HV.out.2.2.1.2.1; dsimp only at this; omega
  go_wp2_with (first
    | (with_reducible refine st_store 38 ?_; refine stopped ?_)
    | fail)
  refine go_on ?_
  refine wpList_store_whole rfl 38 (.tmp 6) (.tmp 67) rfl (w.heap.size + 2) [.int .i64 1, .int .i64 (a : Int)] rfl rfl 38 [.int .i64 0, .int .i64 0] HX.out.e event_size rfl (ev_one _ _) ?_
  intro w4 hb4 hg4
  have HE4 := Lib.hid (HX.out.evs HL.out.1 hb4 hg4)
  clear hcp hfp i0' i1' i2' i3' hb4 hg4
  simp only [Act.put, List.setIfInBounds_toArray, List.set_cons_zero, List.set_cons_succ]
  refine wpList_nil ?_
  have hcp9' : w4.cell? ⟨g, 0, none⟩ = some (.int .i64 p) := HE4.out.mv.cp.trans (congrArg (fun x => some (Value.int .i64 x)) (HV.out.2.2.2.2.2.1))
  have hfp9 := HE4.out.mv.fz 0
  have hokp : R64 (p + 1) := ⟨by omega, by omega⟩
  have HE9 := Lib.hid (HE4.out.set HL.out.2 0 (.int .i64 (p + 1)) (mcells_p _ _ _ _ _) rfl ⟨hokp, HE4.out.mv.ok.r, HE4.out.mv.ok.mem, HE4.out.mv.ok.s, HE4.out.mv.ok.t⟩)
  clear hokp
  go_wp2_with (first
    | (with_reducible refine st_load 38 ?_; refine stopped ?_)
    | fail)
  refine go_on ?_
  refine wpList_load_at rfl 38 (.tmp 6) rfl (w.heap.size + 2) 0 rfl #[.int .i64 1, .int .i64 (a : Int)] _ (Blk.cells HE9.out.e) Tryd.underlying38 rfl event_size ?_
  refine wpList_store_whole rfl 38 (.tmp 4) (.tmp 103) rfl (w.heap.size + 1) [.int .i64 1, .int .i64 (a : Int)] rfl rfl 38 [.int .i64 0, .int .i64 0] HE9.out.r event_size rfl (ev_one _ _) ?_
  intro w6 hb6 hg6
  have hfin := HE9.out.fin HL.out.1 hg6
  simp only [Act.put, List.setIfInBounds_toArray, List.set_cons_zero, List.set_cons_succ]
  go_wp2_with fail
  exact bodyPost_rowv rfl (w.heap.size + 1) rfl _ rfl 38 _ _ hb6 Tryd.underlying38 rfl event_size rfl ⟨rfl, (by rw [(show step1 M = { M with p := p + 1 } by unfold step1; rw [HV.out.2.2.2.2.2.1])]; exact hfin)⟩
end Go.Proofs.YthgiehlfmdobkaaDoor
