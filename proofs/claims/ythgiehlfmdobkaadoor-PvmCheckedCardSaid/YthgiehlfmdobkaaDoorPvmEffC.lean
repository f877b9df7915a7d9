/-
  Package pvm's effect: Move to Same, by its contract. Conditions: the theorem's own premises.
-/
import Derived.Test.YthgiehlfmdobkaaDoorPvmFnH
import Derived.BigQuiet
namespace Go.Proofs.YthgiehlfmdobkaaDoor
open Go.RowKit

set_option maxRecDepth 100000 in
set_option maxHeartbeats 4000000 in
set_option linter.unusedSimpArgs false in
theorem pvEffC {B g : Nat} {M : Mach} {A : Option Addr} {n cp : Nat} (w : World) (hv : MV B w g M A n cp) (hn : n ≤ 1000000) (op a b c : Nat) (hi : Ins.ok ⟨op, a, b, c⟩) (hf : formedB ⟨op, a, b, c⟩ = true) (hp0 : 0 ≤ M.p) (hp9 : M.p < 1000000) (h2 : 2 ≤ op) (h12 : op ≤ 12) :
    Calls Tryd.prog 49 #[.pointer (some ⟨g, 0, none⟩), .agg #[.int .u8 (op : Int), .int .u8 (a : Int), .int .u8 (b : Int), .int .u8 (c : Int)]] w (EffPost B g A n cp w (effM ⟨op, a, b, c⟩ M)) := by
  obtain ⟨X, kd, nm, t, er⟩ : ∃ X kd nm t, effM ⟨op, a, b, c⟩ M = (X, kd, nm, t) := ⟨_, _, _, _, rfl⟩
  obtain ⟨p, ep⟩ : ∃ p, M.p = p := ⟨_, rfl⟩
  rw [er]
  rw [ep] at hp0 hp9
  have HV := Lib.hid (And.intro hv (And.intro hn (And.intro hi (And.intro hf (And.intro er (And.intro ep (And.intro h2 h12)))))))
  clear hv hn hi hf er ep h2 h12
  go_enter Tryd.func49, Tryd.ntmps49
  go_wp2_with (first
    | (refine wpList_box rfl 61 (.tmp 1) rfl (a4 op a b c).toArray rfl ?_; intro w1 hb1 hw1 hz1)
    | (with_reducible refine st_alloc 38 ?_; refine stopped ?_)
    | fail)
  refine go_on ?_
  refine wpList_alloc rfl 38 rfl #[.int .i64 0, .int .i64 0] event_zero ?_
  intro w2 hb2 hw2 hz2
  rw [hz1] at hb2 hz2 ⊢
  simp only [Act.put, List.setIfInBounds_toArray, List.set_cons_zero, List.set_cons_succ]
  go_wp2_with (first
    | (with_reducible refine st_alloc 38 ?_; refine stopped ?_)
    | fail)
  refine go_on ?_
  refine wpList_alloc rfl 38 rfl #[.int .i64 0, .int .i64 0] event_zero ?_
  intro w3 hb3 hw3 hz3
  rw [hz2] at hb3 hz3 ⊢
  simp only [Act.put, List.setIfInBounds_toArray, List.set_cons_zero, List.set_cons_succ]
  have hbl := (hw1.trans (hw2.mono hw1.size)).trans (hw3.mono (Nat.le_trans hw1.size hw2.size))
  have HX := Lib.hid (show EffAt B g A n cp w op a b c 0 0 M w3 from ⟨HV.out.1.below hbl, (hb1.below hw2 hb1.lt).below hw3 (Nat.lt_of_lt_of_le hb1.lt hw2.size), hb2.below hw3 hb2.lt, hb3, Kept.of_below hbl⟩)
  have hlt := HV.out.1.lt
  have HL := Lib.hid (And.intro HV.out.1.fl hlt)
  clear hb1 hw1 hz1 hb2 hw2 hz2 hb3 hw3 hz3 hbl
  refine wpList_nil ?_
  have hcp := HX.out.mv.cp
  rw [HV.out.2.2.2.2.2.1] at hcp
  have hfp := HX.out.mv.fz 0
  have i0' : w3.cell? ⟨w.heap.size, 0, none⟩ = some (.int .u8 (op : Int)) := by rw [HX.out.i4.cell]; rfl
  have i1' : w3.cell? ⟨w.heap.size, 1, none⟩ = some (.int .u8 (a : Int)) := by rw [HX.out.i4.cell]; rfl
  have i2' : w3.cell? ⟨w.heap.size, 2, none⟩ = some (.int .u8 (b : Int)) := by rw [HX.out.i4.cell]; rfl
  have i3' : w3.cell? ⟨w.heap.size, 3, none⟩ = some (.int .u8 (c : Int)) := by rw [HX.out.i4.cell]; rfl
  have hab : a < 8 ∧ b < 8 ∧ c < 8 := by
    have h := HV.out.2.2.2.1
    by_cases h2 : op = 2
    · subst h2
      rw [formed_2] at h
      have := of_decide_eq_true h
      omega
    · rw [formed_mid (by have := HV.out.2.2.2.2.2.2.1; omega) HV.out.2.2.2.2.2.2.2] at h
      exact of_decide_eq_true h
  have hcal := fun W => pvCalc op (M.r b) (M.r c) HV.out.2.2.2.2.2.2.1 HV.out.2.2.2.2.2.2.2 W
  obtain ⟨v, y, ey⟩ : ∃ v y, calcM op (M.r b) (M.r c) = (v, y) := ⟨_, _, rfl⟩
  rw [ey] at hcal
  have hv64 : R64 v := by
    have h9 : v = (calcM op (M.r b) (M.r c)).1 := by rw [ey]
    rw [h9]
    unfold calcM
    split
    · exact r64_0
    · dsimp only
      split
      · exact HV.out.1.ok.r b
      · exact r64_two op (HV.out.1.ok.r b)
  have hxx : (X, kd, nm, t) = if y = 0 then (step1 (setR M a v), 0, 0, 0) else (M, 0, 0, y) := by
    rw [← HV.out.2.2.2.2.1]
    have h9 := HV.out.2.2.2.2.2.2
    have n0 : ¬ op = 0 := by omega
    have n1 : ¬ op = 1 := by omega
    unfold effM
    dsimp only
    rw [if_neg n0, if_neg n1, if_pos h9.2, ey]
  have e0 : ((op : Int) == 0) = false := by rw [beq_eq_false_iff_ne]; have := HV.out.2.2.2.2.2.2; omega
  have e1 : ((op : Int) == 1) = false := by rw [beq_eq_false_iff_ne]; have := HV.out.2.2.2.2.2.2; omega
  have e13 : ((op : Int) == 13) = false := by rw [beq_eq_false_iff_ne]; have := HV.out.2.2.2.2.2.2; omega
  have e14 : ((op : Int) == 14) = false := by rw [beq_eq_false_iff_ne]; have := HV.out.2.2.2.2.2.2; omega
  have e15 : ((op : Int) == 15) = false := by rw [beq_eq_false_iff_ne]; have := HV.out.2.2.2.2.2.2; omega
  have e16 : ((op : Int) == 16) = false := by rw [beq_eq_false_iff_ne]; have := HV.out.2.2.2.2.2.2; omega
  have e17 : ((op : Int) == 17) = false := by rw [beq_eq_false_iff_ne]; have := HV.out.2.2.2.2.2.2; omega
  have crb := HX.out.mv.cr hab.2.1
  have crc := HX.out.mv.cr hab.2.2
  have ai : (a : Int) < 8 := by omega
  have a0 : (0 : Int) ≤ (a : Int) := by omega
  have bi : (b : Int) < 8 := by omega
  have b0 : (0 : Int) ≤ (b : Int) := by omega
  have ci : (c : Int) < 8 := by omega
  have c0 : (0 : Int) ≤ (c : Int) := by omega
  have HC := Lib.hid (And.intro hcal (And.intro hxx (And.intro hv64 hab.1)))
  clear hcal hxx hab hv64
  go_wp2_with fail
  go_quiet ((go_at_call 61; exact same_quiet (HC.out.1 _)))
  have HE3 := Lib.hid (HX.out.drewN nq)
  obtain ⟨w5, ew5⟩ : ∃ W, w3.drewN nq = W := ⟨_, rfl⟩
  rw [ew5] at HE3 ⊢
  clear ew5 hcp hfp i0' i1' i2' i3' crb crc
  by_cases hy : y = 0
  · subst hy
    have hx := HC.out.2.1
    rw [if_pos rfl] at hx
    cases hx
    have i1' : w5.cell? ⟨w.heap.size, 1, none⟩ = some (.int .u8 (a : Int)) := by rw [HE3.out.i4.cell]; rfl
    have cra := HE3.out.mv.cr HC.out.2.2.2
    have fra := HE3.out.mv.fz (1 + a)
    go_wp2_with fail
    go_region
    have hE4 := (HE3.out.set HL.out.2 (1 + a) (.int .i64 v) (mcells_r _ _ _ _ v a HC.out.2.2.2) rfl (ok_setR HX.out.mv.ok a HC.out.2.2.1)).drewN 1
    have hE4 : EffAt B g A n cp w op a b c 0 0 (setR M a v) (w5.setCell ⟨g, 1 + a, none⟩ (.int .i64 v)).drew := hE4
    obtain ⟨w6, ew6⟩ : ∃ W, (w5.setCell ⟨g, 1 + a, none⟩ (.int .i64 v)).drew = W := ⟨_, rfl⟩
    rw [ew6] at hE4 ⊢
    have HE4 := Lib.hid hE4
    clear hE4 i1' cra fra ew6
    have hcp9' : w6.cell? ⟨g, 0, none⟩ = some (.int .i64 p) := HE4.out.mv.cp.trans (congrArg (fun x => some (Value.int .i64 x)) (HV.out.2.2.2.2.2.1))
    have hfp9 := HE4.out.mv.fz 0
    have hokp : R64 (p + 1) := ⟨by omega, by omega⟩
    have HE9 := Lib.hid (HE4.out.set HL.out.2 0 (.int .i64 (p + 1)) (mcells_p _ _ _ _ _) rfl ⟨hokp, HE4.out.mv.ok.r, HE4.out.mv.ok.mem, HE4.out.mv.ok.s, HE4.out.mv.ok.t⟩)
    clear hokp
    go_wp2_with (first
      | (with_reducible refine st_load 38 ?_; refine stopped ?_)
      | fail)
    refine go_on ?_
    refine wpList_load_at rfl 38 (.tmp 6) rfl (w.heap.size + 2) 0 rfl #[.int .i64 0, .int .i64 0] _ (Blk.cells HE9.out.e) Tryd.underlying38 rfl event_size ?_
    refine wpList_store_whole rfl 38 (.tmp 4) (.tmp 103) rfl (w.heap.size + 1) [.int .i64 0, .int .i64 0] rfl rfl 38 [.int .i64 0, .int .i64 0] HE9.out.r event_size rfl (ev_one _ _) ?_
    intro w7 hb7 hg7
    have hfin := HE9.out.fin HL.out.1 hg7
    simp only [Act.put, List.setIfInBounds_toArray, List.set_cons_zero, List.set_cons_succ]
    go_wp2_with fail
    exact bodyPost_rowv rfl (w.heap.size + 1) rfl _ rfl 38 _ _ hb7 Tryd.underlying38 rfl event_size rfl ⟨rfl, by rw [show step1 (setR M a v) = { setR M a v with p := p + 1 } by unfold step1; rw [show (setR M a v).p = p from HV.out.2.2.2.2.2.1]]; exact hfin⟩
  · have hyb : (y != 0) = true := by rw [bne_iff_ne]; exact hy
    have hx := HC.out.2.1
    rw [if_neg hy] at hx
    cases hx
    go_wp2_with (first
      | (with_reducible refine st_store 38 ?_; refine stopped ?_)
      | fail)
    refine go_on ?_
    refine wpList_store_whole rfl 38 (.tmp 4) (.tmp 90) rfl (w.heap.size + 1) [.int .i64 0, .int .i64 0] rfl rfl 38 [.int .i64 0, .int .i64 0] HE3.out.r event_size rfl (ev_one _ _) ?_
    intro w6 hb6 hg6
    have hfin := HE3.out.fin HL.out.1 hg6
    simp only [Act.put, List.setIfInBounds_toArray, List.set_cons_zero, List.set_cons_succ]
    go_wp2_with fail
    exact bodyPost_rowv rfl (w.heap.size + 1) rfl _ rfl 38 _ _ hb6 Tryd.underlying38 rfl event_size rfl ⟨rfl, hfin⟩
end Go.Proofs.YthgiehlfmdobkaaDoor
