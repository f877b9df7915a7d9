/-
  Package pvm's effect: Zero, by its contract. Conditions: the theorem's own premises.
-/
import Derived.Test.YthgiehlfmdobkaaDoorPvmFnH
import Derived.BigQuiet
namespace Go.Proofs.YthgiehlfmdobkaaDoor
open Go.RowKit

set_option maxRecDepth 100000 in
set_option maxHeartbeats 4000000 in
set_option linter.unusedSimpArgs false in
theorem pvEffZ {B g : Nat} {M : Mach} {A : Option Addr} {n cp : Nat} (w : World) (hv : MV B w g M A n cp) (hn : n ≤ 1000000) (op a b c : Nat) (hi : Ins.ok ⟨op, a, b, c⟩) (hf : formedB ⟨op, a, b, c⟩ = true) (hp0 : 0 ≤ M.p) (hp9 : M.p < 1000000) (hop : op = 16) :
    Calls Tryd.prog 49 #[.pointer (some ⟨g, 0, none⟩), .agg #[.int .u8 (op : Int), .int .u8 (a : Int), .int .u8 (b : Int), .int .u8 (c : Int)]] w (EffPost B g A n cp w (effM ⟨op, a, b, c⟩ M)) := by
  obtain ⟨X, kd, nm, t, er⟩ : ∃ X kd nm t, effM ⟨op, a, b, c⟩ M = (X, kd, nm, t) := ⟨_, _, _, _, rfl⟩
  obtain ⟨p, ep⟩ : ∃ p, M.p = p := ⟨_, rfl⟩
  rw [er]
  rw [ep] at hp0 hp9
  have HV := Lib.hid (And.intro hv (And.intro hn (And.intro hi (And.intro hf (And.intro er (And.intro ep hop))))))
  clear hv hn hi hf er ep hop
  go_enter Tryd.func49, Tryd.ntmps49
  go_wp2_with (first
    | (refine wpList_box rfl 61 (.tmp 1) rfl (a4 op a b c).toArray rfl ?_; intro w1 hb1 hw1 hz1)
    | (with_reducible refine st_alloc 38 ?_; refine stopped ?_)
    | fail)
  refine go_on ?_
  refine wpList_alloc rfl 38 rfl #[.int .i64 0, .int .i64 0] event_zero ?_
  intro w2 hb2 hw2 hz2
  rw [hz1] at hb2 hz2 ⊢
  simp only [Act.put, List.setIfInBounds_toArray, List.set_cons_zero, List.set_cons_succ]
  go_wp2_with (first
    | (with_reducible refine st_alloc 38 ?_; refine stopped ?_)
    | fail)
  refine go_on ?_
  refine wpList_alloc rfl 38 rfl #[.int .i64 0, .int .i64 0] event_zero ?_
  intro w3 hb3 hw3 hz3
  rw [hz2] at hb3 hz3 ⊢
  simp only [Act.put, List.setIfInBounds_toArray, List.set_cons_zero, List.set_cons_succ]
  have hbl := (hw1.trans (hw2.mono hw1.size)).trans (hw3.mono (Nat.le_trans hw1.size hw2.size))
  have HX := Lib.hid (show EffAt B g A n cp w op a b c 0 0 M w3 from ⟨HV.out.1.below hbl, (hb1.below hw2 hb1.lt).below hw3 (Nat.lt_of_lt_of_le hb1.lt hw2.size), hb2.below hw3 hb2.lt, hb3, Kept.of_below hbl⟩)
  have hlt := HV.out.1.lt
  have HL := Lib.hid (And.intro HV.out.1.fl hlt)
  clear hb1 hw1 hz1 hb2 hw2 hz2 hb3 hw3 hz3 hbl
  refine wpList_nil ?_
  have hcp := HX.out.mv.cp
  rw [HV.out.2.2.2.2.2.1] at hcp
  have hfp := HX.out.mv.fz 0
  have i0' : w3.cell? ⟨w.heap.size, 0, none⟩ = some (.int .u8 (op : Int)) := by rw [HX.out.i4.cell]; rfl
  obtain rfl := HV.out.2.2.2.2.2.2
  have i1' : w3.cell? ⟨w.heap.size, 1, none⟩ = some (.int .u8 (a : Int)) := by rw [HX.out.i4.cell]; rfl
  have i2' : w3.cell? ⟨w.heap.size, 2, none⟩ = some (.int .u8 (b : Int)) := by rw [HX.out.i4.cell]; rfl
  have i3' : w3.cell? ⟨w.heap.size, 3, none⟩ = some (.int .u8 (c : Int)) := by rw [HX.out.i4.cell]; rfl
  have ha8 : a < 8 := by have := HV.out.2.2.2.1; rw [formed_16] at this; exact of_decide_eq_true this
  have ai : (a : Int) < 8 := by omega
  have a0 : (0 : Int) ≤ (a : Int) := by omega
  have cra := HX.out.mv.cr ha8
  obtain ⟨v, ev'⟩ : ∃ v, M.r a = v := ⟨_, rfl⟩
  rw [ev'] at cra
  have hnum := fun W => coNumber 16 a b c HV.out.2.2.1 W
  rw [numS_place (.inr rfl)] at hnum
  obtain ⟨z, ez⟩ : ∃ z, b + 256 * c = z := ⟨_, rfl⟩
  have hzb : z < 65536 := by have h1 := HV.out.2.2.1.2.2.1; have h2 := HV.out.2.2.1.2.2.2; dsimp only at h1 h2; omega
  rw [ez] at hnum
  have HN := Lib.hid hnum
  clear hnum
  go_wp2_with fail
  go_quiet (fail)
  have HE3 := Lib.hid (HX.out.drewN nq)
  obtain ⟨w5, ew5⟩ : ∃ W, w3.drewN nq = W := ⟨_, rfl⟩
  rw [ew5] at HE3 ⊢
  clear ew5 hcp hfp i0' i1' i2' i3' cra
  have i0' : w5.cell? ⟨w.heap.size, 0, none⟩ = some (.int .u8 ((16 : Nat) : Int)) := by rw [HE3.out.i4.cell]; rfl
  have i1' : w5.cell? ⟨w.heap.size, 1, none⟩ = some (.int .u8 (a : Int)) := by rw [HE3.out.i4.cell]; rfl
  have i2' : w5.cell? ⟨w.heap.size, 2, none⟩ = some (.int .u8 (b : Int)) := by rw [HE3.out.i4.cell]; rfl
  have i3' : w5.cell? ⟨w.heap.size, 3, none⟩ = some (.int .u8 (c : Int)) := by rw [HE3.out.i4.cell]; rfl
  by_cases hv0 : v = 0
  · subst hv0
    have hx := HV.out.2.2.2.2.1
    rw [show effM ⟨16, a, b, c⟩ M = ({ M with p := (z : Int) }, 0, 0, 0) by
      have e9 : ((Ins.num ⟨16, a, b, c⟩ : Nat) : Int) = (z : Int) := by rw [← ez]; rfl
      rw [← e9]; unfold effM; dsimp only; rw [if_neg (by decide), if_neg (by decide), if_neg (by decide), if_neg (by decide), if_pos (.inr ⟨rfl, ev'⟩)]] at hx
    cases hx
    go_wp2_with (first
      | (go_at_call 33; refine (HN.out _).mono ?_; rintro e w4 ⟨rfl, hb4⟩; refine stopped ?_)
      | fail)
    have HE4 := Lib.hid (HE3.out.below hb4)
    refine go_on ?_
    clear i0' i1' i2' i3'
    have hcp9' : w4.cell? ⟨g, 0, none⟩ = some (.int .i64 p) := HE4.out.mv.cp.trans (congrArg (fun x => some (Value.int .i64 x)) (HV.out.2.2.2.2.2.1))
    have hfp9 := HE4.out.mv.fz 0
    have hokp : R64 (z : Int) := r64_small (by omega) (by omega)
    have HE9 := Lib.hid (HE4.out.set HL.out.2 0 (.int .i64 (z : Int)) (mcells_p _ _ _ _ _) rfl ⟨hokp, HE4.out.mv.ok.r, HE4.out.mv.ok.mem, HE4.out.mv.ok.s, HE4.out.mv.ok.t⟩)
    clear hokp
    go_wp2_with (first
      | (with_reducible refine st_load 38 ?_; refine stopped ?_)
      | fail)
    refine go_on ?_
    refine wpList_load_at rfl 38 (.tmp 6) rfl (w.heap.size + 2) 0 rfl #[.int .i64 0, .int .i64 0] _ (Blk.cells HE9.out.e) Tryd.underlying38 rfl event_size ?_
    refine wpList_store_whole rfl 38 (.tmp 4) (.tmp 103) rfl (w.heap.size + 1) [.int .i64 0, .int .i64 0] rfl rfl 38 [.int .i64 0, .int .i64 0] HE9.out.r event_size rfl (ev_one _ _) ?_
    intro w6 hb6 hg6
    have hfin := HE9.out.fin HL.out.1 hg6
    simp only [Act.put, List.setIfInBounds_toArray, List.set_cons_zero, List.set_cons_succ]
    go_wp2_with fail
    exact bodyPost_rowv rfl (w.heap.size + 1) rfl _ rfl 38 _ _ hb6 Tryd.underlying38 rfl event_size rfl ⟨rfl, hfin⟩
  · have hvb : (v != 0) = true := by rw [bne_iff_ne]; exact hv0
    have hx := HV.out.2.2.2.2.1
    rw [show effM ⟨16, a, b, c⟩ M = ({ M with p := p + 1 }, 0, 0, 0) by
      have e9 : step1 M = { M with p := p + 1 } := by unfold step1; rw [HV.out.2.2.2.2.2.1]
      rw [← e9]; unfold effM; dsimp only; rw [if_neg (by decide), if_neg (by decide), if_neg (by decide), if_neg (by decide), if_neg (by rw [ev']; simp [hv0]), if_pos rfl]] at hx
    cases hx
    clear i0' i1' i2' i3'
    have hcp9' : w5.cell? ⟨g, 0, none⟩ = some (.int .i64 p) := HE3.out.mv.cp.trans (congrArg (fun x => some (Value.int .i64 x)) (HV.out.2.2.2.2.2.1))
    have hfp9 := HE3.out.mv.fz 0
    have hokp : R64 (p + 1) := ⟨by omega, by omega⟩
    have HE9 := Lib.hid (HE3.out.set HL.out.2 0 (.int .i64 (p + 1)) (mcells_p _ _ _ _ _) rfl ⟨hokp, HE3.out.mv.ok.r, HE3.out.mv.ok.mem, HE3.out.mv.ok.s, HE3.out.mv.ok.t⟩)
    clear hokp
    go_wp2_with (first
      | (with_reducible refine st_load 38 ?_; refine stopped ?_)
      | fail)
    refine go_on ?_
    refine wpList_load_at rfl 38 (.tmp 6) rfl (w.heap.size + 2) 0 rfl #[.int .i64 0, .int .i64 0] _ (Blk.cells HE9.out.e) Tryd.underlying38 rfl event_size ?_
    refine wpList_store_whole rfl 38 (.tmp 4) (.tmp 103) rfl (w.heap.size + 1) [.int .i64 0, .int .i64 0] rfl rfl 38 [.int .i64 0, .int .i64 0] HE9.out.r event_size rfl (ev_one _ _) ?_
    intro w6 hb6 hg6
    have hfin := HE9.out.fin HL.out.1 hg6
    simp only [Act.put, List.setIfInBounds_toArray, List.set_cons_zero, List.set_cons_succ]
    go_wp2_with fail
    exact bodyPost_rowv rfl (w.heap.size + 1) rfl _ rfl 38 _ _ hb6 Tryd.underlying38 rfl event_size rfl ⟨rfl, hfin⟩
end Go.Proofs.YthgiehlfmdobkaaDoor
