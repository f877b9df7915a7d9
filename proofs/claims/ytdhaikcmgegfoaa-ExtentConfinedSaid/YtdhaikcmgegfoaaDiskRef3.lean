/-
  The disk's reference: Crash, Power, Arm, step and Flush, by their contracts. Conditions: the theorems' own premises.
-/
import Derived.Test.YtdhaikcmgegfoaaDiskRef2
namespace Go.Proofs.Ytdhaikcmgegfoaa
open Go.RowKit

theorem RefIs.grown {w w' : World} {B g : Nat} {cs : List Value} {d : Dk} (h : RefIs w B cs d) (hB : B ≤ w.heap.size) (hg : w.grownBy w' (some g)) (hf : RefFar cs d g) : RefIs w' B cs d := by
  obtain ⟨ho, A, W, S, ca, cw, cs0, e, h1, h2, h3⟩ := h
  have hf' := hf _ _ _ _ _ _ e
  exact ⟨ho, A, W, S, ca, cw, cs0, e, vs_grown h1 hB hg hf'.1 (by rw [svs_length]; exact id), vs_grown h2 hB hg hf'.2.1 (by rw [wvs_length]; omega), vs_grown h3 hB hg hf'.2.2 (by rw [bvs_length]; exact id)⟩
/-- other flags -/
theorem RefIs.flags {w : World} {B : Nat} {A W S : Option Addr} {ca cw cs : Nat} {d d' : Dk} (h : RefIs w B (refCells A W S ca cw cs d) d) (ho : d'.ok) (e1 : d'.has = d.has) (e2 : d'.waits = d.waits) (e3 : d'.surv = d.surv) : RefIs w B (refCells A W S ca cw cs d') d' := by
  obtain ⟨_, A1, W1, S1, ca1, cw1, cs1, e, h1, h2, h3⟩ := h
  simp only [refCells, List.cons.injEq, Value.slice.injEq] at e
  obtain ⟨⟨rfl, _, _⟩, ⟨rfl, _, _⟩, _, _, ⟨rfl, _, _⟩, _⟩ := e
  exact ⟨ho, A, W, S, ca, cw, cs, rfl, e1 ▸ h1, e2 ▸ h2, e3 ▸ h3⟩
theorem far_flags {A W S : Option Addr} {ca cw cs : Nat} {d d' : Dk} {g : Nat} (h : RefFar (refCells A W S ca cw cs d) d g) (e1 : d'.has.length = d.has.length) (e2 : d'.waits.length = d.waits.length) (e3 : d'.surv.length = d.surv.length) : RefFar (refCells A W S ca cw cs d') d' g := by
  have h' := h _ _ _ _ _ _ rfl
  refine ref_far ⟨?_, ?_, ?_⟩
  · rw [e1]; exact h'.1
  · rw [e2]; exact h'.2.1
  · rw [e3]; exact h'.2.2

set_option maxRecDepth 100000 in
set_option maxHeartbeats 1000000 in
set_option linter.unusedSimpArgs false in
theorem refCrash_any (w : World) (cs : List Value) (d : Dk) (h : RefIs w w.heap.size cs d) (hw : d.waits.length ≤ 4294967296) (S : Option Addr) (surv : List Bool) (c : Nat) (hS : Vs w w.heap.size S (bvs surv)) :
    Calls Try.prog 29 #[.agg cs.toArray, .slice S surv.length c] w (RefPost w cs d (d.crash surv) (fun v => v)) := by
  have HS := Lib.hid hS
  have hlay0 := laid_any (w := w)
  clear hlay0 hS
  obtain ⟨ns, ens⟩ : ∃ n, surv.length = n := ⟨_, rfl⟩
  rw [ens]
  obtain ⟨hok, A0, W, S0, ca0, cw, cs0, ecs, hA0, hW, hS0⟩ := h
  subst ecs
  obtain ⟨X, hX⟩ : ∃ X, (refCells A0 W S0 ca0 cw cs0 d).toArray = X := ⟨_, rfl⟩
  rw [hX]
  have HX := Lib.hid hX
  have HP := Lib.hid (And.intro hA0 (And.intro hW hS0))
  have HO := Lib.hid hok
  clear hX hA0 hW hS0 hok
  go_enter Try.func29, Try.ntmps29
  go_wp2_with (first
    | (refine wpList_box rfl 45 (.tmp 0) rfl X rfl ?_; intro w1 hb1 hw1 hz1; refine stopped ?_)
    | fail)
  refine go_on ?_
  refine wpList_alloc rfl 45 rfl _ rdisk_zero ?_
  intro w2 hb2 hw2 hz2
  simp only [Act.put, List.setIfInBounds_toArray, List.set_cons_zero, List.set_cons_succ]
  rw [← HX.out] at hb1
  obtain ⟨g2, e3⟩ : ∃ g, w.heap.size = g := ⟨_, rfl⟩
  obtain ⟨g4, e6⟩ : ∃ g, w1.heap.size = g := ⟨_, rfl⟩
  rw [e3] at hb1 hz1 hw1
  rw [e6] at hb2 hz2 hw2
  rw [e3, e6]
  have h36 : g4 = g2 + 1 := by omega
  have hbb : Below g2 w w2 := hw1.trans (hw2.mono (by omega))
  have HB := Lib.hid (And.intro (hb1.below hw2 (by omega)) (And.intro hb2 (And.intro hbb (And.intro h36 (And.intro hz2 e3)))))
  have hR2 : RefIs w2 w2.heap.size (refCells A0 W S0 ca0 cw cs0 d) d := (RefIs.below ⟨HO.out, A0, W, S0, ca0, cw, cs0, rfl, HP.out.1, HP.out.2.1, HP.out.2.2⟩ (e3 ▸ hbb)).more (by omega)
  have hF : ∀ g, w.heap.size ≤ g → RefFar (refCells A0 W S0 ca0 cw cs0 d) d g := fun g hg => ref_far ⟨far_below HP.out.1 hg (by rw [svs_length]; exact id), far_below HP.out.2.1 hg (by rw [wvs_length]; omega), far_below HP.out.2.2 hg (by rw [bvs_length]; exact id)⟩
  have hc0 : w2.cell? ⟨g2, 0, none⟩ = some (.slice A0 d.has.length ca0) := by rw [HB.out.1.cell]; rfl
  have hc1 : w2.cell? ⟨g2, 1, none⟩ = some (.slice W d.waits.length cw) := by rw [HB.out.1.cell]; rfl
  have hc2 : w2.cell? ⟨g2, 2, none⟩ = some (.bool d.off) := by rw [HB.out.1.cell]; rfl
  have hc3 : w2.cell? ⟨g2, 3, none⟩ = some (.int .i64 d.left) := by rw [HB.out.1.cell]; rfl
  have hc4 : w2.cell? ⟨g2, 4, none⟩ = some (.slice S0 d.surv.length cs0) := by rw [HB.out.1.cell]; rfl
  have HR := Lib.hid (And.intro hR2 hF)
  clear hb1 hb2 hw1 hw2 hz1 hz2 hbb e3 e6 h36 hR2 hF
  cases hoff : d.off
  · rw [hoff] at hc2
    go_wp2_with (first | (with_reducible refine st_load 45 ?_; refine stopped ?_) | fail)
    refine go_on ?_
    refine wpList_load_at rfl 45 (.tmp 2) rfl g2 0 rfl (refCells A0 W S0 ca0 cw cs0 d).toArray _ (Blk.cells HB.out.1) Try.underlying45 rfl rdisk_size ?_
    simp only [Act.put, List.setIfInBounds_toArray, List.set_cons_zero, List.set_cons_succ]
    have hL := laid_any w2 _ d HR.out.1 hw false S surv c ((HS.out.below (HB.out.2.2.2.2.2 ▸ HB.out.2.2.1)).more (by have := HB.out.2.2.2; omega))
    rw [ens] at hL
    go_wp2_with (first
      | (go_at_call 44; refine hL.mono ?_; rintro e w5 ⟨cs5, rfl, hR5, hfar5, hb5⟩; obtain ⟨ok5, A5, W5, S5, ca5, cw5, cs5, rfl, hA5, hW5, hS5⟩ := hR5)
      | (with_reducible refine st_store 45 ?_; refine stopped ?_)
      | fail)
    refine go_on ?_
    have hlt2 : g2 < w2.heap.size := by have := HB.out.2.2.2; omega
    have hlt4 : g4 < w2.heap.size := by have := HB.out.2.2.2; omega
    have hblk2 := HB.out.1.below hb5 hlt2
    have hblk4 := HB.out.2.1.below hb5 hlt4
    have hR5 : RefIs w5 w5.heap.size (refCells A5 W5 S5 ca5 cw5 cs5 (d.laid false surv)) (d.laid false surv) := ⟨ok5, A5, W5, S5, ca5, cw5, cs5, rfl, hA5, hW5, hS5⟩
    have hcr : d.crash surv = { d.laid false surv with off := true, left := -1 } := by unfold Dk.crash; rw [if_neg (by rw [hoff]; decide)]
    have hcok : (d.crash surv).ok := Dk.crash_ok HO.out surv
    obtain ⟨D, eD⟩ : ∃ D, d.crash surv = D := ⟨_, rfl⟩
    obtain ⟨D5, eD5⟩ : ∃ D, d.laid false surv = D := ⟨_, rfl⟩
    rw [eD] at hcr hcok
    rw [eD5] at hcr hR5 hfar5
    rw [eD5]
    have HD := Lib.hid (And.intro hcok (And.intro hcr eD))
    have H5 := Lib.hid (And.intro hR5 (And.intro hfar5 hb5))
    clear hA5 hW5 hS5 ok5 hL hcr hcok hR5 hfar5 eD eD5
    refine wpList_store_whole rfl 45 (.tmp 2) (.tmp 10) rfl g2 (refCells A5 W5 S5 ca5 cw5 cs5 D5) rfl rfl 45 (refCells A0 W S0 ca0 cw cs0 d) hblk2 rdisk_size rfl (refCells_one _ _ _ _ _ _ _) ?_
    intro w6 hbw6 hgw6
    simp only [Act.put, List.setIfInBounds_toArray, List.set_cons_zero, List.set_cons_succ]
    have hd2 : w6.cell? ⟨g2, 2, none⟩ = some (.bool D5.off) := by rw [hbw6.cell]; rfl
    have hd3 : w6.cell? ⟨g2, 3, none⟩ = some (.int .i64 D5.left) := by rw [hbw6.cell]; rfl
    have hf2 := hbw6.frozen 2
    have hf3 := hbw6.frozen 3
    have hb4' := hblk4.grown hgw6 (some_neq (by have := HB.out.2.2.2.1; omega))
    have H6 := Lib.hid (And.intro hbw6 (And.intro hgw6 hb4'))
    clear hbw6 hgw6 hb4' hblk2 hblk4 hb5 hc0 hc1 hc2 hc3 hc4
    go_wp2_with (first | (with_reducible refine st_load 45 ?_; refine stopped ?_) | fail)
    refine go_on ?_
    have hx := (H6.out.1.set_ 2 (.bool true)).set_ 3 (.int .i64 (-1))
    have hx' : Blk ((w6.setCell ⟨g2, 2, none⟩ (.bool true)).setCell ⟨g2, 3, none⟩ (.int .i64 (-1))) g2 45 (refCells A5 W5 S5 ca5 cw5 cs5 D).toArray := by
      have e : (refCells A5 W5 S5 ca5 cw5 cs5 D).toArray = ((refCells A5 W5 S5 ca5 cw5 cs5 D5).toArray.setIfInBounds 2 (.bool true)).setIfInBounds 3 (.int .i64 (-1)) := by
        rw [HD.out.2.1]
        simp [refCells]
      rw [e]
      exact hx
    have hgx : w6.grownBy ((w6.setCell ⟨g2, 2, none⟩ (.bool true)).setCell ⟨g2, 3, none⟩ (.int .i64 (-1))) (some g2) :=
      only_trans (only_setCell (g := g2) (p := ⟨g2, 2, none⟩) (only_refl w6 _) (.inl rfl) _) (only_setCell (g := g2) (p := ⟨g2, 3, none⟩) (only_refl _ _) (.inl rfl) _)
    have hb4x := H6.out.2.2.grown hgx (some_neq (by have := HB.out.2.2.2.1; omega))
    refine wpList_load_at rfl 45 (.tmp 2) rfl g2 0 rfl (refCells A5 W5 S5 ca5 cw5 cs5 D).toArray _ (Blk.cells hx') Try.underlying45 rfl rdisk_size ?_
    refine wpList_store_whole rfl 45 (.tmp 4) (.tmp 13) rfl g4 (refCells A5 W5 S5 ca5 cw5 cs5 D) rfl rfl 45 (refCells none none none 0 0 0 ⟨[], [], false, 0, []⟩) hb4x rdisk_size rfl (refCells_one _ _ _ _ _ _ _) ?_
    intro w10 hbw10 hgw10
    simp only [Act.put, List.setIfInBounds_toArray, List.set_cons_zero, List.set_cons_succ]
    repeat (first | go_values | go_skip | go_guarded | go_step)
    refine bodyPost_rowo rfl g4 rfl 45 _ _ hbw10 Try.underlying45 rfl rdisk_size rfl ?_
    show RefPost w _ d (d.crash surv) (fun v => v) _ _
    rw [HD.out.2.2]
    have hsz5 := H5.out.2.2.size
    have hfa2 := H5.out.2.1 g2 hlt2 (HR.out.2 _ (by have := HB.out.2.2.2; omega))
    have hfa4 := H5.out.2.1 g4 hlt4 (HR.out.2 _ (by have := HB.out.2.2.2; omega))
    have e1 : D.has = D5.has ∧ D.waits = D5.waits ∧ D.surv = D5.surv := by rw [HD.out.2.1]; exact ⟨rfl, rfl, rfl⟩
    have r6 := (H5.out.1.grown (Nat.le_refl _) (only_trans H6.out.2.1 hgx) hfa2).more (only_trans H6.out.2.1 hgx).size
    have r10 := (r6.grown (Nat.le_refl _) hgw10 hfa4).more hgw10.size
    have hba : Below w.heap.size w w10 := by
      rw [HB.out.2.2.2.2.2]
      have b5 := HB.out.2.2.1.trans (H5.out.2.2.mono (Nat.le_of_lt hlt2))
      have b6 := b5.trans (only_below (only_trans H6.out.2.1 hgx) (by omega) (fun g' e => by cases e; exact Nat.le_refl _))
      exact b6.trans (only_below hgw10 (by have := (only_trans H6.out.2.1 hgx).size; omega) (fun g' e => by cases e; have := HB.out.2.2.2.1; omega))
    refine ⟨_, rfl, r10.flags HD.out.1 e1.1 e1.2.1 e1.2.2, fun g hg h => ?_, hba⟩
    exact far_flags (H5.out.2.1 g (by have := HB.out.2.2.2; omega) h) (by rw [e1.1]) (by rw [e1.2.1]) (by rw [e1.2.2])
  · rw [hoff] at hc2
    go_wp2_with (first | (with_reducible refine st_load 45 ?_; refine stopped ?_) | fail)
    refine go_on ?_
    refine wpList_load_at rfl 45 (.tmp 2) rfl g2 0 rfl (refCells A0 W S0 ca0 cw cs0 d).toArray _ (Blk.cells HB.out.1) Try.underlying45 rfl rdisk_size ?_
    refine wpList_store_whole rfl 45 (.tmp 4) (.tmp 7) rfl g4 (refCells A0 W S0 ca0 cw cs0 d) rfl rfl 45 (refCells none none none 0 0 0 ⟨[], [], false, 0, []⟩) HB.out.2.1 rdisk_size rfl (refCells_one _ _ _ _ _ _ _) ?_
    intro w10 hbw10 hgw10
    simp only [Act.put, List.setIfInBounds_toArray, List.set_cons_zero, List.set_cons_succ]
    repeat (first | go_values | go_skip | go_guarded | go_step)
    refine bodyPost_rowo rfl g4 rfl 45 _ _ hbw10 Try.underlying45 rfl rdisk_size rfl ?_
    have hcr : d.crash surv = d := by unfold Dk.crash; rw [if_pos hoff]
    show RefPost w _ d (d.crash surv) (fun v => v) _ _
    rw [hcr]
    have hba : Below w.heap.size w w10 := by
      rw [HB.out.2.2.2.2.2]
      exact HB.out.2.2.1.trans (only_below hgw10 (by have := HB.out.2.2.2; omega) (fun g' e => by cases e; have := HB.out.2.2.2.1; omega))
    exact ⟨_, rfl, (HR.out.1.grown (Nat.le_refl _) hgw10 (HR.out.2 _ (by have := HB.out.2.2.2; omega))).more hgw10.size, fun g _ h => h, hba⟩
end Go.Proofs.Ytdhaikcmgegfoaa
