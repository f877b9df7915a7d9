/-
  The disk's reference: Arm and Read, by their contracts. Conditions: the theorems' own premises.
-/
import Derived.Test.YtnnjneijdfibnaaDiskRef5
namespace Go.Proofs.Ytnnjneijdfibnaa
open Go.RowKit

def Dk.arm (d : Dk) (n : Int) (surv : List Bool) : Dk := if d.off = true then d else { d with left := if n < 0 then -1 else n, surv := surv }
theorem Dk.arm_ok {d : Dk} (h : d.ok) (n : Int) (surv : List Bool) (hn : n ≤ 9223372036854775807) : (d.arm n surv).ok := by
  unfold Dk.arm
  split
  · exact h
  · exact ⟨h.small, h.len, h.at_, by simp only; split <;> omega⟩
/-- Arm keeps what it is given: its result names that, too -/
def ArmPost (w : World) (cs0 : List Value) (d0 : Dk) (S : Option Addr) (surv : List Bool) (d : Dk) (e : Ending) (w' : World) : Prop :=
  ∃ cs, e = .returned (.agg cs.toArray) ∧ RefIs w' w'.heap.size cs d ∧ (∀ g, g < w.heap.size → RefFar cs0 d0 g → Far S surv.length g → RefFar cs d g) ∧ Below w.heap.size w w'

set_option maxRecDepth 100000 in
set_option maxHeartbeats 1000000 in
set_option linter.unusedSimpArgs false in
theorem refArm_any (w : World) (cs : List Value) (d : Dk) (h : RefIs w w.heap.size cs d) (n : Int) (hn : n ≤ 9223372036854775807) (S : Option Addr) (surv : List Bool) (c : Nat) (hS : Vs w w.heap.size S (bvs surv)) :
    Calls Try.prog 36 #[.agg cs.toArray, .int .i64 n, .slice S surv.length c] w (ArmPost w cs d S surv (d.arm n surv)) := by
  have HS := Lib.hid (And.intro hS (And.intro hn (rfl : surv.length = surv.length)))
  clear hS hn
  obtain ⟨ns, ens⟩ : ∃ n, surv.length = n := ⟨_, rfl⟩
  rw [ens]
  obtain ⟨hok, A0, W, S0, ca0, cw, cs0, ecs, hA0, hW, hS0⟩ := h
  subst ecs
  obtain ⟨X, hX⟩ : ∃ X, (refCells A0 W S0 ca0 cw cs0 d).toArray = X := ⟨_, rfl⟩
  rw [hX]
  have HX := Lib.hid hX
  have HP := Lib.hid (And.intro hA0 (And.intro hW hS0))
  have HO := Lib.hid hok
  clear hX hA0 hW hS0 hok
  go_enter Try.func36, Try.ntmps36
  go_wp2_with (first
    | (refine wpList_box rfl 57 (.tmp 0) rfl X rfl ?_; intro w1 hb1 hw1 hz1; refine stopped ?_)
    | fail)
  refine go_on ?_
  refine wpList_alloc rfl 57 rfl _ rdisk_zero ?_
  intro w2 hb2 hw2 hz2
  simp only [Act.put, List.setIfInBounds_toArray, List.set_cons_zero, List.set_cons_succ]
  rw [← HX.out] at hb1
  obtain ⟨g3, e3⟩ : ∃ g, w.heap.size = g := ⟨_, rfl⟩
  obtain ⟨g6, e6⟩ : ∃ g, w1.heap.size = g := ⟨_, rfl⟩
  rw [e3] at hb1 hz1 hw1
  rw [e6] at hb2 hz2 hw2
  rw [e3, e6]
  have h36 : g6 = g3 + 1 := by omega
  have hbb : Below g3 w w2 := hw1.trans (hw2.mono (by omega))
  have HB := Lib.hid (And.intro (hb1.below hw2 (by omega)) (And.intro hb2 (And.intro hbb (And.intro h36 (And.intro hz2 e3)))))
  have hR2 : RefIs w2 w2.heap.size (refCells A0 W S0 ca0 cw cs0 d) d := (RefIs.below ⟨HO.out, A0, W, S0, ca0, cw, cs0, rfl, HP.out.1, HP.out.2.1, HP.out.2.2⟩ (e3 ▸ hbb)).more (by omega)
  have hF : ∀ g, w.heap.size ≤ g → RefFar (refCells A0 W S0 ca0 cw cs0 d) d g := fun g hg => ref_far ⟨far_below HP.out.1 hg (by rw [svs_length]; exact id), far_below HP.out.2.1 hg (by rw [wvs_length]; omega), far_below HP.out.2.2 hg (by rw [bvs_length]; exact id)⟩
  have hc0 : w2.cell? ⟨g3, 0, none⟩ = some (.slice A0 d.has.length ca0) := by rw [HB.out.1.cell]; rfl
  have hc1 : w2.cell? ⟨g3, 1, none⟩ = some (.slice W d.waits.length cw) := by rw [HB.out.1.cell]; rfl
  have hc2 : w2.cell? ⟨g3, 2, none⟩ = some (.bool d.off) := by rw [HB.out.1.cell]; rfl
  have hc3 : w2.cell? ⟨g3, 3, none⟩ = some (.int .i64 d.left) := by rw [HB.out.1.cell]; rfl
  have hc4 : w2.cell? ⟨g3, 4, none⟩ = some (.slice S0 d.surv.length cs0) := by rw [HB.out.1.cell]; rfl
  have hWk : Wk w w2 g3 g6 (refCells A0 W S0 ca0 cw cs0 d) d (refCells A0 W S0 ca0 cw cs0 d) d := ⟨HB.out.1, hR2, fun g _ h => h, HB.out.2.1, HB.out.2.2.1, by omega, HB.out.2.2.2.1, e3, hF⟩
  have HK := Lib.hid hWk
  clear hb1 hb2 hw1 hw2 hz1 hz2 hbb e3 e6 h36 hR2 hF hWk
  cases hoff : d.off
  · rw [hoff] at hc2
    have har : d.arm n surv = { d with left := if n < 0 then -1 else n, surv := surv } := by unfold Dk.arm; rw [if_neg (by rw [hoff]; decide)]
    obtain ⟨D, eD⟩ : ∃ D, ({ d with left := if n < 0 then -1 else n, surv := surv } : Dk) = D := ⟨_, rfl⟩
    have hD : D.has = d.has ∧ D.waits = d.waits ∧ D.surv = surv ∧ D.off = d.off ∧ D.left = (if n < 0 then -1 else n) := by rw [← eD]; exact ⟨rfl, rfl, rfl, rfl, rfl⟩
    have hok : D.ok := by rw [← eD, ← har]; exact Dk.arm_ok HO.out n surv HS.out.2.1
    have hf3 := HK.out.blk.frozen 3
    have hf4 := HK.out.blk.frozen 4
    by_cases hn0 : n < 0
    · have hl : D.left = -1 := by rw [hD.2.2.2.2, if_pos hn0]
      go_wp2_with (first | (with_reducible refine st_load 57 ?_; refine stopped ?_) | fail)
      refine go_on ?_
      have hset := (((HK.out.blk.set_ 3 (.int .i64 n)).set_ 4 (.slice S ns c)).set_ 3 (.int .i64 (-1)))
      have hblk : Blk (((w2.setCell ⟨g3, 3, none⟩ (.int .i64 n)).setCell ⟨g3, 4, none⟩ (.slice S ns c)).setCell ⟨g3, 3, none⟩ (.int .i64 (-1))) g3 57 (refCells A0 W S ca0 cw c D).toArray := by
        have e : (refCells A0 W S ca0 cw c D).toArray = (((refCells A0 W S0 ca0 cw cs0 d).toArray.setIfInBounds 3 (.int .i64 n)).setIfInBounds 4 (.slice S ns c)).setIfInBounds 3 (.int .i64 (-1)) := by simp [refCells, hD.1, hD.2.1, hD.2.2.1, hD.2.2.2.1, hl, ens]
        rw [e]
        exact hset
      have hgx := only_trans (only_trans (one_set w2 g3 3 (.int .i64 n)) (one_set _ g3 4 (.slice S ns c))) (one_set _ g3 3 (.int .i64 (-1)))
      have hbw := HB.out.2.2.2.2.2 ▸ HB.out.2.2.1
      have hge : w.heap.size ≤ w2.heap.size := hbw.size
      have hRp : RefIs w2 w2.heap.size (refCells A0 W S ca0 cw c D) D := ⟨hok, A0, W, S, ca0, cw, c, rfl, (hD.1 ▸ HP.out.1.below hbw).more hge, (hD.2.1 ▸ HP.out.2.1.below hbw).more hge, (hD.2.2.1 ▸ HS.out.1.below hbw).more hge⟩
      have hsz := hgx.size
      have hz := HK.out.zero.grown hgx (some_neq (by have := HK.out.next; omega))
      have hfar : ∀ g, g < g6 + 1 → RefFar (refCells A0 W S0 ca0 cw cs0 d) d g → Far S surv.length g → RefFar (refCells A0 W S ca0 cw c D) D g := fun g _ hf hs => by
        have h0 := hf _ _ _ _ _ _ rfl
        exact ref_far ⟨by rw [hD.1]; exact h0.1, by rw [hD.2.1]; exact h0.2.1, by rw [hD.2.2.1]; exact hs⟩
      have hsf : ∀ g, w.heap.size ≤ g → Far S surv.length g := fun g hg => far_below HS.out.1 hg (by rw [bvs_length]; exact id)
      have HK2 := Lib.hid (And.intro hblk (And.intro hz (And.intro hgx (And.intro hRp (And.intro hfar (And.intro hsf hbw))))))
      clear hset hblk hgx hRp hz hfar hsf
      refine wpList_load_at rfl 57 (.tmp 3) rfl g3 0 rfl (refCells A0 W S ca0 cw c D).toArray _ (Blk.cells HK2.out.1) Try.underlying57 rfl rdisk_size ?_
      refine wpList_store_whole rfl 57 (.tmp 6) (.tmp 17) rfl g6 (refCells A0 W S ca0 cw c D) rfl rfl 57 (refCells none none none 0 0 0 ⟨[], [], false, 0, []⟩) HK2.out.2.1 rdisk_size rfl (refCells_one _ _ _ _ _ _ _) ?_
      intro w10 hbw10 hgw10
      simp only [Act.put, List.setIfInBounds_toArray, List.set_cons_zero, List.set_cons_succ]
      repeat (first | go_values | go_skip | go_guarded | go_step)
      refine bodyPost_rowo rfl g6 rfl 57 _ _ hbw10 Try.underlying57 rfl rdisk_size rfl ?_
      show ArmPost w _ d S surv (d.arm n surv) _ _
      rw [har, eD]
      have n1 := HK.out.next
      have n2 := HK.out.base
      have r1 := (HK2.out.2.2.2.1.grown (Nat.le_refl _) HK2.out.2.2.1 (HK2.out.2.2.2.2.1 g3 (by omega) (HK.out.far0 g3 (by omega)) (HK2.out.2.2.2.2.2.1 g3 (by omega)))).more hsz
      have r2 := (r1.grown (Nat.le_refl _) hgw10 (HK2.out.2.2.2.2.1 g6 (by omega) (HK.out.far0 g6 (by omega)) (HK2.out.2.2.2.2.2.1 g6 (by omega)))).more hgw10.size
      refine ⟨_, rfl, r2, fun g hg hf hs => HK2.out.2.2.2.2.1 g (by omega) hf hs, ?_⟩
      have b1 := HK2.out.2.2.2.2.2.2.trans (only_below HK2.out.2.2.1 hge (fun g' e => by cases e; omega))
      exact b1.trans (only_below hgw10 (Nat.le_trans hge hsz) (fun g' e => by cases e; omega))
    · have hl : D.left = n := by rw [hD.2.2.2.2, if_neg hn0]
      go_wp2_with (first | (with_reducible refine st_load 57 ?_; refine stopped ?_) | fail)
      refine go_on ?_
      have hset := ((HK.out.blk.set_ 3 (.int .i64 n)).set_ 4 (.slice S ns c))
      have hblk : Blk ((w2.setCell ⟨g3, 3, none⟩ (.int .i64 n)).setCell ⟨g3, 4, none⟩ (.slice S ns c)) g3 57 (refCells A0 W S ca0 cw c D).toArray := by
        have e : (refCells A0 W S ca0 cw c D).toArray = ((refCells A0 W S0 ca0 cw cs0 d).toArray.setIfInBounds 3 (.int .i64 n)).setIfInBounds 4 (.slice S ns c) := by simp [refCells, hD.1, hD.2.1, hD.2.2.1, hD.2.2.2.1, hl, ens]
        rw [e]
        exact hset
      have hgx := only_trans (one_set w2 g3 3 (.int .i64 n)) (one_set _ g3 4 (.slice S ns c))
      have hbw := HB.out.2.2.2.2.2 ▸ HB.out.2.2.1
      have hge : w.heap.size ≤ w2.heap.size := hbw.size
      have hRp : RefIs w2 w2.heap.size (refCells A0 W S ca0 cw c D) D := ⟨hok, A0, W, S, ca0, cw, c, rfl, (hD.1 ▸ HP.out.1.below hbw).more hge, (hD.2.1 ▸ HP.out.2.1.below hbw).more hge, (hD.2.2.1 ▸ HS.out.1.below hbw).more hge⟩
      have hsz := hgx.size
      have hz := HK.out.zero.grown hgx (some_neq (by have := HK.out.next; omega))
      have hfar : ∀ g, g < g6 + 1 → RefFar (refCells A0 W S0 ca0 cw cs0 d) d g → Far S surv.length g → RefFar (refCells A0 W S ca0 cw c D) D g := fun g _ hf hs => by
        have h0 := hf _ _ _ _ _ _ rfl
        exact ref_far ⟨by rw [hD.1]; exact h0.1, by rw [hD.2.1]; exact h0.2.1, by rw [hD.2.2.1]; exact hs⟩
      have hsf : ∀ g, w.heap.size ≤ g → Far S surv.length g := fun g hg => far_below HS.out.1 hg (by rw [bvs_length]; exact id)
      have HK2 := Lib.hid (And.intro hblk (And.intro hz (And.intro hgx (And.intro hRp (And.intro hfar (And.intro hsf hbw))))))
      clear hset hblk hgx hRp hz hfar hsf
      refine wpList_load_at rfl 57 (.tmp 3) rfl g3 0 rfl (refCells A0 W S ca0 cw c D).toArray _ (Blk.cells HK2.out.1) Try.underlying57 rfl rdisk_size ?_
      refine wpList_store_whole rfl 57 (.tmp 6) (.tmp 17) rfl g6 (refCells A0 W S ca0 cw c D) rfl rfl 57 (refCells none none none 0 0 0 ⟨[], [], false, 0, []⟩) HK2.out.2.1 rdisk_size rfl (refCells_one _ _ _ _ _ _ _) ?_
      intro w10 hbw10 hgw10
      simp only [Act.put, List.setIfInBounds_toArray, List.set_cons_zero, List.set_cons_succ]
      repeat (first | go_values | go_skip | go_guarded | go_step)
      refine bodyPost_rowo rfl g6 rfl 57 _ _ hbw10 Try.underlying57 rfl rdisk_size rfl ?_
      show ArmPost w _ d S surv (d.arm n surv) _ _
      rw [har, eD]
      have n1 := HK.out.next
      have n2 := HK.out.base
      have r1 := (HK2.out.2.2.2.1.grown (Nat.le_refl _) HK2.out.2.2.1 (HK2.out.2.2.2.2.1 g3 (by omega) (HK.out.far0 g3 (by omega)) (HK2.out.2.2.2.2.2.1 g3 (by omega)))).more hsz
      have r2 := (r1.grown (Nat.le_refl _) hgw10 (HK2.out.2.2.2.2.1 g6 (by omega) (HK.out.far0 g6 (by omega)) (HK2.out.2.2.2.2.2.1 g6 (by omega)))).more hgw10.size
      refine ⟨_, rfl, r2, fun g hg hf hs => HK2.out.2.2.2.2.1 g (by omega) hf hs, ?_⟩
      have b1 := HK2.out.2.2.2.2.2.2.trans (only_below HK2.out.2.2.1 hge (fun g' e => by cases e; omega))
      exact b1.trans (only_below hgw10 (Nat.le_trans hge hsz) (fun g' e => by cases e; omega))
  · rw [hoff] at hc2
    have har : d.arm n surv = d := by unfold Dk.arm; rw [if_pos hoff]
    go_wp2_with (first | (with_reducible refine st_load 57 ?_; refine stopped ?_) | fail)
    refine go_on ?_
    refine wpList_load_at rfl 57 (.tmp 3) rfl g3 0 rfl (refCells A0 W S0 ca0 cw cs0 d).toArray _ (Blk.cells HK.out.blk) Try.underlying57 rfl rdisk_size ?_
    refine wpList_store_whole rfl 57 (.tmp 6) (.tmp 9) rfl g6 (refCells A0 W S0 ca0 cw cs0 d) rfl rfl 57 (refCells none none none 0 0 0 ⟨[], [], false, 0, []⟩) HK.out.zero rdisk_size rfl (refCells_one _ _ _ _ _ _ _) ?_
    intro w10 hbw10 hgw10
    simp only [Act.put, List.setIfInBounds_toArray, List.set_cons_zero, List.set_cons_succ]
    repeat (first | go_values | go_skip | go_guarded | go_step)
    refine bodyPost_rowo rfl g6 rfl 57 _ _ hbw10 Try.underlying57 rfl rdisk_size rfl ?_
    show ArmPost w _ d S surv (d.arm n surv) _ _
    rw [har]
    obtain ⟨cs9, e9, r9, f9, b9⟩ := HK.out.done hgw10 (fun v => v)
    exact ⟨cs9, e9, r9, fun g hg hf _ => f9 g hg hf, b9⟩
end Go.Proofs.Ytnnjneijdfibnaa
