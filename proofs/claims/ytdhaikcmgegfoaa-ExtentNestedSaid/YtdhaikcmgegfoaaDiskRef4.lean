/-
  The disk's reference: step, Flush, Power, Arm and Write, by their contracts. Conditions: the theorems' own premises.
-/
import Derived.Test.YtdhaikcmgegfoaaDiskRef3
namespace Go.Proofs.Ytdhaikcmgegfoaa
open Go.RowKit

/-- a call under way: its copy of the disk in block gb, its result's block ga -/
structure Wk (w wz : World) (gb ga : Nat) (cs0 : List Value) (d0 : Dk) (cs : List Value) (d : Dk) : Prop where
  blk : Blk wz gb 45 cs.toArray
  ref : RefIs wz wz.heap.size cs d
  far : ∀ g, g < ga + 1 → RefFar cs0 d0 g → RefFar cs d g
  zero : Blk wz ga 45 (refCells none none none 0 0 0 ⟨[], [], false, 0, []⟩).toArray
  bel : Below gb w wz
  siz : ga < wz.heap.size
  next : ga = gb + 1
  base : w.heap.size = gb
  far0 : ∀ g, w.heap.size ≤ g → RefFar cs0 d0 g
section
variable {w wz w5 w6 : World} {gb ga : Nat} {cs0 cs cs5 : List Value} {d0 d d5 : Dk}
/-- the copy is laid into the result -/
theorem Wk.done (h : Wk w wz gb ga cs0 d0 cs d) (hg : wz.grownBy w6 (some ga)) (f : Value → Value) : RefPost w cs0 d0 d f (.returned (f (.agg cs.toArray))) w6 := by
  have h1 := h.siz
  have h2 := h.next
  have h3 := h.base
  refine ⟨cs, rfl, (h.ref.grown (Nat.le_refl _) hg (h.far ga (by omega) (h.far0 ga (by omega)))).more hg.size, fun g hl hf => h.far g (by omega) hf, ?_⟩
  rw [h3]
  exact h.bel.trans (only_below hg (by omega) (fun g' e => by cases e; omega))
/-- what a call answered is laid into the copy -/
theorem Wk.call (h : Wk w wz gb ga cs0 d0 cs d) (hR : RefIs w5 w5.heap.size cs5 d5) (hf : ∀ g, g < wz.heap.size → RefFar cs d g → RefFar cs5 d5 g) (hb : Below wz.heap.size wz w5) (hg : w5.grownBy w6 (some gb)) (hblk : Blk w6 gb 45 cs5.toArray) : Wk w w6 gb ga cs0 d0 cs5 d5 := by
  have h1 := h.siz
  have h2 := h.next
  have h3 := h.base
  have h5 := hb.size
  have h6 := hg.size
  refine ⟨hblk, (hR.grown (Nat.le_refl _) hg (hf gb (by omega) (h.far gb (by omega) (h.far0 gb (by omega))))).more hg.size, fun g hl hf0 => hf g (by omega) (h.far g hl hf0), ?_, ?_, by omega, h2, h3, h.far0⟩
  · exact (h.zero.below hb h1).grown hg (some_neq (by omega))
  · exact (h.bel.trans (hb.mono (by omega))).trans (only_below hg (by omega) (fun g' e => by cases e; omega))
/-- what a call answered is laid into the result -/
theorem Wk.result (h : Wk w wz gb ga cs0 d0 cs d) (hR : RefIs w5 w5.heap.size cs5 d5) (hf : ∀ g, g < wz.heap.size → RefFar cs d g → RefFar cs5 d5 g) (hb : Below wz.heap.size wz w5) (hg : w5.grownBy w6 (some ga)) (f : Value → Value) : RefPost w cs0 d0 d5 f (.returned (f (.agg cs5.toArray))) w6 := by
  have h1 := h.siz
  have h2 := h.next
  have h3 := h.base
  have h5 := hb.size
  refine ⟨cs5, rfl, (hR.grown (Nat.le_refl _) hg (hf ga (by omega) (h.far ga (by omega) (h.far0 ga (by omega))))).more hg.size, fun g hl hf0 => hf g (by omega) (h.far g (by omega) hf0), ?_⟩
  rw [h3]
  exact (h.bel.trans (hb.mono (by omega))).trans (only_below hg (by omega) (fun g' e => by cases e; omega))
/-- fields of the copy change -/
theorem Wk.put (h : Wk w wz gb ga cs0 d0 cs d) (hg : wz.grownBy w6 (some gb)) (hblk : Blk w6 gb 45 cs5.toArray) (hR : RefIs wz wz.heap.size cs5 d5) (hf : ∀ g, g < ga + 1 → RefFar cs0 d0 g → RefFar cs5 d5 g) : Wk w w6 gb ga cs0 d0 cs5 d5 := by
  have h1 := h.siz
  have h2 := h.next
  have h3 := h.base
  have h6 := hg.size
  refine ⟨hblk, (hR.grown (Nat.le_refl _) hg (hf gb (by omega) (h.far0 gb (by omega)))).more hg.size, hf, h.zero.grown hg (some_neq (by omega)), ?_, by omega, h2, h3, h.far0⟩
  exact h.bel.trans (only_below hg (by omega) (fun g' e => by cases e; omega))
end
theorem one_set (w : World) (g i : Nat) (v : Value) : w.grownBy (w.setCell ⟨g, i, none⟩ v) (some g) := only_setCell (only_refl w _) (.inl rfl) _
theorem zlen : (refCells none none none 0 0 0 ⟨[], [], false, 0, []⟩).length = 5 := rfl

set_option maxRecDepth 100000 in
set_option maxHeartbeats 1000000 in
set_option linter.unusedSimpArgs false in
theorem refStep_any (w : World) (cs : List Value) (d : Dk) (h : RefIs w w.heap.size cs d) (hw : d.waits.length ≤ 4294967296) :
    Calls Try.prog 43 #[.agg cs.toArray] w (RefPost w cs d d.step.1 (fun v => .tuple #[v, .bool d.step.2])) := by
  obtain ⟨hok, A0, W, S0, ca0, cw, cs0, ecs, hA0, hW, hS0⟩ := h
  subst ecs
  obtain ⟨X, hX⟩ : ∃ X, (refCells A0 W S0 ca0 cw cs0 d).toArray = X := ⟨_, rfl⟩
  rw [hX]
  have HX := Lib.hid hX
  have HP := Lib.hid (And.intro hA0 (And.intro hW hS0))
  have HO := Lib.hid hok
  clear hX hA0 hW hS0 hok
  go_enter Try.func43, Try.ntmps43
  go_wp2_with (first
    | (refine wpList_box rfl 45 (.tmp 0) rfl X rfl ?_; intro w1 hb1 hw1 hz1; refine stopped ?_)
    | fail)
  refine go_on ?_
  refine wpList_alloc rfl 45 rfl _ rdisk_zero ?_
  intro w2 hb2 hw2 hz2
  simp only [Act.put, List.setIfInBounds_toArray, List.set_cons_zero, List.set_cons_succ]
  rw [← HX.out] at hb1
  obtain ⟨g1, e3⟩ : ∃ g, w.heap.size = g := ⟨_, rfl⟩
  obtain ⟨g2, e6⟩ : ∃ g, w1.heap.size = g := ⟨_, rfl⟩
  rw [e3] at hb1 hz1 hw1
  rw [e6] at hb2 hz2 hw2
  rw [e3, e6]
  have h36 : g2 = g1 + 1 := by omega
  have hbb : Below g1 w w2 := hw1.trans (hw2.mono (by omega))
  have HB := Lib.hid (And.intro (hb1.below hw2 (by omega)) (And.intro hb2 (And.intro hbb (And.intro h36 (And.intro hz2 e3)))))
  have hR2 : RefIs w2 w2.heap.size (refCells A0 W S0 ca0 cw cs0 d) d := (RefIs.below ⟨HO.out, A0, W, S0, ca0, cw, cs0, rfl, HP.out.1, HP.out.2.1, HP.out.2.2⟩ (e3 ▸ hbb)).more (by omega)
  have hF : ∀ g, w.heap.size ≤ g → RefFar (refCells A0 W S0 ca0 cw cs0 d) d g := fun g hg => ref_far ⟨far_below HP.out.1 hg (by rw [svs_length]; exact id), far_below HP.out.2.1 hg (by rw [wvs_length]; omega), far_below HP.out.2.2 hg (by rw [bvs_length]; exact id)⟩
  have hc0 : w2.cell? ⟨g1, 0, none⟩ = some (.slice A0 d.has.length ca0) := by rw [HB.out.1.cell]; rfl
  have hc1 : w2.cell? ⟨g1, 1, none⟩ = some (.slice W d.waits.length cw) := by rw [HB.out.1.cell]; rfl
  have hc2 : w2.cell? ⟨g1, 2, none⟩ = some (.bool d.off) := by rw [HB.out.1.cell]; rfl
  have hc3 : w2.cell? ⟨g1, 3, none⟩ = some (.int .i64 d.left) := by rw [HB.out.1.cell]; rfl
  have hc4 : w2.cell? ⟨g1, 4, none⟩ = some (.slice S0 d.surv.length cs0) := by rw [HB.out.1.cell]; rfl
  have hWk : Wk w w2 g1 g2 (refCells A0 W S0 ca0 cw cs0 d) d (refCells A0 W S0 ca0 cw cs0 d) d := ⟨HB.out.1, hR2, fun g _ h => h, HB.out.2.1, HB.out.2.2.1, by omega, HB.out.2.2.2.1, e3, hF⟩
  have HK := Lib.hid hWk
  clear hb1 hb2 hw1 hw2 hz1 hz2 hbb e3 e6 h36 hR2 hF hWk
  cases hoff : d.off
  · rw [hoff] at hc2
    by_cases hl0 : d.left = 0
    · rw [hl0] at hc3
      go_wp2_with (first | (with_reducible refine st_load 45 ?_; refine stopped ?_) | fail)
      refine go_on ?_
      refine wpList_load_at rfl 45 (.tmp 1) rfl g1 0 rfl (refCells A0 W S0 ca0 cw cs0 d).toArray _ (Blk.cells HK.out.blk) Try.underlying45 rfl rdisk_size ?_
      simp only [Act.put, List.setIfInBounds_toArray, List.set_cons_zero, List.set_cons_succ]
      have hL := refCrash_any w2 _ d HK.out.ref hw S0 d.surv cs0 ((HP.out.2.2.below (HB.out.2.2.2.2.2 ▸ HB.out.2.2.1)).more (by have := HB.out.2.2.2; omega))
      have hst : d.step = (d.crash d.surv, false) := by unfold Dk.step; rw [if_neg (by rw [hoff]; decide), if_pos hl0]
      obtain ⟨D, eD⟩ : ∃ D, d.crash d.surv = D := ⟨_, rfl⟩
      rw [eD] at hst hL
      go_wp2_with (first
        | (go_at_call 29; refine hL.mono ?_; rintro e w5 ⟨cs5, rfl, hR5, hfar5, hb5⟩; obtain ⟨ok5, A5, W5, S5, ca5, cw5, cs5, rfl, hA5, hW5, hS5⟩ := hR5)
        | (with_reducible refine st_store 45 ?_; refine stopped ?_)
        | fail)
      refine go_on ?_
      have hR5 : RefIs w5 w5.heap.size (refCells A5 W5 S5 ca5 cw5 cs5 D) D := ⟨ok5, A5, W5, S5, ca5, cw5, cs5, rfl, hA5, hW5, hS5⟩
      have hz5 := HK.out.zero.below hb5 HK.out.siz
      refine wpList_store_whole rfl 45 (.tmp 2) (.tmp 13) rfl g2 (refCells A5 W5 S5 ca5 cw5 cs5 D) rfl rfl 45 (refCells none none none 0 0 0 ⟨[], [], false, 0, []⟩) hz5 rdisk_size rfl (refCells_one _ _ _ _ _ _ _) ?_
      intro w10 hbw10 hgw10
      simp only [Act.put, List.setIfInBounds_toArray, List.set_cons_zero, List.set_cons_succ]
      repeat (first | go_values | go_skip | go_guarded | go_step)
      refine bodyPost_rowv rfl g2 rfl (.bool false) rfl 45 _ _ hbw10 Try.underlying45 rfl rdisk_size rfl ?_
      show RefPost w _ d d.step.1 (fun v => .tuple #[v, .bool d.step.2]) _ _
      rw [hst]
      exact HK.out.result hR5 hfar5 hb5 hgw10 _
    · by_cases hl1 : 0 < d.left
      · have hb := HO.out.leftB
        obtain ⟨l, el⟩ : ∃ l, d.left = l := ⟨_, rfl⟩
        rw [el] at hc3 hl0 hl1 hb
        have hf3 := HK.out.blk.frozen 3
        have hst : d.step = ({ d with left := l - 1 }, true) := by unfold Dk.step; rw [if_neg (by rw [hoff]; decide), el, if_neg hl0, if_pos hl1]
        have hok : ({ d with left := l - 1 } : Dk).ok := ⟨HO.out.small, HO.out.len, HO.out.at_, by simp; omega⟩
        obtain ⟨D, eD⟩ : ∃ D, ({ d with left := l - 1 } : Dk) = D := ⟨_, rfl⟩
        rw [eD] at hst hok
        go_wp2_with (first | (with_reducible refine st_load 45 ?_; refine stopped ?_) | fail)
        refine go_on ?_
        have hset := HK.out.blk.set_ 3 (.int .i64 (l - 1))
        have hblk : Blk (w2.setCell ⟨g1, 3, none⟩ (.int .i64 (l - 1))) g1 45 (refCells A0 W S0 ca0 cw cs0 D).toArray := by
          have e : (refCells A0 W S0 ca0 cw cs0 D).toArray = (refCells A0 W S0 ca0 cw cs0 d).toArray.setIfInBounds 3 (.int .i64 (l - 1)) := by
            rw [← eD]
            simp [refCells]
          rw [e]
          exact hset
        have HK2 := Lib.hid (HK.out.put (one_set w2 g1 3 (.int .i64 (l - 1))) hblk (HK.out.ref.flags hok (by rw [← eD]) (by rw [← eD]) (by rw [← eD])) (fun g hg hf => far_flags (HK.out.far g hg hf) (by rw [← eD]) (by rw [← eD]) (by rw [← eD])))
        clear hset hblk
        refine wpList_load_at rfl 45 (.tmp 1) rfl g1 0 rfl (refCells A0 W S0 ca0 cw cs0 D).toArray _ (Blk.cells HK2.out.blk) Try.underlying45 rfl rdisk_size ?_
        refine wpList_store_whole rfl 45 (.tmp 2) (.tmp 21) rfl g2 (refCells A0 W S0 ca0 cw cs0 D) rfl rfl 45 (refCells none none none 0 0 0 ⟨[], [], false, 0, []⟩) HK2.out.zero rdisk_size rfl (refCells_one _ _ _ _ _ _ _) ?_
        intro w10 hbw10 hgw10
        simp only [Act.put, List.setIfInBounds_toArray, List.set_cons_zero, List.set_cons_succ]
        repeat (first | go_values | go_skip | go_guarded | go_step)
        refine bodyPost_rowv rfl g2 rfl (.bool true) rfl 45 _ _ hbw10 Try.underlying45 rfl rdisk_size rfl ?_
        show RefPost w _ d d.step.1 (fun v => .tuple #[v, .bool d.step.2]) _ _
        rw [hst]
        exact HK2.out.done hgw10 _
      · obtain ⟨l, el⟩ : ∃ l, d.left = l := ⟨_, rfl⟩
        have hst : d.step = (d, true) := by unfold Dk.step; rw [if_neg (by rw [hoff]; decide), if_neg hl0, if_neg hl1]
        rw [el] at hc3 hl0 hl1
        go_wp2_with (first | (with_reducible refine st_load 45 ?_; refine stopped ?_) | fail)
        refine go_on ?_
        refine wpList_load_at rfl 45 (.tmp 1) rfl g1 0 rfl (refCells A0 W S0 ca0 cw cs0 d).toArray _ (Blk.cells HK.out.blk) Try.underlying45 rfl rdisk_size ?_
        refine wpList_store_whole rfl 45 (.tmp 2) (.tmp 21) rfl g2 (refCells A0 W S0 ca0 cw cs0 d) rfl rfl 45 (refCells none none none 0 0 0 ⟨[], [], false, 0, []⟩) HK.out.zero rdisk_size rfl (refCells_one _ _ _ _ _ _ _) ?_
        intro w10 hbw10 hgw10
        simp only [Act.put, List.setIfInBounds_toArray, List.set_cons_zero, List.set_cons_succ]
        repeat (first | go_values | go_skip | go_guarded | go_step)
        refine bodyPost_rowv rfl g2 rfl (.bool true) rfl 45 _ _ hbw10 Try.underlying45 rfl rdisk_size rfl ?_
        show RefPost w _ d d.step.1 (fun v => .tuple #[v, .bool d.step.2]) _ _
        rw [hst]
        exact HK.out.done hgw10 _
  · rw [hoff] at hc2
    go_wp2_with (first | (with_reducible refine st_load 45 ?_; refine stopped ?_) | fail)
    refine go_on ?_
    refine wpList_load_at rfl 45 (.tmp 1) rfl g1 0 rfl (refCells A0 W S0 ca0 cw cs0 d).toArray _ (Blk.cells HK.out.blk) Try.underlying45 rfl rdisk_size ?_
    refine wpList_store_whole rfl 45 (.tmp 2) (.tmp 6) rfl g2 (refCells A0 W S0 ca0 cw cs0 d) rfl rfl 45 (refCells none none none 0 0 0 ⟨[], [], false, 0, []⟩) HK.out.zero rdisk_size rfl (refCells_one _ _ _ _ _ _ _) ?_
    intro w10 hbw10 hgw10
    simp only [Act.put, List.setIfInBounds_toArray, List.set_cons_zero, List.set_cons_succ]
    repeat (first | go_values | go_skip | go_guarded | go_step)
    refine bodyPost_rowv rfl g2 rfl (.bool false) rfl 45 _ _ hbw10 Try.underlying45 rfl rdisk_size rfl ?_
    have hst : d.step = (d, false) := by unfold Dk.step; rw [if_pos hoff]
    show RefPost w _ d d.step.1 (fun v => .tuple #[v, .bool d.step.2]) _ _
    rw [hst]
    exact HK.out.done hgw10 _

def Dk.flush (d : Dk) : Dk × Nat := if d.step.2 = true then (d.step.1.laid true [], 0) else (d.step.1, 9)
theorem step_waits (d : Dk) : d.step.1.waits.length ≤ d.waits.length := by
  unfold Dk.step
  split
  · exact Nat.le_refl _
  · split
    · unfold Dk.crash
      split
      · exact Nat.le_refl _
      · simp [Dk.laid]
    · split <;> exact Nat.le_refl _

set_option maxRecDepth 100000 in
set_option maxHeartbeats 1000000 in
set_option linter.unusedSimpArgs false in
theorem refFlush_any (w : World) (cs : List Value) (d : Dk) (h : RefIs w w.heap.size cs d) (hw : d.waits.length ≤ 4294967296) :
    Calls Try.prog 24 #[.agg cs.toArray] w (RefPost w cs d d.flush.1 (fun v => .tuple #[v, .int .i64 (d.flush.2 : Nat)])) := by
  obtain ⟨hok, A0, W, S0, ca0, cw, cs0, ecs, hA0, hW, hS0⟩ := h
  subst ecs
  obtain ⟨X, hX⟩ : ∃ X, (refCells A0 W S0 ca0 cw cs0 d).toArray = X := ⟨_, rfl⟩
  rw [hX]
  have HX := Lib.hid hX
  have HP := Lib.hid (And.intro hA0 (And.intro hW hS0))
  have HO := Lib.hid hok
  clear hX hA0 hW hS0 hok
  go_enter Try.func24, Try.ntmps24
  go_wp2_with (first
    | (refine wpList_box rfl 45 (.tmp 0) rfl X rfl ?_; intro w1 hb1 hw1 hz1; refine stopped ?_)
    | fail)
  refine go_on ?_
  refine wpList_alloc rfl 45 rfl _ rdisk_zero ?_
  intro w2 hb2 hw2 hz2
  simp only [Act.put, List.setIfInBounds_toArray, List.set_cons_zero, List.set_cons_succ]
  rw [← HX.out] at hb1
  obtain ⟨g1, e3⟩ : ∃ g, w.heap.size = g := ⟨_, rfl⟩
  obtain ⟨g2, e6⟩ : ∃ g, w1.heap.size = g := ⟨_, rfl⟩
  rw [e3] at hb1 hz1 hw1
  rw [e6] at hb2 hz2 hw2
  rw [e3, e6]
  have h36 : g2 = g1 + 1 := by omega
  have hbb : Below g1 w w2 := hw1.trans (hw2.mono (by omega))
  have HB := Lib.hid (And.intro (hb1.below hw2 (by omega)) (And.intro hb2 (And.intro hbb (And.intro h36 (And.intro hz2 e3)))))
  have hR2 : RefIs w2 w2.heap.size (refCells A0 W S0 ca0 cw cs0 d) d := (RefIs.below ⟨HO.out, A0, W, S0, ca0, cw, cs0, rfl, HP.out.1, HP.out.2.1, HP.out.2.2⟩ (e3 ▸ hbb)).more (by omega)
  have hF : ∀ g, w.heap.size ≤ g → RefFar (refCells A0 W S0 ca0 cw cs0 d) d g := fun g hg => ref_far ⟨far_below HP.out.1 hg (by rw [svs_length]; exact id), far_below HP.out.2.1 hg (by rw [wvs_length]; omega), far_below HP.out.2.2 hg (by rw [bvs_length]; exact id)⟩
  have hc0 : w2.cell? ⟨g1, 0, none⟩ = some (.slice A0 d.has.length ca0) := by rw [HB.out.1.cell]; rfl
  have hc1 : w2.cell? ⟨g1, 1, none⟩ = some (.slice W d.waits.length cw) := by rw [HB.out.1.cell]; rfl
  have hc2 : w2.cell? ⟨g1, 2, none⟩ = some (.bool d.off) := by rw [HB.out.1.cell]; rfl
  have hc3 : w2.cell? ⟨g1, 3, none⟩ = some (.int .i64 d.left) := by rw [HB.out.1.cell]; rfl
  have hc4 : w2.cell? ⟨g1, 4, none⟩ = some (.slice S0 d.surv.length cs0) := by rw [HB.out.1.cell]; rfl
  have hWk : Wk w w2 g1 g2 (refCells A0 W S0 ca0 cw cs0 d) d (refCells A0 W S0 ca0 cw cs0 d) d := ⟨HB.out.1, hR2, fun g _ h => h, HB.out.2.1, HB.out.2.2.1, by omega, HB.out.2.2.2.1, e3, hF⟩
  have HK := Lib.hid hWk
  clear hb1 hb2 hw1 hw2 hz1 hz2 hbb e3 e6 h36 hR2 hF hWk
  go_wp2_with (first | (with_reducible refine st_load 45 ?_; refine stopped ?_) | fail)
  refine go_on ?_
  refine wpList_load_at rfl 45 (.tmp 1) rfl g1 0 rfl (refCells A0 W S0 ca0 cw cs0 d).toArray _ (Blk.cells HK.out.blk) Try.underlying45 rfl rdisk_size ?_
  simp only [Act.put, List.setIfInBounds_toArray, List.set_cons_zero, List.set_cons_succ]
  have hL := refStep_any w2 _ d HK.out.ref hw
  obtain ⟨D, eD⟩ : ∃ D, d.step.1 = D := ⟨_, rfl⟩
  obtain ⟨t, et⟩ : ∃ t, d.step.2 = t := ⟨_, rfl⟩
  have hfl : d.flush = if t = true then (D.laid true [], 0) else (D, 9) := by unfold Dk.flush; rw [eD, et]
  have hDw : D.waits.length ≤ 4294967296 := by have := step_waits d; rw [eD] at this; omega
  rw [eD, et] at hL
  have HD := Lib.hid (And.intro hfl (And.intro eD et))
  clear hfl eD et
  go_wp2_with (first
    | (go_at_call 43; refine hL.mono ?_; rintro e w5 ⟨cs5, rfl, hR5, hfar5, hb5⟩; obtain ⟨ok5, A5, W5, S5, ca5, cw5, cs5, rfl, hA5, hW5, hS5⟩ := hR5)
    | (with_reducible refine st_store 45 ?_; refine stopped ?_)
    | fail)
  refine go_on ?_
  have hR5 : RefIs w5 w5.heap.size (refCells A5 W5 S5 ca5 cw5 cs5 D) D := ⟨ok5, A5, W5, S5, ca5, cw5, cs5, rfl, hA5, hW5, hS5⟩
  have hblk5 := HK.out.blk.below hb5 (by have := HK.out.siz; have := HK.out.next; omega)
  refine wpList_store_whole rfl 45 (.tmp 1) (.tmp 8) rfl g1 (refCells A5 W5 S5 ca5 cw5 cs5 D) rfl rfl 45 (refCells A0 W S0 ca0 cw cs0 d) hblk5 rdisk_size rfl (refCells_one _ _ _ _ _ _ _) ?_
  intro w6 hbw6 hgw6
  simp only [Act.put, List.setIfInBounds_toArray, List.set_cons_zero, List.set_cons_succ]
  have HK2 := Lib.hid (HK.out.call hR5 hfar5 hb5 hgw6 hbw6)
  clear hR5 hfar5 hb5 hgw6 hbw6 hblk5 hA5 hW5 hS5 ok5 hL hc0 hc1 hc2 hc3 hc4
  cases t
  · go_wp2_with (first | (with_reducible refine st_load 45 ?_; refine stopped ?_) | fail)
    refine go_on ?_
    refine wpList_load_at rfl 45 (.tmp 1) rfl g1 0 rfl (refCells A5 W5 S5 ca5 cw5 cs5 D).toArray _ (Blk.cells HK2.out.blk) Try.underlying45 rfl rdisk_size ?_
    refine wpList_store_whole rfl 45 (.tmp 2) (.tmp 12) rfl g2 (refCells A5 W5 S5 ca5 cw5 cs5 D) rfl rfl 45 (refCells none none none 0 0 0 ⟨[], [], false, 0, []⟩) HK2.out.zero rdisk_size rfl (refCells_one _ _ _ _ _ _ _) ?_
    intro w10 hbw10 hgw10
    simp only [Act.put, List.setIfInBounds_toArray, List.set_cons_zero, List.set_cons_succ]
    repeat (first | go_values | go_skip | go_guarded | go_step)
    refine bodyPost_rowv rfl g2 rfl (.int .i64 9) rfl 45 _ _ hbw10 Try.underlying45 rfl rdisk_size rfl ?_
    show RefPost w _ d d.flush.1 (fun v => .tuple #[v, .int .i64 (d.flush.2 : Nat)]) _ _
    rw [HD.out.1]
    exact HK2.out.done hgw10 _
  · go_wp2_with (first | (with_reducible refine st_load 45 ?_; refine stopped ?_) | fail)
    refine go_on ?_
    refine wpList_load_at rfl 45 (.tmp 1) rfl g1 0 rfl (refCells A5 W5 S5 ca5 cw5 cs5 D).toArray _ (Blk.cells HK2.out.blk) Try.underlying45 rfl rdisk_size ?_
    simp only [Act.put, List.setIfInBounds_toArray, List.set_cons_zero, List.set_cons_succ]
    have hL := laid_any w6 _ D HK2.out.ref hDw true none [] 0 Vs.nil_
    obtain ⟨E, eE⟩ : ∃ E, D.laid true [] = E := ⟨_, rfl⟩
    rw [eE] at hL
    go_wp2_with (first
      | (go_at_call 44; refine hL.mono ?_; rintro e w7 ⟨cs7, rfl, hR7, hfar7, hb7⟩; obtain ⟨ok7, A7, W7, S7, ca7, cw7, cs7, rfl, hA7, hW7, hS7⟩ := hR7)
      | (with_reducible refine st_store 45 ?_; refine stopped ?_)
      | fail)
    refine go_on ?_
    have hR7 : RefIs w7 w7.heap.size (refCells A7 W7 S7 ca7 cw7 cs7 E) E := ⟨ok7, A7, W7, S7, ca7, cw7, cs7, rfl, hA7, hW7, hS7⟩
    have hz7 := HK2.out.zero.below hb7 HK2.out.siz
    refine wpList_store_whole rfl 45 (.tmp 2) (.tmp 14) rfl g2 (refCells A7 W7 S7 ca7 cw7 cs7 E) rfl rfl 45 (refCells none none none 0 0 0 ⟨[], [], false, 0, []⟩) hz7 rdisk_size rfl (refCells_one _ _ _ _ _ _ _) ?_
    intro w10 hbw10 hgw10
    simp only [Act.put, List.setIfInBounds_toArray, List.set_cons_zero, List.set_cons_succ]
    repeat (first | go_values | go_skip | go_guarded | go_step)
    refine bodyPost_rowv rfl g2 rfl (.int .i64 0) rfl 45 _ _ hbw10 Try.underlying45 rfl rdisk_size rfl ?_
    show RefPost w _ d d.flush.1 (fun v => .tuple #[v, .int .i64 (d.flush.2 : Nat)]) _ _
    rw [HD.out.1, if_pos trivial, eE]
    exact HK2.out.result hR7 hfar7 hb7 hgw10 _

def Dk.power (d : Dk) : Dk := { d with waits := [], off := false, left := -1 }
theorem Dk.power_ok {d : Dk} (h : d.ok) : d.power.ok := ⟨h.small, h.len, by simp [Dk.power], by simp [Dk.power]⟩
set_option maxRecDepth 100000 in
set_option maxHeartbeats 1000000 in
set_option linter.unusedSimpArgs false in
theorem refPower_any (w : World) (cs : List Value) (d : Dk) (h : RefIs w w.heap.size cs d) : Calls Try.prog 31 #[.agg cs.toArray] w (RefPost w cs d d.power (fun v => v)) := by
  obtain ⟨hok, A0, W, S0, ca0, cw, cs0, ecs, hA0, hW, hS0⟩ := h
  subst ecs
  obtain ⟨X, hX⟩ : ∃ X, (refCells A0 W S0 ca0 cw cs0 d).toArray = X := ⟨_, rfl⟩
  rw [hX]
  have HX := Lib.hid hX
  have HP := Lib.hid (And.intro hA0 (And.intro hW hS0))
  have HO := Lib.hid hok
  clear hX hA0 hW hS0 hok
  go_enter Try.func31, Try.ntmps31
  go_wp2_with (first
    | (refine wpList_box rfl 45 (.tmp 0) rfl X rfl ?_; intro w1 hb1 hw1 hz1; refine stopped ?_)
    | fail)
  refine go_on ?_
  refine wpList_alloc rfl 45 rfl _ rdisk_zero ?_
  intro w2 hb2 hw2 hz2
  simp only [Act.put, List.setIfInBounds_toArray, List.set_cons_zero, List.set_cons_succ]
  rw [← HX.out] at hb1
  obtain ⟨g1, e3⟩ : ∃ g, w.heap.size = g := ⟨_, rfl⟩
  obtain ⟨g2, e6⟩ : ∃ g, w1.heap.size = g := ⟨_, rfl⟩
  rw [e3] at hb1 hz1 hw1
  rw [e6] at hb2 hz2 hw2
  rw [e3, e6]
  have h36 : g2 = g1 + 1 := by omega
  have hbb : Below g1 w w2 := hw1.trans (hw2.mono (by omega))
  have HB := Lib.hid (And.intro (hb1.below hw2 (by omega)) (And.intro hb2 (And.intro hbb (And.intro h36 (And.intro hz2 e3)))))
  have hR2 : RefIs w2 w2.heap.size (refCells A0 W S0 ca0 cw cs0 d) d := (RefIs.below ⟨HO.out, A0, W, S0, ca0, cw, cs0, rfl, HP.out.1, HP.out.2.1, HP.out.2.2⟩ (e3 ▸ hbb)).more (by omega)
  have hF : ∀ g, w.heap.size ≤ g → RefFar (refCells A0 W S0 ca0 cw cs0 d) d g := fun g hg => ref_far ⟨far_below HP.out.1 hg (by rw [svs_length]; exact id), far_below HP.out.2.1 hg (by rw [wvs_length]; omega), far_below HP.out.2.2 hg (by rw [bvs_length]; exact id)⟩
  have hc0 : w2.cell? ⟨g1, 0, none⟩ = some (.slice A0 d.has.length ca0) := by rw [HB.out.1.cell]; rfl
  have hc1 : w2.cell? ⟨g1, 1, none⟩ = some (.slice W d.waits.length cw) := by rw [HB.out.1.cell]; rfl
  have hc2 : w2.cell? ⟨g1, 2, none⟩ = some (.bool d.off) := by rw [HB.out.1.cell]; rfl
  have hc3 : w2.cell? ⟨g1, 3, none⟩ = some (.int .i64 d.left) := by rw [HB.out.1.cell]; rfl
  have hc4 : w2.cell? ⟨g1, 4, none⟩ = some (.slice S0 d.surv.length cs0) := by rw [HB.out.1.cell]; rfl
  have hWk : Wk w w2 g1 g2 (refCells A0 W S0 ca0 cw cs0 d) d (refCells A0 W S0 ca0 cw cs0 d) d := ⟨HB.out.1, hR2, fun g _ h => h, HB.out.2.1, HB.out.2.2.1, by omega, HB.out.2.2.2.1, e3, hF⟩
  have HK := Lib.hid hWk
  clear hb1 hb2 hw1 hw2 hz1 hz2 hbb e3 e6 h36 hR2 hF hWk
  have hf1 := HK.out.blk.frozen 1
  have hf2 := HK.out.blk.frozen 2
  have hf3 := HK.out.blk.frozen 3
  go_wp2_with (first | (with_reducible refine st_load 45 ?_; refine stopped ?_) | fail)
  refine go_on ?_
  have hset := ((HK.out.blk.set_ 1 (.slice none 0 0)).set_ 2 (.bool false)).set_ 3 (.int .i64 (-1))
  have hblk : Blk (((w2.setCell ⟨g1, 1, none⟩ (.slice none 0 0)).setCell ⟨g1, 2, none⟩ (.bool false)).setCell ⟨g1, 3, none⟩ (.int .i64 (-1))) g1 45 (refCells A0 none S0 ca0 0 cs0 d.power).toArray := by
    have e : (refCells A0 none S0 ca0 0 cs0 d.power).toArray = (((refCells A0 W S0 ca0 cw cs0 d).toArray.setIfInBounds 1 (.slice none 0 0)).setIfInBounds 2 (.bool false)).setIfInBounds 3 (.int .i64 (-1)) := by simp [refCells, Dk.power]
    rw [e]
    exact hset
  have hgx := only_trans (only_trans (one_set w2 g1 1 (.slice none 0 0)) (one_set _ g1 2 (.bool false))) (one_set _ g1 3 (.int .i64 (-1)))
  have hbw := HB.out.2.2.2.2.2 ▸ HB.out.2.2.1
  have hge : w.heap.size ≤ w2.heap.size := hbw.size
  have hRp : RefIs w2 w2.heap.size (refCells A0 none S0 ca0 0 cs0 d.power) d.power := ⟨Dk.power_ok HO.out, A0, none, S0, ca0, 0, cs0, rfl, (HP.out.1.below hbw).more hge, Vs.nil_, (HP.out.2.2.below hbw).more hge⟩
  have HK2 := Lib.hid (HK.out.put hgx hblk hRp (fun g hg hf => by
    have h0 := hf _ _ _ _ _ _ rfl
    exact ref_far ⟨h0.1, fun h => by simp [Dk.power] at h, h0.2.2⟩))
  clear hset hblk hgx hbw hRp
  refine wpList_load_at rfl 45 (.tmp 1) rfl g1 0 rfl (refCells A0 none S0 ca0 0 cs0 d.power).toArray _ (Blk.cells HK2.out.blk) Try.underlying45 rfl rdisk_size ?_
  refine wpList_store_whole rfl 45 (.tmp 2) (.tmp 6) rfl g2 (refCells A0 none S0 ca0 0 cs0 d.power) rfl rfl 45 (refCells none none none 0 0 0 ⟨[], [], false, 0, []⟩) HK2.out.zero rdisk_size rfl (refCells_one _ _ _ _ _ _ _) ?_
  intro w10 hbw10 hgw10
  simp only [Act.put, List.setIfInBounds_toArray, List.set_cons_zero, List.set_cons_succ]
  repeat (first | go_values | go_skip | go_guarded | go_step)
  refine bodyPost_rowo rfl g2 rfl 45 _ _ hbw10 Try.underlying45 rfl rdisk_size rfl ?_
  exact HK2.out.done hgw10 (fun v => v)
end Go.Proofs.Ytdhaikcmgegfoaa
