/-
  Package pvm's Run, by its contract. Conditions: the theorem's own premises.
-/
import Derived.Test.YthgiehlfmdobkaaDoorPvmFnT
import Derived.Deep.RegionHeld
namespace Go.Proofs.YthgiehlfmdobkaaDoor
open Go.RowKit

/-- where a run stands behind j steps -/
structure RunRel (l : List Ins) (N : Nat) (M : Mach) (j : Nat) (X : Mach) (kd nm : Int) : Prop where
  le : j ≤ N
  eq : runM l N M = if kd ≠ 0 then (X, kd, nm, j) else ((runM l (N - j) X).1, (runM l (N - j) X).2.1, (runM l (N - j) X).2.2.1, (runM l (N - j) X).2.2.2 + j)
  nm0 : kd = 0 → nm = 0
theorem rel_start (l : List Ins) (N : Nat) (M : Mach) : RunRel l N M 0 M 0 0 := ⟨Nat.zero_le _, by rw [if_neg (by simp)]; rfl, fun _ => rfl⟩
theorem step_quiet (l : List Ins) (M : Mach) : (stepM l M).2.1 = 0 → (stepM l M).2.2 = 0 := by
  have ht : ∀ (X : Mach) (t : Int), (trapM X t).2.1 = 0 → (trapM X t).2.2 = 0 := fun X t h => absurd h (by decide : ¬ (3 : Int) = 0)
  unfold stepM
  split
  · exact fun _ => rfl
  split
  · exact ht _ _
  unfold doM
  split
  · exact ht _ _
  split
  · exact fun _ => rfl
  split
  · exact fun _ => rfl
  split
  · exact fun _ => rfl
  split
  · split
    · exact ht _ _
    · exact fun _ => rfl
  split
  · split
    · exact ht _ _
    · split
      · exact fun _ => rfl
      · exact fun _ => rfl
  split
  · exact fun _ => rfl
  split
  · exact fun _ => rfl
  · exact fun h => absurd h (by decide : ¬ (1 : Int) = 0)
theorem rel_step {l : List Ins} {N : Nat} {M : Mach} {j : Nat} {X : Mach} {nm : Int} (h : RunRel l N M j X 0 nm) (hs : X.s = 0) (hj : j < N) {Y : Mach} {kd' nm' : Int} (es : stepM l X = (Y, kd', nm')) : RunRel l N M (j + 1) Y kd' nm' := by
  have h1 := h.eq
  rw [if_neg (by simp)] at h1
  have h2 : N - j = (N - (j + 1)) + 1 := by omega
  have h3 : runM l (N - j) X = if kd' ≠ 0 then (Y, kd', nm', 1) else ((runM l (N - (j + 1)) Y).1, (runM l (N - (j + 1)) Y).2.1, (runM l (N - (j + 1)) Y).2.2.1, (runM l (N - (j + 1)) Y).2.2.2 + 1) := by
    rw [h2]
    simp only [runM, es]
    rw [if_neg (by rw [hs]; simp)]
  refine ⟨hj, ?_, fun e => by have := step_quiet l X; rw [es] at this; exact this e⟩
  rw [h1, h3]
  by_cases hk : kd' = 0
  · rw [if_neg (by simp [hk]), if_neg (by simp [hk])]
    dsimp only
    rw [show (runM l (N - (j + 1)) Y).2.2.2 + 1 + j = (runM l (N - (j + 1)) Y).2.2.2 + (j + 1) by omega]
  · rw [if_pos hk, if_pos hk]
    dsimp only
    rw [Nat.add_comm]
theorem rel_end {l : List Ins} {N : Nat} {M : Mach} {j : Nat} {X : Mach} {kd nm : Int} (h : RunRel l N M j X kd nm) (he : X.s ≠ 0 ∨ kd ≠ 0 ∨ N ≤ j) : runM l N M = (X, kd, nm, j) := by
  have h1 := h.eq
  by_cases hk : kd = 0
  · have hn := h.nm0 hk
    subst hk hn
    rw [if_neg (by simp)] at h1
    rw [h1]
    have h2 : runM l (N - j) X = (X, 0, 0, 0) := by
      rcases Nat.eq_zero_or_pos (N - j) with h0 | h0
      · rw [h0]; rfl
      · obtain ⟨m, em⟩ : ∃ m, N - j = m + 1 := ⟨N - j - 1, by omega⟩
        rw [em]
        simp only [runM]
        rw [if_pos (by omega)]
    rw [h2]
    simp
  · rw [if_pos hk] at h1
    exact h1

set_option maxRecDepth 100000 in
set_option maxHeartbeats 4000000 in
set_option linter.unusedSimpArgs false in
theorem pvRun (L : Option Addr) (l : List Ins) (n cp : Nat) (hl : l.length = n) (hn : n ≤ 1000000) (w : World) (hL : InsAt w L l) (hG : HasErr w) (M : Mach) (B : Option Addr) (k d : Nat) (hM : MachAt w M B k d) (hk : k ≤ 1000000) (x : Int) (hx : R64 x) : Calls Tryd.prog 20 #[.slice L n cp, mv M B k d, .int .i64 x] w (RunPost w (runM l x.toNat M)) := by
  have H := Lib.hid (And.intro hl (And.intro hn (And.intro hL (And.intro hG (And.intro hM (And.intro hk hx))))))
  clear hl hn hL hG hM hk hx
  go_enter Tryd.func20, Tryd.ntmps20
  go_wp2_with (first
    | (refine wpList_box rfl 27 (.tmp 1) rfl (mcells M B k d).toArray rfl ?_; intro w1 hb1 hw1 hz1)
    | (refine wpList_alloc rfl 27 rfl (mcells (newM 0) none 0 0).toArray mach_zero ?_; intro w2 hb2 hw2 hz2)
    | (with_reducible refine st_alloc 38 ?_; refine stopped ?_)
    | fail)
  refine go_on ?_
  refine wpList_alloc rfl 38 rfl #[.int .i64 0, .int .i64 0] event_zero ?_
  intro w3 hb3 hw3 hz3
  rw [hz1] at hb2 hz2
  rw [hz2] at hb3 hz3
  try rw [hz2]
  simp only [Act.put, List.setIfInBounds_toArray, List.set_cons_zero, List.set_cons_succ]
  have hbl := (hw1.trans (hw2.mono hw1.size)).trans (hw3.mono (Nat.le_trans hw1.size hw2.size))
  have H3 := Lib.hid (And.intro ((hb1.below hw2 hb1.lt).below hw3 (Nat.lt_of_lt_of_le hb1.lt hw2.size)) (And.intro (hb2.below hw3 hb2.lt) (And.intro hb3 (And.intro hbl hz3))))
  have hcm : w3.cell? ⟨w.heap.size, 9, none⟩ = some (.slice B k d) := by rw [H3.out.1.cell]; rfl
  clear hb1 hw1 hz1 hb2 hw2 hz2 hb3 hw3 hz3
  have hcl := wordClone w3 B M.mem d k H.out.2.2.2.2.1.len ((H.out.2.2.2.2.1.vs.below hbl).more hbl.size) H.out.2.2.2.2.2.1
  have HC := Lib.hid hcl
  clear hcl hbl
  try refine wpList_nil ?_
  go_wp2_with (first
    | (go_at_call 27; refine HC.out.mono ?_; rintro e w4 ⟨A, c, rfl, hc4, hr4, hb4⟩; have hk4 := H3.out.1.below hb4 H3.out.1.lt; have hf4 := hk4.frozen 9; have hq4 : w4.cell? ⟨w.heap.size, 9, none⟩ = some (.slice B k d) := by (rw [hk4.cell]; rfl))
    | (with_reducible refine st_alloc 38 ?_; refine stopped ?_)
    | fail)
  have hk5 := hk4.set_ 9 (.slice A k c)
  rw [show (mcells M B k d).toArray.setIfInBounds 9 (.slice A k c) = (mcells M A k c).toArray from rfl] at hk5
  have hap := row_apart hr4 hk4 (by decide)
  have hr5 := row_keep (F := fun j => j = w.heap.size) hr4 (Kept.set _ w4 ⟨w.heap.size, 9, none⟩ (.slice A k c) (.inl rfl)) (fun j e1 e2 => hap (by rw [e1, e2]))
  have hb35 : Below w3.heap.size w3 w4 := hb4
  have hT := TwoRes.mk (w := w) (W := w4.setCell ⟨w.heap.size, 9, none⟩ (.slice A k c)) ⟨Nat.le_refl _, H.out.2.2.2.2.1.len, hc4, hk5, row_base hr5 (by have := H3.out.2.2.2.2; omega), H.out.2.2.2.2.1.ok⟩
    ((H3.out.2.1.below hb35 H3.out.2.1.lt).far (p := ⟨w.heap.size, 9, none⟩) (by show w.heap.size + 1 ≠ w.heap.size; omega) _)
    ((H3.out.2.2.1.below hb35 H3.out.2.2.1.lt).far (p := ⟨w.heap.size, 9, none⟩) (by show w.heap.size + 2 ≠ w.heap.size; omega) _)
    ((H3.out.2.2.2.1.trans (hb35.mono H3.out.2.2.2.1.size)).setCell (Nat.le_refl _) _)
  obtain ⟨w5, ew5⟩ : ∃ W, w4.setCell ⟨w.heap.size, 9, none⟩ (.slice A k c) = W := ⟨_, rfl⟩
  rw [ew5] at hT ⊢
  have HT := Lib.hid hT
  clear hT ew5 hk5 hap hr5 hb35 hk4 hf4 hq4 hr4 hb4
  refine go_on ?_
  refine wpList_alloc rfl 38 rfl #[.int .i64 0, .int .i64 0] event_zero ?_
  intro w7 hb7 hw7 hz7
  have hg9 : w.heap.size + 2 < w5.heap.size := HT.out.r2.lt
  obtain ⟨g9, eg9⟩ : ∃ y, w5.heap.size = y := ⟨_, rfl⟩
  have H7 := Lib.hid (And.intro (HT.out.below hw7) (And.intro hb7 hg9))
  rw [eg9] at H7
  simp only [Act.put, List.setIfInBounds_toArray, List.set_cons_zero, List.set_cons_succ]
  rw [eg9]
  clear eg9 hb7 hw7 hz7 hg9
  refine wpList_nil ?_
  go_wp2_with fail
  go_loopw [10] (fun u wz => ∃ (j : Nat) (X : Mach) (kd nm : Int), u = .int .i64 (j : Int) ∧ TwoRes w wz X A k c ∧ Blk wz g9 38 #[.int .i64 kd, .int .i64 nm] ∧ RunRel l x.toNat M j X kd nm) (fun u _ => x.toNat - (intOf u).toNat)
  case atStart => exact ⟨0, M, 0, 0, rfl, H7.out.1, H7.out.2.1, rel_start l _ M⟩
  case round =>
    obtain ⟨j, X, kd, nm, rfl, hT, hE, hR⟩ := hrel
    obtain ⟨s, es⟩ : ∃ s, X.s = s := ⟨_, rfl⟩
    have hcs := hT.mv.cs
    rw [es] at hcs
    have hck : wr.cell? ⟨g9, 0, none⟩ = some (.int .i64 kd) := by rw [hE.cell]; rfl
    have HR := Lib.hid (And.intro hT (And.intro hE (And.intro hR es)))
    clear hT hE hR es
    by_cases hs : s = 0
    · subst hs
      by_cases hkd : kd = 0
      · subst hkd
        by_cases hj : (j : Int) < x
        · have hjN : j < x.toNat := by omega
          have hst := pvStepAt w L l n cp H.out.1 H.out.2.1 H.out.2.2.1 H.out.2.2.2.1 H.out.2.2.2.2.2.1 wr HR.out.1.bel HR.out.1.mv
          obtain ⟨Y, kd', nm', ey⟩ : ∃ Y kd' nm', stepM l X = (Y, kd', nm') := ⟨_, _, _, rfl⟩
          rw [ey] at hst
          have hrs := rel_step HR.out.2.2.1 HR.out.2.2.2 hjN ey
          have HQ := Lib.hid (And.intro hst hrs)
          clear hst hrs ey
          go_wp2_with (first
            | (go_at_call 28; refine HQ.out.1.mono ?_; rintro e w6 ⟨rfl, hv6, hk6⟩)
            | (with_reducible refine st_store 38 ?_; refine stopped ?_)
            | fail)
          have hE6 := hk6.blk HR.out.2.1 (HR.out.1.mv.off HR.out.2.1 (by decide) (by have := H7.out.2.2; omega))
          have hT6 := HR.out.1.keep hv6 hk6 HR.out.1.off1
          refine go_on ?_
          refine wpList_store_whole rfl 38 (.tmp 9) (.tmp 29) rfl g9 [.int .i64 kd', .int .i64 nm'] rfl rfl 38 [.int .i64 0, .int .i64 nm] hE6 event_size rfl (ev_one _ _) ?_
          intro w8 hb8 hg8
          have hkk : Kept (fun i => i = g9) w6 w8 := Kept.of_grown hg8 (fun i e => by cases e; exact .inl rfl)
          have hng : ∀ i, FF w.heap.size A i → ¬ i = g9 := fun i hi e => by
            subst e
            exact hT6.mv.off hE6 (by decide) (by have := H7.out.2.2; omega) hi
          have hT8 : TwoRes w w8 Y A k c := ⟨hT6.mv.keep hkk hng, hkk.blk hT6.r1 (by have := H7.out.2.2; omega), hkk.blk hT6.r2 (by have := H7.out.2.2; omega), hT6.bel.trans (hkk.below (B := w.heap.size) (fun i e => by have := H7.out.2.2; omega) hT6.bel.size)⟩
          have HZ := Lib.hid (And.intro hT8 hb8)
          clear hT8 hb8 hg8 hkk hng hT6 hE6 hv6 hk6
          simp only [Act.put, List.setIfInBounds_toArray, List.set_cons_zero, List.set_cons_succ]
          refine wpList_nil ?_
          have hj9 : (j : Int) < 9223372036854775807 := by have := H.out.2.2.2.2.2.2.2; omega
          go_wp2_with fail
          go_roundw
          case rel => exact ⟨j + 1, Y, kd', nm', by go_num, HZ.out.1, HZ.out.2, HQ.out.2⟩
          case measure => simp only [intOf]; omega
        · have hjN : x.toNat ≤ j := by omega
          have hfinish := rel_end HR.out.2.2.1 (.inr (.inr hjN))
          go_wp2_with fail
          have hS0 : (fun W' : World => Blk W' w.heap.size 27 (mcells X A k c).toArray ∧ Blk W' g9 38 #[.int .i64 0, .int .i64 nm]) wr.drew := ⟨HR.out.1.mv.blk, HR.out.2.1⟩
          refine wp_region_held_drew (S := fun W' => Blk W' w.heap.size 27 (mcells X A k c).toArray ∧ Blk W' g9 38 #[.int .i64 0, .int .i64 nm]) (by kernel_rfl) hS0 (fun hHeld => ?_)
          refine wpAnyH_take (i := 0) (v := .agg (mcells X A k c).toArray) (List.getElem?_toArray.trans (List.getElem?_cons_zero)) (by kernel_rfl) (by kernel_rfl) (by kernel_rfl) (fun _ _ _ h => h) (Or.inl ⟨by rfl, ?_⟩) (by assumption) ?_
          · intro w' hSw; exact load_row_yields 27 (.tmp 4) rfl w.heap.size 0 rfl (mcells X A k c).toArray _ (Blk.cells hSw.1) Tryd.underlying27 rfl mach_size
          try simp only [Act.put, List.setIfInBounds_toArray, List.set_cons_zero, List.set_cons_succ]
          refine wpAnyH_take (i := 1) (v := .agg [Value.int .i64 0, .int .i64 nm].toArray) (List.getElem?_toArray.trans (List.getElem?_cons_succ.trans (List.getElem?_cons_zero))) (by kernel_rfl) (by kernel_rfl) (by kernel_rfl) (fun _ _ _ h => h) (Or.inl ⟨by rfl, ?_⟩) (by assumption) ?_
          · intro w' hSw; exact load_row_yields 38 (.tmp 9) rfl g9 0 rfl [Value.int .i64 0, .int .i64 nm].toArray _ (Blk.cells hSw.2) Tryd.underlying38 rfl event_size
          try simp only [Act.put, List.setIfInBounds_toArray, List.set_cons_zero, List.set_cons_succ]
          refine wpAnyH_take (i := 2) (v := ?_) (List.getElem?_toArray.trans (List.getElem?_cons_succ.trans (List.getElem?_cons_succ.trans (List.getElem?_cons_zero)))) (by kernel_rfl) (by kernel_rfl) (by kernel_rfl) (fun _ _ _ h => h) (Or.inl ⟨by rfl, ?_⟩) (by assumption) ?_
          rotate_left
          · intro w' hSw; (try dsimp only at hSw); go_simp; try with_reducible rfl
          try simp only [Act.put, List.setIfInBounds_toArray, List.set_cons_zero, List.set_cons_succ]
          have hT9 : TwoRes w wr.drew X A k c := ⟨HR.out.1.mv.drewN 1, HR.out.1.r1, HR.out.1.r2, HR.out.1.bel.drew⟩
          have hE9 : Blk wr.drew g9 38 #[.int .i64 0, .int .i64 nm] := HR.out.2.1
          have hgg := H7.out.2.2
          have hrl : X.mem.length = k := hT9.mv.len
          refine wpAnyH_ready (rs := [3]) (by kernel_rfl) (by simp) ?_
          refine AllReadyH.cons (List.getElem?_toArray.trans (List.getElem?_cons_succ.trans (List.getElem?_cons_succ.trans (List.getElem?_cons_succ.trans (List.getElem?_cons_zero))))) (fun K hK => ?_) AllReadyH.nil
          refine wp_store_one 27 (.tmp 6) (.tmp 32) rfl (w.heap.size + 1) (mcells X A k c) rfl rfl 27 (mcells (newM 0) none 0 0) hT9.r1 mach_size rfl (mcells_one _ _ _ _) ?_
          intro v1 hb1 hg1
          have hk1 : Kept (fun j => j = (w.heap.size + 1)) wr.drew v1 := Kept.of_grown hg1 (fun j e => by cases e; exact .inl rfl)
          refine hK.out _ _ ⟨hk1.blk hT9.mv.blk (by omega), hk1.blk hE9 (by omega)⟩ (fun _ => ?_)
          clear hK K
          try simp only [Act.put, List.setIfInBounds_toArray, List.set_cons_zero, List.set_cons_succ]
          refine wpAnyH_ready (rs := [4]) (by kernel_rfl) (by simp) ?_
          refine AllReadyH.cons (List.getElem?_toArray.trans (List.getElem?_cons_succ.trans (List.getElem?_cons_succ.trans (List.getElem?_cons_succ.trans (List.getElem?_cons_succ.trans (List.getElem?_cons_zero)))))) (fun K hK => ?_) AllReadyH.nil
          have hold := hk1.blk hT9.r2 (by omega)
          refine wp_store_one 38 (.tmp 7) (.tmp 33) rfl (w.heap.size + 2) [.int .i64 0, .int .i64 nm] rfl rfl 38 [.int .i64 0, .int .i64 0] hold event_size rfl (ev_one _ _) ?_
          intro v2 hb2 hg2
          have hk2 : Kept (fun j => j = (w.heap.size + 2)) v1 v2 := Kept.of_grown hg2 (fun j e => by cases e; exact .inl rfl)
          have hk12 := Kept.trans (F := fun j => j = w.heap.size + 1 ∨ j = w.heap.size + 2) ⟨hk1.os, hk1.tape, hk1.output, hk1.size, fun i hi hn => hk1.block i hi (fun e => hn (by omega))⟩ hk2 (fun j e => .inl (by omega))
          have hx1 := hk2.blk hb1 (by omega)
          refine hK.out _ _ ⟨hk12.blk hT9.mv.blk (by omega), hk12.blk hE9 (by omega)⟩ (fun _ => ?_)
          clear hK K
          try simp only [Act.put, List.setIfInBounds_toArray, List.set_cons_zero, List.set_cons_succ]
          refine wpAnyH_ready (rs := [5]) (by kernel_rfl) (by simp) ?_
          refine AllReadyH.cons (List.getElem?_toArray.trans (List.getElem?_cons_succ.trans (List.getElem?_cons_succ.trans (List.getElem?_cons_succ.trans (List.getElem?_cons_succ.trans (List.getElem?_cons_succ.trans (List.getElem?_cons_zero))))))) (fun K hK => ?_) AllReadyH.nil
          go_simp
          refine hK.out _ _ ⟨hk12.blk hT9.mv.blk (by omega), hk12.blk hE9 (by omega)⟩ (fun _ => ?_)
          clear hK K
          try simp only [Act.put, List.setIfInBounds_toArray, List.set_cons_zero, List.set_cons_succ]
          refine wpAnyH_done (by kernel_rfl) ?_ _
          have hfin : RunPost w (X, 0, nm, j) (.returned (.tuple #[.agg (mcells X A k c).toArray, .agg #[.int .i64 0, .int .i64 nm], .int .i64 (j : Int)])) v2 :=
            ⟨A, c, by rw [hrl]; rfl, by rw [hrl]; exact hc4, by
              rw [hrl]
              exact row_keep hT9.mv.row hk12 (fun j e1 e2 => by
                rcases e2 with rfl | rfl
                · exact hT9.off1 (.inr ((own_any A k c 0 0).symm.trans e1 : _))
                · exact hT9.mv.off hT9.r2 (by decide) (by omega) (.inr ((own_any A k c 0 0).symm.trans e1 : _))),
              hT9.bel.trans (hk12.below (fun j e => by rcases e with rfl | rfl <;> omega) hT9.bel.size)⟩
          go_wp2_with fail
          exact bodyPost_row3 rfl (w.heap.size + 1) (w.heap.size + 2) rfl rfl _ rfl 27 38 (mcells X A k c).toArray #[.int .i64 0, .int .i64 nm] _ _ hx1 hb2 Tryd.underlying27 rfl mach_size Tryd.underlying38 rfl event_size rfl (by first | exact hfin | (rw [hfinish]; exact hfin))
      · have hkb : (kd == 0) = false := by rw [beq_eq_false_iff_ne]; exact hkd
        have hfinish := rel_end HR.out.2.2.1 (.inr (.inl hkd))
        go_wp2_with fail
        have hS0 : (fun W' : World => Blk W' w.heap.size 27 (mcells X A k c).toArray ∧ Blk W' g9 38 #[.int .i64 kd, .int .i64 nm]) wr.drew := ⟨HR.out.1.mv.blk, HR.out.2.1⟩
        refine wp_region_held_drew (S := fun W' => Blk W' w.heap.size 27 (mcells X A k c).toArray ∧ Blk W' g9 38 #[.int .i64 kd, .int .i64 nm]) (by kernel_rfl) hS0 (fun hHeld => ?_)
        refine wpAnyH_take (i := 0) (v := .agg (mcells X A k c).toArray) (List.getElem?_toArray.trans (List.getElem?_cons_zero)) (by kernel_rfl) (by kernel_rfl) (by kernel_rfl) (fun _ _ _ h => h) (Or.inl ⟨by rfl, ?_⟩) (by assumption) ?_
        · intro w' hSw; exact load_row_yields 27 (.tmp 4) rfl w.heap.size 0 rfl (mcells X A k c).toArray _ (Blk.cells hSw.1) Tryd.underlying27 rfl mach_size
        try simp only [Act.put, List.setIfInBounds_toArray, List.set_cons_zero, List.set_cons_succ]
        refine wpAnyH_take (i := 1) (v := .agg [Value.int .i64 kd, .int .i64 nm].toArray) (List.getElem?_toArray.trans (List.getElem?_cons_succ.trans (List.getElem?_cons_zero))) (by kernel_rfl) (by kernel_rfl) (by kernel_rfl) (fun _ _ _ h => h) (Or.inl ⟨by rfl, ?_⟩) (by assumption) ?_
        · intro w' hSw; exact load_row_yields 38 (.tmp 9) rfl g9 0 rfl [Value.int .i64 kd, .int .i64 nm].toArray _ (Blk.cells hSw.2) Tryd.underlying38 rfl event_size
        try simp only [Act.put, List.setIfInBounds_toArray, List.set_cons_zero, List.set_cons_succ]
        refine wpAnyH_take (i := 2) (v := ?_) (List.getElem?_toArray.trans (List.getElem?_cons_succ.trans (List.getElem?_cons_succ.trans (List.getElem?_cons_zero)))) (by kernel_rfl) (by kernel_rfl) (by kernel_rfl) (fun _ _ _ h => h) (Or.inl ⟨by rfl, ?_⟩) (by assumption) ?_
        rotate_left
        · intro w' hSw; (try dsimp only at hSw); go_simp; try with_reducible rfl
        try simp only [Act.put, List.setIfInBounds_toArray, List.set_cons_zero, List.set_cons_succ]
        have hT9 : TwoRes w wr.drew X A k c := ⟨HR.out.1.mv.drewN 1, HR.out.1.r1, HR.out.1.r2, HR.out.1.bel.drew⟩
        have hE9 : Blk wr.drew g9 38 #[.int .i64 kd, .int .i64 nm] := HR.out.2.1
        have hgg := H7.out.2.2
        have hrl : X.mem.length = k := hT9.mv.len
        refine wpAnyH_ready (rs := [3]) (by kernel_rfl) (by simp) ?_
        refine AllReadyH.cons (List.getElem?_toArray.trans (List.getElem?_cons_succ.trans (List.getElem?_cons_succ.trans (List.getElem?_cons_succ.trans (List.getElem?_cons_zero))))) (fun K hK => ?_) AllReadyH.nil
        refine wp_store_one 27 (.tmp 6) (.tmp 32) rfl (w.heap.size + 1) (mcells X A k c) rfl rfl 27 (mcells (newM 0) none 0 0) hT9.r1 mach_size rfl (mcells_one _ _ _ _) ?_
        intro v1 hb1 hg1
        have hk1 : Kept (fun j => j = (w.heap.size + 1)) wr.drew v1 := Kept.of_grown hg1 (fun j e => by cases e; exact .inl rfl)
        refine hK.out _ _ ⟨hk1.blk hT9.mv.blk (by omega), hk1.blk hE9 (by omega)⟩ (fun _ => ?_)
        clear hK K
        try simp only [Act.put, List.setIfInBounds_toArray, List.set_cons_zero, List.set_cons_succ]
        refine wpAnyH_ready (rs := [4]) (by kernel_rfl) (by simp) ?_
        refine AllReadyH.cons (List.getElem?_toArray.trans (List.getElem?_cons_succ.trans (List.getElem?_cons_succ.trans (List.getElem?_cons_succ.trans (List.getElem?_cons_succ.trans (List.getElem?_cons_zero)))))) (fun K hK => ?_) AllReadyH.nil
        have hold := hk1.blk hT9.r2 (by omega)
        refine wp_store_one 38 (.tmp 7) (.tmp 33) rfl (w.heap.size + 2) [.int .i64 kd, .int .i64 nm] rfl rfl 38 [.int .i64 0, .int .i64 0] hold event_size rfl (ev_one _ _) ?_
        intro v2 hb2 hg2
        have hk2 : Kept (fun j => j = (w.heap.size + 2)) v1 v2 := Kept.of_grown hg2 (fun j e => by cases e; exact .inl rfl)
        have hk12 := Kept.trans (F := fun j => j = w.heap.size + 1 ∨ j = w.heap.size + 2) ⟨hk1.os, hk1.tape, hk1.output, hk1.size, fun i hi hn => hk1.block i hi (fun e => hn (by omega))⟩ hk2 (fun j e => .inl (by omega))
        have hx1 := hk2.blk hb1 (by omega)
        refine hK.out _ _ ⟨hk12.blk hT9.mv.blk (by omega), hk12.blk hE9 (by omega)⟩ (fun _ => ?_)
        clear hK K
        try simp only [Act.put, List.setIfInBounds_toArray, List.set_cons_zero, List.set_cons_succ]
        refine wpAnyH_ready (rs := [5]) (by kernel_rfl) (by simp) ?_
        refine AllReadyH.cons (List.getElem?_toArray.trans (List.getElem?_cons_succ.trans (List.getElem?_cons_succ.trans (List.getElem?_cons_succ.trans (List.getElem?_cons_succ.trans (List.getElem?_cons_succ.trans (List.getElem?_cons_zero))))))) (fun K hK => ?_) AllReadyH.nil
        go_simp
        refine hK.out _ _ ⟨hk12.blk hT9.mv.blk (by omega), hk12.blk hE9 (by omega)⟩ (fun _ => ?_)
        clear hK K
        try simp only [Act.put, List.setIfInBounds_toArray, List.set_cons_zero, List.set_cons_succ]
        refine wpAnyH_done (by kernel_rfl) ?_ _
        have hfin : RunPost w (X, kd, nm, j) (.returned (.tuple #[.agg (mcells X A k c).toArray, .agg #[.int .i64 kd, .int .i64 nm], .int .i64 (j : Int)])) v2 :=
          ⟨A, c, by rw [hrl]; rfl, by rw [hrl]; exact hc4, by
            rw [hrl]
            exact row_keep hT9.mv.row hk12 (fun j e1 e2 => by
              rcases e2 with rfl | rfl
              · exact hT9.off1 (.inr ((own_any A k c 0 0).symm.trans e1 : _))
              · exact hT9.mv.off hT9.r2 (by decide) (by omega) (.inr ((own_any A k c 0 0).symm.trans e1 : _))),
            hT9.bel.trans (hk12.below (fun j e => by rcases e with rfl | rfl <;> omega) hT9.bel.size)⟩
        go_wp2_with fail
        exact bodyPost_row3 rfl (w.heap.size + 1) (w.heap.size + 2) rfl rfl _ rfl 27 38 (mcells X A k c).toArray #[.int .i64 kd, .int .i64 nm] _ _ hx1 hb2 Tryd.underlying27 rfl mach_size Tryd.underlying38 rfl event_size rfl (by first | exact hfin | (rw [hfinish]; exact hfin))
    · have hsb : (s == 0) = false := by rw [beq_eq_false_iff_ne]; exact hs
      have hfinish := rel_end HR.out.2.2.1 (.inl (by rw [HR.out.2.2.2]; exact hs))
      go_wp2_with fail
      have hS0 : (fun W' : World => Blk W' w.heap.size 27 (mcells X A k c).toArray ∧ Blk W' g9 38 #[.int .i64 kd, .int .i64 nm]) wr.drew := ⟨HR.out.1.mv.blk, HR.out.2.1⟩
      refine wp_region_held_drew (S := fun W' => Blk W' w.heap.size 27 (mcells X A k c).toArray ∧ Blk W' g9 38 #[.int .i64 kd, .int .i64 nm]) (by kernel_rfl) hS0 (fun hHeld => ?_)
      refine wpAnyH_take (i := 0) (v := .agg (mcells X A k c).toArray) (List.getElem?_toArray.trans (List.getElem?_cons_zero)) (by kernel_rfl) (by kernel_rfl) (by kernel_rfl) (fun _ _ _ h => h) (Or.inl ⟨by rfl, ?_⟩) (by assumption) ?_
      · intro w' hSw; exact load_row_yields 27 (.tmp 4) rfl w.heap.size 0 rfl (mcells X A k c).toArray _ (Blk.cells hSw.1) Tryd.underlying27 rfl mach_size
      try simp only [Act.put, List.setIfInBounds_toArray, List.set_cons_zero, List.set_cons_succ]
      refine wpAnyH_take (i := 1) (v := .agg [Value.int .i64 kd, .int .i64 nm].toArray) (List.getElem?_toArray.trans (List.getElem?_cons_succ.trans (List.getElem?_cons_zero))) (by kernel_rfl) (by kernel_rfl) (by kernel_rfl) (fun _ _ _ h => h) (Or.inl ⟨by rfl, ?_⟩) (by assumption) ?_
      · intro w' hSw; exact load_row_yields 38 (.tmp 9) rfl g9 0 rfl [Value.int .i64 kd, .int .i64 nm].toArray _ (Blk.cells hSw.2) Tryd.underlying38 rfl event_size
      try simp only [Act.put, List.setIfInBounds_toArray, List.set_cons_zero, List.set_cons_succ]
      refine wpAnyH_take (i := 2) (v := ?_) (List.getElem?_toArray.trans (List.getElem?_cons_succ.trans (List.getElem?_cons_succ.trans (List.getElem?_cons_zero)))) (by kernel_rfl) (by kernel_rfl) (by kernel_rfl) (fun _ _ _ h => h) (Or.inl ⟨by rfl, ?_⟩) (by assumption) ?_
      rotate_left
      · intro w' hSw; (try dsimp only at hSw); go_simp; try with_reducible rfl
      try simp only [Act.put, List.setIfInBounds_toArray, List.set_cons_zero, List.set_cons_succ]
      have hT9 : TwoRes w wr.drew X A k c := ⟨HR.out.1.mv.drewN 1, HR.out.1.r1, HR.out.1.r2, HR.out.1.bel.drew⟩
      have hE9 : Blk wr.drew g9 38 #[.int .i64 kd, .int .i64 nm] := HR.out.2.1
      have hgg := H7.out.2.2
      have hrl : X.mem.length = k := hT9.mv.len
      refine wpAnyH_ready (rs := [3]) (by kernel_rfl) (by simp) ?_
      refine AllReadyH.cons (List.getElem?_toArray.trans (List.getElem?_cons_succ.trans (List.getElem?_cons_succ.trans (List.getElem?_cons_succ.trans (List.getElem?_cons_zero))))) (fun K hK => ?_) AllReadyH.nil
      refine wp_store_one 27 (.tmp 6) (.tmp 32) rfl (w.heap.size + 1) (mcells X A k c) rfl rfl 27 (mcells (newM 0) none 0 0) hT9.r1 mach_size rfl (mcells_one _ _ _ _) ?_
      intro v1 hb1 hg1
      have hk1 : Kept (fun j => j = (w.heap.size + 1)) wr.drew v1 := Kept.of_grown hg1 (fun j e => by cases e; exact .inl rfl)
      refine hK.out _ _ ⟨hk1.blk hT9.mv.blk (by omega), hk1.blk hE9 (by omega)⟩ (fun _ => ?_)
      clear hK K
      try simp only [Act.put, List.setIfInBounds_toArray, List.set_cons_zero, List.set_cons_succ]
      refine wpAnyH_ready (rs := [4]) (by kernel_rfl) (by simp) ?_
      refine AllReadyH.cons (List.getElem?_toArray.trans (List.getElem?_cons_succ.trans (List.getElem?_cons_succ.trans (List.getElem?_cons_succ.trans (List.getElem?_cons_succ.trans (List.getElem?_cons_zero)))))) (fun K hK => ?_) AllReadyH.nil
      have hold := hk1.blk hT9.r2 (by omega)
      refine wp_store_one 38 (.tmp 7) (.tmp 33) rfl (w.heap.size + 2) [.int .i64 kd, .int .i64 nm] rfl rfl 38 [.int .i64 0, .int .i64 0] hold event_size rfl (ev_one _ _) ?_
      intro v2 hb2 hg2
      have hk2 : Kept (fun j => j = (w.heap.size + 2)) v1 v2 := Kept.of_grown hg2 (fun j e => by cases e; exact .inl rfl)
      have hk12 := Kept.trans (F := fun j => j = w.heap.size + 1 ∨ j = w.heap.size + 2) ⟨hk1.os, hk1.tape, hk1.output, hk1.size, fun i hi hn => hk1.block i hi (fun e => hn (by omega))⟩ hk2 (fun j e => .inl (by omega))
      have hx1 := hk2.blk hb1 (by omega)
      refine hK.out _ _ ⟨hk12.blk hT9.mv.blk (by omega), hk12.blk hE9 (by omega)⟩ (fun _ => ?_)
      clear hK K
      try simp only [Act.put, List.setIfInBounds_toArray, List.set_cons_zero, List.set_cons_succ]
      refine wpAnyH_ready (rs := [5]) (by kernel_rfl) (by simp) ?_
      refine AllReadyH.cons (List.getElem?_toArray.trans (List.getElem?_cons_succ.trans (List.getElem?_cons_succ.trans (List.getElem?_cons_succ.trans (List.getElem?_cons_succ.trans (List.getElem?_cons_succ.trans (List.getElem?_cons_zero))))))) (fun K hK => ?_) AllReadyH.nil
      go_simp
      refine hK.out _ _ ⟨hk12.blk hT9.mv.blk (by omega), hk12.blk hE9 (by omega)⟩ (fun _ => ?_)
      clear hK K
      try simp only [Act.put, List.setIfInBounds_toArray, List.set_cons_zero, List.set_cons_succ]
      refine wpAnyH_done (by kernel_rfl) ?_ _
      have hfin : RunPost w (X, kd, nm, j) (.returned (.tuple #[.agg (mcells X A k c).toArray, .agg #[.int .i64 kd, .int .i64 nm], .int .i64 (j : Int)])) v2 :=
        ⟨A, c, by rw [hrl]; rfl, by rw [hrl]; exact hc4, by
          rw [hrl]
          exact row_keep hT9.mv.row hk12 (fun j e1 e2 => by
            rcases e2 with rfl | rfl
            · exact hT9.off1 (.inr ((own_any A k c 0 0).symm.trans e1 : _))
            · exact hT9.mv.off hT9.r2 (by decide) (by omega) (.inr ((own_any A k c 0 0).symm.trans e1 : _))),
          hT9.bel.trans (hk12.below (fun j e => by rcases e with rfl | rfl <;> omega) hT9.bel.size)⟩
      go_wp2_with fail
      exact bodyPost_row3 rfl (w.heap.size + 1) (w.heap.size + 2) rfl rfl _ rfl 27 38 (mcells X A k c).toArray #[.int .i64 kd, .int .i64 nm] _ _ hx1 hb2 Tryd.underlying27 rfl mach_size Tryd.underlying38 rfl event_size rfl (by first | exact hfin | (rw [hfinish]; exact hfin))
end Go.Proofs.YthgiehlfmdobkaaDoor
