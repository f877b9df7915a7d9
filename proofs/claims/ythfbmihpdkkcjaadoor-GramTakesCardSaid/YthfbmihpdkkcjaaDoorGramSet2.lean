/-
  Package gram's functions between, single and each on sets, by their contracts. Conditions: each theorem's own premises.
-/
import Derived.Test.YthfbmihpdkkcjaaDoorGramSet
namespace Go.Proofs.YthfbmihpdkkcjaaDoor
open Go.RowKit

/-- between on its way: the result's block, under's, s's -/
structure BtwAt (w W : World) (g1 g2 : Nat) (k : Nat) (u p q : S4) : Prop where
  s1 : SetAt W g1 (S4.mix k u p)
  s2 : SetAt W g2 q
  r : SetAt W w.heap.size S4.z
  l1 : w.heap.size < g1
  l2 : g1 < g2
  bel : Below w.heap.size w W
theorem BtwAt.next {w W : World} {g1 g2 k : Nat} {u p q : S4} (h : BtwAt w W g1 g2 k u p q) (hk : k < 4) : BtwAt w (W.drew.setCell ⟨g1, k, none⟩ (.int .u64 (u.w k : Int))) g1 g2 (k + 1) u p q :=
  ⟨SetAt.set h.s1.drew hk, SetAt.far h.s2.drew _ (Nat.ne_of_lt h.l2), SetAt.far h.r.drew _ (Nat.ne_of_gt h.l1), h.l1, h.l2, h.bel.drew.setCell (Nat.le_of_lt h.l1) _⟩
set_option maxRecDepth 100000 in
set_option maxHeartbeats 4000000 in
set_option linter.unusedSimpArgs false in
theorem gsBetween (lo hi : Nat) (hlo : lo < 256) (hhi : hi < 256) (w : World) : Calls Tryd.prog 52 #[.int .u8 (lo : Int), .int .u8 (hi : Int)] w (SetPost w (S4.btw lo hi)) := by
  obtain ⟨h1, eh1⟩ : ∃ h1, hi + 1 = h1 := ⟨_, rfl⟩
  have hhi1 : (hi : Int) + 1 = (h1 : Int) := by omega
  have hb1 := fun W => gsBelow h1 (by omega) W
  have hb2 := fun W => gsBelow lo (by omega) W
  have HB := Lib.hid (And.intro hb1 hb2)
  obtain ⟨U, eU⟩ : ∃ U, S4.btw lo hi = U := ⟨_, rfl⟩
  have HU := Lib.hid (And.intro eU eh1)
  rw [eU]
  clear hb1 hb2 eU eh1
  go_enter Tryd.func52, Tryd.ntmps52
  go_wp2_with (first
    | (refine wpList_alloc (o := ⟨some 4, _, _, _, _, _⟩) rfl 56 rfl _ set_zero ?_; intro w3 hb3 hw3 hz3)
    | (refine wpList_alloc (o := ⟨some 5, _, _, _, _, _⟩) rfl 56 rfl _ set_zero ?_; intro w6 hb6 hw6 hz6)
    | (refine wpList_alloc (o := ⟨some 6, _, _, _, _, _⟩) rfl 56 rfl _ set_zero ?_; intro w7 hb7 hw7 hz7)
    | (with_reducible refine st_store 56 ?_; refine stopped ?_)
    | (go_at_call 60; refine stopped ?_)
    | fail)
  refine go_on ?_
  refine (HB.out.1 _).mono ?_
  rintro e w4 ⟨rfl, hb4⟩
  go_wp2_with (first
    | (refine wpList_alloc (o := ⟨some 5, _, _, _, _, _⟩) rfl 56 rfl _ set_zero ?_; intro w6 hb6 hw6 hz6)
    | (refine wpList_alloc (o := ⟨some 6, _, _, _, _, _⟩) rfl 56 rfl _ set_zero ?_; intro w7 hb7 hw7 hz7)
    | (with_reducible refine st_store 56 ?_; refine stopped ?_)
    | (go_at_call 60; refine stopped ?_)
    | fail)
  refine go_on ?_
  refine (HB.out.2 _).mono ?_
  rintro e w5 ⟨rfl, hb5⟩
  go_wp2_with (first
    | (refine wpList_alloc (o := ⟨some 5, _, _, _, _, _⟩) rfl 56 rfl _ set_zero ?_; intro w6 hb6 hw6 hz6)
    | (refine wpList_alloc (o := ⟨some 6, _, _, _, _, _⟩) rfl 56 rfl _ set_zero ?_; intro w7 hb7 hw7 hz7)
    | (with_reducible refine st_store 56 ?_; refine stopped ?_)
    | fail)
  refine go_on ?_
  rw [hz6] at hb7
  obtain ⟨g1, eg1⟩ : ∃ g1, w5.heap.size = g1 := ⟨_, rfl⟩
  have hl1 : w.heap.size < g1 := by have := hb4.size; have := hb5.size; omega
  rw [eg1] at hb6 hb7 hz6 ⊢
  obtain ⟨g2, eg2⟩ : ∃ g2, g1 + 1 = g2 := ⟨_, rfl⟩
  rw [eg2] at hb7 ⊢
  have hbel5 : Below w.heap.size w w5 := (hw3.trans (hb4.mono (by omega))).trans (hb5.mono (by have := hb4.size; omega))
  have hbel7 : Below w.heap.size w w7 := hbel5.trans ((hw6.mono hbel5.size).trans (hw7.mono (by have := hw6.size; have := hbel5.size; omega)))
  have hr7 : SetAt w7 w.heap.size S4.z := SetAt.below (SetAt.below (SetAt.below (SetAt.below hb3 hb4) hb5) hw6) hw7
  have hs6 : Blk w7 g1 56 S4.z.cells.toArray := Blk.below hb6 hw7 (by omega)
  refine wpList_store_whole rfl 56 (.tmp 5) (.tmp 11) rfl g1 (S4.bel h1).cells rfl rfl 56 S4.z.cells hs6 set_size rfl (set_one _) ?_
  intro w8 hb8 hg8
  simp only [Act.put, List.setIfInBounds_toArray, List.set_cons_zero, List.set_cons_succ]
  refine wpList_store_whole rfl 56 (.tmp 6) (.tmp 14) rfl g2 (S4.bel lo).cells rfl rfl 56 S4.z.cells (Blk.grown hb7 hg8 (some_neq (by omega))) set_size rfl (set_one _) ?_
  intro w9 hb9 hg9
  simp only [Act.put, List.setIfInBounds_toArray, List.set_cons_zero, List.set_cons_succ]
  refine wpList_nil ?_
  have hbel9 : Below w.heap.size w w9 := (hbel7.grown hg8 hbel7.size (fun j e => by cases e; omega)).grown hg9 (by have := hbel7.size; have := hg8.size; omega) (fun j e => by cases e; omega)
  have H0 := Lib.hid (BtwAt.mk (k := 0) (u := U) (p := S4.bel h1) (q := S4.bel lo) (Blk.grown hb8 hg9 (some_neq (by omega))) hb9 (Blk.grown (Blk.grown hr7 hg8 (some_neq (by omega))) hg9 (some_neq (by omega))) hl1 (by omega) hbel9)
  have hl2 : g1 < g2 := by omega
  clear hb3 hw3 hz3 hb4 hb5 hb6 hw6 hz6 hb7 hw7 hz7 hbel5 hbel7 hr7 hs6 hb8 hg8 hb9 hg9 hbel9 eg1 eg2
  go_wp2_with fail
  go_loopw [15] (fun u wz => ∃ k : Nat, k ≤ 4 ∧ u = .int .i64 (k : Int) ∧ BtwAt w wz g1 g2 k U (S4.bel h1) (S4.bel lo)) (fun u _ => 4 - (intOf u).toNat)
  case atStart => exact ⟨0, by omega, rfl, H0.out⟩
  case round =>
    obtain ⟨k, hk, rfl, hu⟩ := hrel
    by_cases hlt : k < 4
    · have hki : (k : Int) < 4 := by omega
      have hk0 : (0 : Int) ≤ (k : Int) := by omega
      have c0 := hu.s1.word k hlt
      rw [S4.w_mix k _ _ hlt] at c0
      have c1 := hu.s2.word k hlt
      have fz : wr.frozen? ⟨g1, k, none⟩ = false := Blk.frozen hu.s1 k
      have hbt := bits_andNot_u64 ((S4.bel h1).w k) ((S4.bel lo).w k) (S4.w_lt (S4.bel_ok _) k) (S4.w_lt (S4.bel_ok _) k)
      rw [← HU.out.2, ← S4.w_btw, HU.out.1, HU.out.2] at hbt
      obtain ⟨x, ex⟩ : ∃ x, (S4.bel h1).w k = x := ⟨_, rfl⟩
      obtain ⟨y, ey⟩ : ∃ x, (S4.bel lo).w k = x := ⟨_, rfl⟩
      obtain ⟨z, ez⟩ : ∃ x, U.w k = x := ⟨_, rfl⟩
      rw [ex] at c0
      rw [ey] at c1
      rw [ex, ey, ez] at hbt
      have HI := Lib.hid hu
      clear hu ex ey
      go_wp2_with fail
      go_region
      go_wp2_with fail
      go_roundw
      case rel => exact ⟨k + 1, by omega, by go_num, by rw [← ez]; exact HI.out.next hlt⟩
      case measure => simp [intOf]; omega
    · obtain rfl : k = 4 := by omega
      have hlt4 : ¬ ((4 : Nat) : Int) < 4 := by omega
      have hrow := hu.s1
      have hres := hu.r
      rw [S4.mix_four] at hrow
      go_wp2_with (first
        | (with_reducible refine st_load 56 ?_; refine stopped ?_)
        | fail)
      refine go_on ?_
      refine wpList_load_at rfl 56 (.tmp 5) rfl g1 0 rfl U.cells.toArray _ (Blk.cells hrow) Tryd.underlying56 rfl set_size ?_
      simp only [Act.put, List.setIfInBounds_toArray, List.set_cons_zero, List.set_cons_succ]
      refine wpList_store_whole rfl 56 (.tmp 4) (.tmp 27) rfl w.heap.size U.cells rfl rfl 56 S4.z.cells hres set_size rfl (set_one _) ?_
      intro w8 hb8 hg8
      refine wpList_nil ?_
      simp only [Act.put, List.setIfInBounds_toArray, List.set_cons_zero, List.set_cons_succ]
      go_wp2_with fail
      refine bodyPost_row rfl w.heap.size rfl 56 _ _ hb8 Tryd.underlying56 rfl set_size rfl ⟨rfl, hu.bel.grown hg8 hu.bel.size (fun j e => by cases e; omega)⟩

set_option maxRecDepth 100000 in
set_option maxHeartbeats 4000000 in
set_option linter.unusedSimpArgs false in
theorem gsSingle (n : Nat) (hn : n < 256) (w : World) : Calls Tryd.prog 40 #[.int .i64 (n : Int)] w (SetPost w (S4.one n)) := by
  obtain ⟨U, eU⟩ : ∃ U, S4.one n = U := ⟨_, rfl⟩
  have hb := fun W => gsBetween n n hn hn W
  have e1 : S4.btw n n = U := by rw [← eU]; unfold S4.one; rw [Nat.mod_eq_of_lt hn]
  rw [e1] at hb
  rw [eU]
  have HB := Lib.hid hb
  clear hb eU e1
  go_enter Tryd.func40, Tryd.ntmps40
  go_wp2_with (first
    | (refine wpList_alloc (o := ⟨some 2, _, _, _, _, _⟩) rfl 56 rfl _ set_zero ?_; intro w3 hb3 hw3 hz3)
    | (with_reducible refine st_store 56 ?_; refine stopped ?_)
    | (go_at_call 52; refine stopped ?_)
    | fail)
  refine go_on ?_
  refine (HB.out _).mono ?_
  rintro e w4 ⟨rfl, hb4⟩
  go_wp2_with (first
    | (with_reducible refine st_store 56 ?_; refine stopped ?_)
    | fail)
  refine go_on ?_
  refine wpList_store_whole rfl 56 (.tmp 2) (.tmp 7) rfl w.heap.size U.cells rfl rfl 56 S4.z.cells (Blk.below hb3 hb4 (by omega)) set_size rfl (set_one _) ?_
  intro w8 hb8 hg8
  refine wpList_nil ?_
  simp only [Act.put, List.setIfInBounds_toArray, List.set_cons_zero, List.set_cons_succ]
  go_wp2_with fail
  refine bodyPost_row rfl w.heap.size rfl 56 _ _ hb8 Tryd.underlying56 rfl set_size rfl ⟨rfl, (hw3.trans (hb4.mono (by omega))).grown hg8 (by have := hb4.size; omega) (fun j e => by cases e; omega)⟩

/-- the truths of a set up to k -/
def blS (s : S4) (k : Nat) : List Value := (List.range 256).map fun i => Value.bool (decide (i < k) && s.has i)
theorem blS_length (s : S4) (k : Nat) : (blS s k).length = 256 := by simp [blS]
theorem blS_one (s : S4) (k : Nat) : ∀ v ∈ blS s k, v.oneCell' = true := by
  intro v hv
  obtain ⟨i, _, rfl⟩ := List.mem_map.1 hv
  rfl
theorem blS_get {s : S4} {k j : Nat} (hj : j < 256) : (blS s k)[j]? = some (.bool (decide (j < k) && s.has j)) := by
  simp [blS, hj]
theorem blS_set {s : S4} {k : Nat} (hk : k < 256) : (blS s k).set k (.bool (s.has k)) = blS s (k + 1) := by
  apply List.ext_getElem?
  intro j
  rw [List.getElem?_set]
  rcases Nat.lt_or_ge j 256 with hj | hj
  · rw [blS_get hj, blS_get hj, blS_length]
    by_cases h : k = j
    · subst h
      simp [hk]
    · simp only [h, if_false]
      congr 2
      by_cases h2 : j < k
      · simp [h2, show j < k + 1 by omega]
      · simp [h2, show ¬ j < k + 1 by omega]
  · rw [if_neg (by omega), List.getElem?_eq_none (by rw [blS_length]; exact hj), List.getElem?_eq_none (by rw [blS_length]; exact hj)]
theorem blS_full (s : S4) : blS s 256 = ((List.range 256).map s.has).map .bool := by
  unfold blS
  rw [List.map_map]
  apply List.map_congr_left
  intro i hi
  simp [List.mem_range.1 hi]
theorem bl_zero : (Tryd.prog.info? 39).map (·.zero) = some (some (.agg (blS S4.z 0).toArray)) := by kernel_rfl
theorem bl_nil (s : S4) : blS s 0 = blS S4.z 0 := by
  unfold blS
  apply List.map_congr_left
  intro i _
  simp
theorem bl_size : (Tryd.prog.info? 39).map (·.size) = some 256 := by kernel_rfl
def EachPost (w : World) (s : S4) (e : Ending) (w' : World) : Prop := e = .returned (.agg (((List.range 256).map s.has).map Value.bool).toArray) ∧ Below w.heap.size w w'
structure EachAt (w W : World) (g2 g3 : Nat) (s : S4) (k : Nat) : Prop where
  s1 : SetAt W w.heap.size s
  b2 : Blk W g2 39 (blS S4.z 0).toArray
  b3 : Blk W g3 39 (blS s k).toArray
  l1 : w.heap.size < g2
  l2 : g2 < g3
  bel : Below w.heap.size w W
theorem EachAt.below {w W W' : World} {g2 g3 : Nat} {s : S4} {k : Nat} (h : EachAt w W g2 g3 s k) (hb : Below W.heap.size W W') : EachAt w W' g2 g3 s k :=
  ⟨h.s1.below hb, h.b2.below hb h.b2.lt, h.b3.below hb h.b3.lt, h.l1, h.l2, h.bel.trans (hb.mono h.bel.size)⟩
theorem EachAt.next {w W : World} {g2 g3 : Nat} {s : S4} {k : Nat} (h : EachAt w W g2 g3 s k) (hk : k < 256) : EachAt w (W.setCell ⟨g3, k, none⟩ (.bool (s.has k))) g2 g3 s (k + 1) :=
  ⟨SetAt.far h.s1 _ (by have := h.l1; have := h.l2; show g3 ≠ w.heap.size; omega), Blk.far h.b2 (p := ⟨g3, k, none⟩) (by have := h.l2; show g2 ≠ g3; omega) _, by
    have := Blk.set_ h.b3 k (.bool (s.has k))
    rw [List.setIfInBounds_toArray, blS_set hk] at this
    exact this, h.l1, h.l2, h.bel.setCell (by have := h.l1; have := h.l2; show w.heap.size ≤ g3; omega) _⟩
set_option maxRecDepth 100000 in
set_option maxHeartbeats 4000000 in
set_option linter.unusedSimpArgs false in
theorem gsEach (s : S4) (hs : s.Ok) (w : World) : Calls Tryd.prog 20 #[.agg s.cells.toArray] w (EachPost w s) := by
  obtain ⟨X, eX⟩ : ∃ X, s.cells.toArray = X := ⟨_, rfl⟩
  have HS := Lib.hid (And.intro hs eX)
  rw [eX]
  clear hs eX
  go_enter Tryd.func20, Tryd.ntmps20
  go_wp2_with (first
    | (refine wpList_box rfl 56 (.tmp 0) rfl X rfl ?_; intro w1 hb1 hw1 hz1)
    | (refine wpList_alloc (o := ⟨some 2, _, _, _, _, _⟩) rfl 39 rfl _ bl_zero ?_; intro w2 hb2 hw2 hz2)
    | (refine wpList_alloc (o := ⟨some 3, _, _, _, _, _⟩) rfl 39 rfl _ bl_zero ?_; intro w3 hb3 hw3 hz3)
    | fail)
  rw [hz1] at hb2
  rw [hz2, hz1] at hb3
  have hr1 : SetAt w3 w.heap.size s := by
    have h : SetAt w1 w.heap.size s := by unfold SetAt; rw [HS.out.2]; exact hb1
    exact (h.below hw2).below hw3
  have hbel3 : Below w.heap.size w w3 := hw1.trans ((hw2.mono (by omega)).trans (hw3.mono (by omega)))
  obtain ⟨g1, eg1⟩ : ∃ g1, w.heap.size + 1 = g1 := ⟨_, rfl⟩
  rw [eg1] at hb2 hb3 ⊢
  obtain ⟨g2, eg2⟩ : ∃ g2, g1 + 1 = g2 := ⟨_, rfl⟩
  rw [eg2] at hb3 ⊢
  rw [← bl_nil s] at hb3
  have H0 := Lib.hid (EachAt.mk (k := 0) hr1 (Blk.below hb2 hw3 (by omega)) hb3 (by omega) (by omega) hbel3)
  have hg1 : w.heap.size < g1 := by omega
  have hg2 : g1 < g2 := by omega
  clear hb1 hw1 hz1 hb2 hw2 hz2 hb3 hw3 hz3 hr1 hbel3 eg1 eg2
  go_loopw [5] (fun u wz => ∃ k : Nat, k ≤ 256 ∧ u = .int .i64 (k : Int) ∧ EachAt w wz g1 g2 s k) (fun u _ => 256 - (intOf u).toNat)
  case atStart => exact ⟨0, by omega, rfl, H0.out⟩
  case round =>
    obtain ⟨k, hk, rfl, hu⟩ := hrel
    by_cases hlt : k < 256
    · have hki : (k : Int) < 256 := by omega
      have hk0 : (0 : Int) ≤ (k : Int) := by omega
      have hh := fun W => gsHas s HS.out.1 k hlt W
      have HI := Lib.hid (And.intro hu hh)
      clear hu hh
      go_wp2_with (first
        | (with_reducible refine st_load 56 ?_; refine stopped ?_)
        | fail)
      refine go_on ?_
      refine wpList_load_at rfl 56 (.tmp 1) rfl w.heap.size 0 rfl s.cells.toArray _ (Blk.cells HI.out.1.s1) Tryd.underlying56 rfl set_size ?_
      simp only [Act.put, List.setIfInBounds_toArray, List.set_cons_zero, List.set_cons_succ]
      go_wp2_with (first
        | (go_at_call 19; refine stopped ?_)
        | fail)
      refine go_on ?_
      refine (HI.out.2 _).mono ?_
      rintro e w4 ⟨rfl, hb4⟩
      have hE := HI.out.1.below hb4
      have c0 : w4.cell? ⟨g2, k, none⟩ = some (.bool (decide (k < k) && s.has k)) := by rw [hE.b3.cell, List.getElem?_toArray]; exact blS_get hlt
      have fz : w4.frozen? ⟨g2, k, none⟩ = false := Blk.frozen hE.b3 k
      obtain ⟨z, ez⟩ : ∃ x, s.has k = x := ⟨_, rfl⟩
      rw [ez] at c0 ⊢
      have HJ := Lib.hid hE
      clear hE hb4
      go_wp2_with fail
      go_roundw
      case rel => exact ⟨k + 1, by omega, by go_num, by rw [← ez]; exact HJ.out.next hlt⟩
      case measure => simp [intOf]; omega
    · obtain rfl : k = 256 := by omega
      have hlt4 : ¬ ((256 : Nat) : Int) < 256 := by omega
      have hrow := hu.b3
      obtain ⟨L, eL⟩ : ∃ L, blS s 256 = L := ⟨_, rfl⟩
      have hsz : L.length = 256 := by rw [← eL]; exact blS_length s 256
      have h1 : ∀ v ∈ L, v.oneCell' = true := by rw [← eL]; exact blS_one s 256
      rw [eL] at hrow
      go_wp2_with (first
        | (with_reducible refine st_load 39 ?_; refine stopped ?_)
        | fail)
      refine go_on ?_
      refine wpList_load_at rfl 39 (.tmp 3) rfl g2 0 rfl L.toArray _ (Blk.cells hrow) Tryd.underlying39 rfl (by rw [List.size_toArray, hsz]; exact bl_size) ?_
      simp only [Act.put, List.setIfInBounds_toArray, List.set_cons_zero, List.set_cons_succ]
      refine wpList_store_whole rfl 39 (.tmp 2) (.tmp 15) rfl g1 L rfl rfl 39 (blS S4.z 0) hu.b2 (by rw [hsz]; exact bl_size) (by rw [hsz]; exact blS_length _ _) h1 ?_
      intro w8 hb8 hg8
      refine wpList_nil ?_
      simp only [Act.put, List.setIfInBounds_toArray, List.set_cons_zero, List.set_cons_succ]
      go_wp2_with fail
      refine bodyPost_row rfl g1 rfl 39 _ _ hb8 Tryd.underlying39 rfl (by rw [List.size_toArray, hsz]; exact bl_size) rfl ⟨by rw [← eL, blS_full], hu.bel.grown hg8 hu.bel.size (fun j e => by cases e; omega)⟩
end Go.Proofs.YthfbmihpdkkcjaaDoor
