/-
  The law PvmBack. Conditions: the theorem's own premises.
-/
import Derived.Test.YthgiehlfmdobkaaDoorPvmLaw3
import Derived.Test.YthgiehlfmdobkaaDoorPvmFnX
namespace Go.Proofs.YthgiehlfmdobkaaDoor
open Go.RowKit

set_option maxRecDepth 100000 in
set_option maxHeartbeats 8000000 in
set_option linter.unusedSimpArgs false in
theorem pvmBack_calls (A : Option Addr) (l : List Ins) (n cp : Nat) (M0 : Mach) (B : Option Addr) (k d : Nat) (x8 : Nat) (hl : l.length = n) (hn : n ≤ 9223372036854775807) (hnc : n ≤ cp) (w : World) (hA : InsAt w A l) (hM : MachAt w M0 B k d) (hk : k ≤ 9223372036854775807) (hx8 : x8 < 256) (hG : HasErr w) :
    Calls Tryd.prog 6 #[.slice A n cp, mv M0 B k d, .int .u8 (x8 : Int)] w fun e w' => e = .returned (.bool true) ∧ Below w.heap.size w w' := by
  have hsh := lawShort A n cp hn hnc
  obtain ⟨p, ep⟩ : ∃ p, min n 130 = p := ⟨_, rfl⟩
  rw [ep] at hsh
  obtain ⟨q, eq⟩ : ∃ q, min k 66 = q := ⟨_, rfl⟩
  have hfw := fewM M0 B k d q eq hk hM.cap
  have hlL : (l.take 130).length = p := by rw [List.length_take, hl, ← ep, Nat.min_comm]
  have hLA := hA.take 130
  obtain ⟨L, eL⟩ : ∃ L, l.take 130 = L := ⟨_, rfl⟩
  rw [eL] at hlL hLA
  have hMA := hM.cut eq
  obtain ⟨M, eM⟩ : ∃ M, cutM M0 66 = M := ⟨_, rfl⟩
  have hmv : ∀ n, mv M0 B n d = mv M B n d := fun n => by rw [← eM]; rfl
  rw [eM] at hMA
  simp only [hmv] at hfw
  have hp : p ≤ 130 := by omega
  have hq : q ≤ 66 := by omega
  have H := Lib.hid (And.intro hlL (And.intro hLA (And.intro hMA (And.intro hsh hfw))))
  rw [hmv]
  clear hl hn hnc hA hM hk hsh ep eq hfw hlL hLA eL hMA eM hmv
  unfold mv
  go_enter Tryd.func6, Tryd.ntmps6
  go_wp2_with fail
  have k0 := Blk.new w 27 (mcells M B k d).toArray
  have hw0 := below_alloc w (.cells (mcells M B k d).toArray 27)
  have ew0 : w.alloc (.cells #[.int .i64 M.p, .int .i64 (M.r 0), .int .i64 (M.r 1), .int .i64 (M.r 2), .int .i64 (M.r 3), .int .i64 (M.r 4), .int .i64 (M.r 5), .int .i64 (M.r 6), .int .i64 (M.r 7), .slice B k d, .int .i64 M.s, .int .i64 M.t] 27) = w.alloc (.cells (mcells M B k d).toArray 27) := rfl
  rw [ew0]
  clear ew0
  obtain ⟨w0, ew0⟩ : ∃ W, w.alloc (.cells (mcells M B k d).toArray 27) = W := ⟨_, rfl⟩
  rw [ew0] at k0 hw0 ⊢
  clear ew0
  obtain ⟨g0, eg0⟩ : ∃ x, w.heap.size = x := ⟨_, rfl⟩
  rw [eg0] at k0 ⊢
  refine wp_region_held_drew (S := fun _ => True) (by kernel_rfl) trivial (fun _ => ?_)
  refine wpAnyH_take (i := 0) (v := ?_) (List.getElem?_toArray.trans (List.getElem?_cons_zero)) (by kernel_rfl) (by kernel_rfl) (by kernel_rfl) (fun _ _ _ h => h) (Or.inl ⟨by rfl, ?_⟩) (by assumption) ?_
  rotate_left
  · intro w' hSw; (try dsimp only at hSw); go_simp; try with_reducible rfl
  try simp only [Act.put, List.setIfInBounds_toArray, List.set_cons_zero, List.set_cons_succ]
  refine wpAnyH_ready (rs := [1, 2]) (by kernel_rfl) (by simp) ?_
  refine AllReadyH.cons (List.getElem?_toArray.trans (List.getElem?_cons_succ.trans (List.getElem?_cons_zero))) (fun K hK => ?_) ?_
  · go_simp
    go_at_call 12
    refine (H.out.2.2.2.1 _).mono ?_
    rintro e w' ⟨rfl, rfl⟩
    refine hK.out _ _ trivial (fun _ => ?_)
    clear hK K
    try simp only [Act.put, List.setIfInBounds_toArray, List.set_cons_zero, List.set_cons_succ]
    refine wpAnyH_ready (rs := [2]) (by kernel_rfl) (by simp) ?_
    refine AllReadyH.cons (List.getElem?_toArray.trans (List.getElem?_cons_succ.trans (List.getElem?_cons_succ.trans (List.getElem?_cons_zero)))) (fun K hK => ?_) AllReadyH.nil
    refine wp_load_one 27 (.tmp 4) rfl g0 rfl (mcells M B k d).toArray _ (Blk.cells (Blk.drewN k0 1)) Tryd.underlying27 rfl mach_size ?_
    refine hK.out _ _ trivial (fun _ => ?_)
    clear hK K
    try simp only [Act.put, List.setIfInBounds_toArray, List.set_cons_zero, List.set_cons_succ]
    refine wpAnyH_ready (rs := [3]) (by kernel_rfl) (by simp) ?_
    refine AllReadyH.cons (List.getElem?_toArray.trans (List.getElem?_cons_succ.trans (List.getElem?_cons_succ.trans (List.getElem?_cons_succ.trans (List.getElem?_cons_zero))))) (fun K hK => ?_) AllReadyH.nil
    go_simp
    go_at_call 13
    refine (H.out.2.2.2.2 _).mono ?_
    rintro e w4 ⟨rfl, hb4⟩
    have k4 : Blk w4 g0 27 (mcells M B k d).toArray := (Blk.drewN k0 1).below hb4 (Blk.drewN k0 1).lt
    refine hK.out _ _ trivial (fun _ => ?_)
    clear hK K
    try simp only [Act.put, List.setIfInBounds_toArray, List.set_cons_zero, List.set_cons_succ]
    refine wpAnyH_ready (rs := [4]) (by kernel_rfl) (by simp) ?_
    refine AllReadyH.cons (List.getElem?_toArray.trans (List.getElem?_cons_succ.trans (List.getElem?_cons_succ.trans (List.getElem?_cons_succ.trans (List.getElem?_cons_succ.trans (List.getElem?_cons_zero)))))) (fun K hK => ?_) AllReadyH.nil
    go_simp
    refine hK.out _ _ trivial (fun _ => ?_)
    clear hK K
    try simp only [Act.put, List.setIfInBounds_toArray, List.set_cons_zero, List.set_cons_succ]
    refine wpAnyH_ready (rs := [5]) (by kernel_rfl) (by simp) ?_
    refine AllReadyH.cons (List.getElem?_toArray.trans (List.getElem?_cons_succ.trans (List.getElem?_cons_succ.trans (List.getElem?_cons_succ.trans (List.getElem?_cons_succ.trans (List.getElem?_cons_succ.trans (List.getElem?_cons_zero))))))) (fun K hK => ?_) AllReadyH.nil
    refine wp_store_one 27 (.tmp 4) (.tmp 18) rfl g0 (mcells M B q d) rfl rfl 27 _ k4 mach_size rfl (mcells_one _ _ _ _) ?_
    intro w6 hb6 hg6
    have hz6 : Below w.heap.size w w6 := by
      have h := hw0.drew.trans (hb4.mono hw0.drew.size)
      exact h.grown hg6 h.size (fun g e => by cases e; exact Nat.le_of_eq eg0)
    refine hK.out _ _ trivial (fun _ => ?_)
    clear hK K
    try simp only [Act.put, List.setIfInBounds_toArray, List.set_cons_zero, List.set_cons_succ]
    refine wpAnyH_done (by kernel_rfl) ?_ _
    have HW := Lib.hid (And.intro hb6 hz6)
    clear hb6 hg6 hz6 hb4 k4
    go_wp2_with (first | (with_reducible refine st_load 27 ?_; refine stopped ?_) | fail)
    refine go_on ?_
    refine wpList_load_at rfl 27 (.tmp 4) rfl g0 0 rfl (mcells M B q d).toArray _ (Blk.cells HW.out.1) Tryd.underlying27 rfl mach_size ?_
    simp only [Act.put, List.setIfInBounds_toArray, List.set_cons_zero, List.set_cons_succ]
    have hmy := pvMay w6 M B q d (H.out.2.2.1.below HW.out.2)
    have HM6 := Lib.hid (H.out.2.2.1.below HW.out.2)
    cases hmm : mayM M
    · rw [hmm] at hmy
      have HMM := Lib.hid hmm
      have HY := Lib.hid hmy
      clear hmy hmm
      go_wp2_with (first
        | (go_at_call 16; refine HY.out.mono ?_; rintro e w7 ⟨rfl, hb7⟩; have HB7 := Lib.hid hb7; clear hb7)
        | (with_reducible refine st_load 27 ?_; refine stopped ?_)
        | fail)
      refine go_on ?_
      refine wpList_load_at rfl 27 (.tmp 4) rfl g0 0 rfl (mcells M B q d).toArray _ (Blk.cells (HW.out.1.below HB7.out HW.out.1.lt)) Tryd.underlying27 rfl mach_size ?_
      simp only [Act.put, List.setIfInBounds_toArray, List.set_cons_zero, List.set_cons_succ]
      have hsv := pvSave w7 M B q d (HM6.out.below HB7.out)
      rw [saveM_no HMM.out] at hsv
      have HSV := Lib.hid hsv
      clear hsv
      have hz7 : Below w.heap.size w w7 := HW.out.2.trans (HB7.out.mono HW.out.2.size)
      have HZ7 := Lib.hid hz7
      clear hz7
      go_wp2_with (first
        | (go_at_call 17; refine HSV.out.mono ?_; rintro e w8 ⟨v8, rfl, hown8, hb8⟩; obtain ⟨A8, c8, rfl, _, _⟩ := hown8.slice; have HB8 := Lib.hid (HZ7.out.trans (hb8.mono HZ7.out.size)); clear hown8 hb8)
        | (go_at_call 11; refine (pvmAwake _ (hG.below HB8.out)).mono ?_; rintro e w9 ⟨rfl, hb9⟩)
        | fail)
      go_ret
      exact ⟨rfl, HB8.out.trans (hb9.mono HB8.out.size)⟩
    · rw [hmm] at hmy
      have HMM := Lib.hid hmm
      have HY := Lib.hid hmy
      clear hmy hmm
      go_wp2_with (first
        | (go_at_call 16; refine HY.out.mono ?_; rintro e w7 ⟨rfl, hb7⟩; have HB7 := Lib.hid hb7; clear hb7)
        | (with_reducible refine st_load 27 ?_; refine stopped ?_)
        | fail)
      refine go_on ?_
      refine wpList_load_at rfl 27 (.tmp 4) rfl g0 0 rfl (mcells M B q d).toArray _ (Blk.cells (HW.out.1.below HB7.out HW.out.1.lt)) Tryd.underlying27 rfl mach_size ?_
      simp only [Act.put, List.setIfInBounds_toArray, List.set_cons_zero, List.set_cons_succ]
      have hsv := pvSave w7 M B q d (HM6.out.below HB7.out)
      have HSV := Lib.hid hsv
      clear hsv
      have hz7 : Below w.heap.size w w7 := HW.out.2.trans (HB7.out.mono HW.out.2.size)
      have HZ7 := Lib.hid hz7
      clear hz7
      go_wp2_with (first
        | (go_at_call 17; refine HSV.out.mono ?_; rintro e w8 ⟨v8, rfl, hown8, hb8⟩; obtain ⟨A8, c8, rfl, hc8, _, hbs8, _⟩ := hown8.slice_cap; have HB8 := Lib.hid (And.intro hbs8 (And.intro hc8 (And.intro hb8 (HZ7.out.trans (hb8.mono HZ7.out.size))))); clear hown8 hb8 hbs8 hc8)
        | (go_at_call 18; refine (pvBack M HM6.out.ok HMM.out A8 _ c8 rfl HB8.out.2.1 w8 HB8.out.1).mono ?_; rintro e w9 ⟨A9, c9, rfl, _, hr9, hb9⟩; rw [HM6.out.len] at hr9 ⊢; unfold mv)
        | (with_reducible refine st_load 27 ?_; refine stopped ?_)
        | fail)
      have k9 := Blk.new w9 27 (mcells M A9 q c9).toArray
      have hb79 : Below w6.heap.size w6 w9 := (HB7.out.trans (HB8.out.2.2.1.mono HB7.out.size)).trans (hb9.mono (HB7.out.trans (HB8.out.2.2.1.mono HB7.out.size)).size)
      have kg := (HW.out.1.below hb79 HW.out.1.lt).alloc (.cells (mcells M A9 q c9).toArray 27)
      have hr10 := row_alloc hr9 (.cells (mcells M A9 q c9).toArray 27)
      have hb10 : Below w6.heap.size w6 (w9.alloc (.cells (mcells M A9 q c9).toArray 27)) := hb79.alloc hb79.size _
      have ew10' : w9.alloc (.cells #[.int .i64 M.p, .int .i64 (M.r 0), .int .i64 (M.r 1), .int .i64 (M.r 2), .int .i64 (M.r 3), .int .i64 (M.r 4), .int .i64 (M.r 5), .int .i64 (M.r 6), .int .i64 (M.r 7), .slice A9 q c9, .int .i64 M.s, .int .i64 M.t] 27) = w9.alloc (.cells (mcells M A9 q c9).toArray 27) := rfl
      rw [ew10']
      clear ew10'
      obtain ⟨w10, ew10⟩ : ∃ W, w9.alloc (.cells (mcells M A9 q c9).toArray 27) = W := ⟨_, rfl⟩
      rw [ew10] at k9 kg hr10 hb10 ⊢
      obtain ⟨gx, egx⟩ : ∃ x, w9.heap.size = x := ⟨_, rfl⟩
      rw [egx] at k9 ⊢
      have hmB := HM6.out.below hb10
      have hmX := machAt_q hr10 HM6.out.len HM6.out.ok
      have HXm := Lib.hid (And.intro k9 (And.intro kg (And.intro hmB (And.intro hmX (HW.out.2.trans (hb10.mono HW.out.2.size))))))
      have HTo := Lib.hid (fun W (h : Below w10.heap.size w10 W) => told M B q d HM6.out.len (by omega) W (HXm.out.2.2.1.below h).vs)
      have HIs := Lib.hid (fun W A' c' (h : Below w10.heap.size w10 W) (hm : MachAt W M A' q c') => isSame M A9 A' q c9 c' HM6.out.len (by omega) W (HXm.out.2.2.2.1.below h).vs hm.vs)
      have hS0 : Below w10.heap.size w10 w10.drew := (Below.refl _ _).drew
      clear k9 kg hr10 hb10 ew10 egx hmB hmX hr9 hb9 hb79
      refine wp_region_held_drew (S := fun w' => Below w10.heap.size w10 w') (by kernel_rfl) hS0 (fun hHeld => ?_)
      refine wpAnyH_take (i := 0) (v := ?_) (List.getElem?_toArray.trans (List.getElem?_cons_zero)) (by kernel_rfl) (by kernel_rfl) (by kernel_rfl) (fun _ _ _ h => h) (Or.inl ⟨by rfl, ?_⟩) (by assumption) ?_
      rotate_left
      · intro w' hSw; (try dsimp only at hSw); go_simp; try with_reducible rfl
      try simp only [Act.put, List.setIfInBounds_toArray, List.set_cons_zero, List.set_cons_succ]
      refine wpAnyH_take (i := 1) (v := ?_) (List.getElem?_toArray.trans (List.getElem?_cons_succ.trans (List.getElem?_cons_zero))) (by kernel_rfl) (by kernel_rfl) (by kernel_rfl) (fun _ _ _ h => h) (Or.inl ⟨by rfl, ?_⟩) (by assumption) ?_
      rotate_left
      · intro w' hSw; (try dsimp only at hSw); go_simp; try with_reducible rfl
      try simp only [Act.put, List.setIfInBounds_toArray, List.set_cons_zero, List.set_cons_succ]
      refine wpAnyH_take (i := 2) (v := ?_) (List.getElem?_toArray.trans (List.getElem?_cons_succ.trans (List.getElem?_cons_succ.trans (List.getElem?_cons_zero)))) (by kernel_rfl) (by kernel_rfl) (by kernel_rfl) (fun _ _ _ h => h) (Or.inl ⟨by rfl, ?_⟩) (by assumption) ?_
      rotate_left
      · intro w' hSw; (try dsimp only at hSw); go_simp; try with_reducible rfl
      try simp only [Act.put, List.setIfInBounds_toArray, List.set_cons_zero, List.set_cons_succ]
      refine wpAnyH_take (i := 3) (v := .agg (mcells M A9 q c9).toArray) (List.getElem?_toArray.trans (List.getElem?_cons_succ.trans (List.getElem?_cons_succ.trans (List.getElem?_cons_succ.trans (List.getElem?_cons_zero))))) (by kernel_rfl) (by kernel_rfl) (by kernel_rfl) (fun _ _ _ h => h) (Or.inl ⟨by rfl, ?_⟩) (by assumption) ?_
      · intro w' hSw; exact load_row_yields 27 (.tmp 7) rfl gx 0 rfl (mcells M A9 q c9).toArray _ (Blk.cells (HXm.out.1.below hSw HXm.out.1.lt)) Tryd.underlying27 rfl mach_size
      try simp only [Act.put, List.setIfInBounds_toArray, List.set_cons_zero, List.set_cons_succ]
      refine wpAnyH_take (i := 4) (v := .agg (mcells M B q d).toArray) (List.getElem?_toArray.trans (List.getElem?_cons_succ.trans (List.getElem?_cons_succ.trans (List.getElem?_cons_succ.trans (List.getElem?_cons_succ.trans (List.getElem?_cons_zero)))))) (by kernel_rfl) (by kernel_rfl) (by kernel_rfl) (fun _ _ _ h => h) (Or.inl ⟨by rfl, ?_⟩) (by assumption) ?_
      · intro w' hSw; exact load_row_yields 27 (.tmp 4) rfl g0 0 rfl (mcells M B q d).toArray _ (Blk.cells (HXm.out.2.1.below hSw HXm.out.2.1.lt)) Tryd.underlying27 rfl mach_size
      try simp only [Act.put, List.setIfInBounds_toArray, List.set_cons_zero, List.set_cons_succ]
      refine wpAnyH_ready (rs := [5]) (by kernel_rfl) (by simp) ?_
      refine AllReadyH.cons (List.getElem?_toArray.trans (List.getElem?_cons_succ.trans (List.getElem?_cons_succ.trans (List.getElem?_cons_succ.trans (List.getElem?_cons_succ.trans (List.getElem?_cons_succ.trans (List.getElem?_cons_zero))))))) (fun K hK => ?_) AllReadyH.nil
      go_simp
      go_at_call 19
      refine (HTo.out _ hS0).mono ?_
      rintro e w11 ⟨A11, c11, rfl, hr11, hb11⟩
      rw [HM6.out.len] at hr11 ⊢
      have hS11 : Below w10.heap.size w10 w11 := hS0.trans (hb11.mono hS0.size)
      refine hK.out _ _ hS11 (fun hHeld => ?_)
      clear hK K
      try simp only [Act.put, List.setIfInBounds_toArray, List.set_cons_zero, List.set_cons_succ]
      refine wpAnyH_ready (rs := [6]) (by kernel_rfl) (by simp) ?_
      refine AllReadyH.cons (List.getElem?_toArray.trans (List.getElem?_cons_succ.trans (List.getElem?_cons_succ.trans (List.getElem?_cons_succ.trans (List.getElem?_cons_succ.trans (List.getElem?_cons_succ.trans (List.getElem?_cons_succ.trans (List.getElem?_cons_zero)))))))) (fun K hK => ?_) AllReadyH.nil
      go_simp
      go_at_call 8
      refine (HIs.out _ _ _ hS11 (machAt_q hr11 HM6.out.len HM6.out.ok)).mono ?_
      rintro e w12 ⟨rfl, hb12⟩
      have hS12 : Below w10.heap.size w10 w12 := hS11.trans (hb12.mono hS11.size)
      refine hK.out _ _ hS12 (fun hHeld => ?_)
      clear hK K
      try simp only [Act.put, List.setIfInBounds_toArray, List.set_cons_zero, List.set_cons_succ]
      refine wpAnyH_take (i := 7) (v := ?_) (List.getElem?_toArray.trans (List.getElem?_cons_succ.trans (List.getElem?_cons_succ.trans (List.getElem?_cons_succ.trans (List.getElem?_cons_succ.trans (List.getElem?_cons_succ.trans (List.getElem?_cons_succ.trans (List.getElem?_cons_succ.trans (List.getElem?_cons_zero))))))))) (by kernel_rfl) (by kernel_rfl) (by kernel_rfl) (fun _ _ _ h => h) (Or.inl ⟨by rfl, ?_⟩) (by assumption) ?_
      rotate_left
      · intro w' hSw; (try dsimp only at hSw); go_simp; try with_reducible rfl
      try simp only [Act.put, List.setIfInBounds_toArray, List.set_cons_zero, List.set_cons_succ]
      refine wpAnyH_take (i := 8) (v := ?_) (List.getElem?_toArray.trans (List.getElem?_cons_succ.trans (List.getElem?_cons_succ.trans (List.getElem?_cons_succ.trans (List.getElem?_cons_succ.trans (List.getElem?_cons_succ.trans (List.getElem?_cons_succ.trans (List.getElem?_cons_succ.trans (List.getElem?_cons_succ.trans (List.getElem?_cons_zero)))))))))) (by kernel_rfl) (by kernel_rfl) (by kernel_rfl) (fun _ _ _ h => h) (Or.inl ⟨by rfl, ?_⟩) (by assumption) ?_
      rotate_left
      · intro w' hSw; (try dsimp only at hSw); go_simp; try with_reducible rfl
      try simp only [Act.put, List.setIfInBounds_toArray, List.set_cons_zero, List.set_cons_succ]
      refine wpAnyH_done (by kernel_rfl) ?_ _
      have HS12 := Lib.hid hS12
      clear hS0 hHeld hb11 hS11 hr11 hb12 hS12
      have hrun1 := fun W (h : Below w10.heap.size w10 W) => pvRun A L p cp H.out.1 (by omega) W (H.out.2.1.below (HXm.out.2.2.2.2.trans (h.mono HXm.out.2.2.2.2.size))) (hG.below (HXm.out.2.2.2.2.trans (h.mono HXm.out.2.2.2.2.size))) M B q d (HXm.out.2.2.1.below h) (by omega) (x8 : Int) ⟨by omega, by omega⟩
      have hrun2 := fun W (h : Below w10.heap.size w10 W) => pvRun A L p cp H.out.1 (by omega) W (H.out.2.1.below (HXm.out.2.2.2.2.trans (h.mono HXm.out.2.2.2.2.size))) (hG.below (HXm.out.2.2.2.2.trans (h.mono HXm.out.2.2.2.2.size))) M A9 q c9 (HXm.out.2.2.2.1.below h) (by omega) (x8 : Int) ⟨by omega, by omega⟩
      have hXok := runM_ok (l := L) H.out.2.1.ok (by rw [H.out.1]; omega) (x8 : Int).toNat HM6.out.ok
      obtain ⟨X, kd, nm, cn, eX⟩ : ∃ X kd nm cn, runM L (x8 : Int).toNat M = (X, kd, nm, cn) := ⟨_, _, _, _, rfl⟩
      have hXl := runM_len L (x8 : Int).toNat M
      rw [eX] at hrun1 hrun2 hXok hXl
      have hXq : X.mem.length = q := hXl.trans HM6.out.len
      have HR12 := Lib.hid (And.intro hrun1 (And.intro hrun2 (And.intro hXok hXq)))
      clear hrun1 hrun2 hXok eX hXl hXq
      go_wp2_with (first | (with_reducible refine st_load 27 ?_; refine stopped ?_) | fail)
      refine go_on ?_
      refine wpList_load_at rfl 27 (.tmp 4) rfl g0 0 rfl (mcells M B q d).toArray _ (Blk.cells (HXm.out.2.1.below HS12.out HXm.out.2.1.lt)) Tryd.underlying27 rfl mach_size ?_
      simp only [Act.put, List.setIfInBounds_toArray, List.set_cons_zero, List.set_cons_succ]
      go_wp2_with (first
        | (go_at_call 20; refine (HR12.out.1 _ HS12.out).mono ?_; rintro e w13 ⟨A13, c13, rfl, _, hr13, hb13⟩; dsimp only at hr13 ⊢; rw [HR12.out.2.2.2] at hr13 ⊢; unfold mv ev)
        | (with_reducible refine st_load 27 ?_; refine stopped ?_)
        | fail)
      have ka13 := (Blk.new w13 27 (mcells X A13 q c13).toArray).alloc (.cells #[.int .i64 kd, .int .i64 nm] 38)
      have kf13 := blk2 w13 (.cells (mcells X A13 q c13).toArray 27) 38 #[.int .i64 kd, .int .i64 nm]
      have hrr13 := row_alloc (row_alloc hr13 (.cells (mcells X A13 q c13).toArray 27)) (.cells #[.int .i64 kd, .int .i64 nm] 38)
      have hbb13 : Below w10.heap.size w10 ((w13.alloc (.cells (mcells X A13 q c13).toArray 27)).alloc (.cells #[.int .i64 kd, .int .i64 nm] 38)) := by
        have h := (HS12.out).trans (hb13.mono (HS12.out).size)
        exact (h.alloc h.size _).alloc (by rw [size_alloc1]; exact Nat.le_succ_of_le h.size) _
      have hpp13 : Below w13.heap.size w13 ((w13.alloc (.cells (mcells X A13 q c13).toArray 27)).alloc (.cells #[.int .i64 kd, .int .i64 nm] 38)) := below2 _ _ _
      have ew13' : (w13.alloc (.cells #[.int .i64 X.p, .int .i64 (X.r 0), .int .i64 (X.r 1), .int .i64 (X.r 2), .int .i64 (X.r 3), .int .i64 (X.r 4), .int .i64 (X.r 5), .int .i64 (X.r 6), .int .i64 (X.r 7), .slice A13 q c13, .int .i64 X.s, .int .i64 X.t] 27)).alloc (.cells #[.int .i64 kd, .int .i64 nm] 38) = (w13.alloc (.cells (mcells X A13 q c13).toArray 27)).alloc (.cells #[.int .i64 kd, .int .i64 nm] 38) := rfl
      try rw [ew13']
      clear ew13'
      obtain ⟨w14, eW13⟩ : ∃ W, (w13.alloc (.cells (mcells X A13 q c13).toArray 27)).alloc (.cells #[.int .i64 kd, .int .i64 nm] 38) = W := ⟨_, rfl⟩
      rw [eW13] at ka13 kf13 hrr13 hbb13 hpp13 ⊢
      obtain ⟨ga, eg13⟩ : ∃ x, w13.heap.size = x := ⟨_, rfl⟩
      have hpp13' := hpp13
      rw [eg13] at ka13 kf13 ⊢
      obtain ⟨gf, eh13⟩ : ∃ x, ga + 1 = x := ⟨_, rfl⟩
      rw [eh13] at kf13 ⊢
      have HA14 := Lib.hid (And.intro ka13 (And.intro kf13 (And.intro (machAt_q hrr13 HR12.out.2.2.2 HR12.out.2.2.1) hbb13)))
      clear ka13 kf13 hrr13 hbb13 hpp13 hpp13' eW13 eg13 eh13 hr13 hb13
      refine go_on ?_
      refine wpList_load_at rfl 27 (.tmp 7) rfl gx 0 rfl (mcells M A9 q c9).toArray _ (Blk.cells (HXm.out.1.below HA14.out.2.2.2 HXm.out.1.lt)) Tryd.underlying27 rfl mach_size ?_
      simp only [Act.put, List.setIfInBounds_toArray, List.set_cons_zero, List.set_cons_succ]
      go_wp2_with (first
        | (go_at_call 20; refine (HR12.out.2.1 _ HA14.out.2.2.2).mono ?_; rintro e w15 ⟨A15, c15, rfl, _, hr15, hb15⟩; dsimp only at hr15 ⊢; rw [HR12.out.2.2.2] at hr15 ⊢; have HP15 := Lib.hid hb15; unfold mv ev)
        | fail)
      have ka15 := (Blk.new w15 27 (mcells X A15 q c15).toArray).alloc (.cells #[.int .i64 kd, .int .i64 nm] 38)
      have kf15 := blk2 w15 (.cells (mcells X A15 q c15).toArray 27) 38 #[.int .i64 kd, .int .i64 nm]
      have hrr15 := row_alloc (row_alloc hr15 (.cells (mcells X A15 q c15).toArray 27)) (.cells #[.int .i64 kd, .int .i64 nm] 38)
      have hbb15 : Below w10.heap.size w10 ((w15.alloc (.cells (mcells X A15 q c15).toArray 27)).alloc (.cells #[.int .i64 kd, .int .i64 nm] 38)) := by
        have h := (HA14.out.2.2.2).trans (hb15.mono (HA14.out.2.2.2).size)
        exact (h.alloc h.size _).alloc (by rw [size_alloc1]; exact Nat.le_succ_of_le h.size) _
      have hpp15 : Below w15.heap.size w15 ((w15.alloc (.cells (mcells X A15 q c15).toArray 27)).alloc (.cells #[.int .i64 kd, .int .i64 nm] 38)) := below2 _ _ _
      have ew15' : (w15.alloc (.cells #[.int .i64 X.p, .int .i64 (X.r 0), .int .i64 (X.r 1), .int .i64 (X.r 2), .int .i64 (X.r 3), .int .i64 (X.r 4), .int .i64 (X.r 5), .int .i64 (X.r 6), .int .i64 (X.r 7), .slice A15 q c15, .int .i64 X.s, .int .i64 X.t] 27)).alloc (.cells #[.int .i64 kd, .int .i64 nm] 38) = (w15.alloc (.cells (mcells X A15 q c15).toArray 27)).alloc (.cells #[.int .i64 kd, .int .i64 nm] 38) := rfl
      try rw [ew15']
      clear ew15'
      obtain ⟨w16, eW15⟩ : ∃ W, (w15.alloc (.cells (mcells X A15 q c15).toArray 27)).alloc (.cells #[.int .i64 kd, .int .i64 nm] 38) = W := ⟨_, rfl⟩
      rw [eW15] at ka15 kf15 hrr15 hbb15 hpp15 ⊢
      obtain ⟨gb, eg15⟩ : ∃ x, w15.heap.size = x := ⟨_, rfl⟩
      have hpp15' := hpp15
      rw [eg15] at ka15 kf15 ⊢
      obtain ⟨gg, eh15⟩ : ∃ x, gb + 1 = x := ⟨_, rfl⟩
      rw [eh15] at kf15 ⊢
      have hx16 := HP15.out.trans (hpp15'.mono HP15.out.size)
      have HA16 := Lib.hid (And.intro ka15 (And.intro kf15 (And.intro (machAt_q hrr15 HR12.out.2.2.2 HR12.out.2.2.1) (And.intro hbb15 (And.intro (HA14.out.1.below hx16 HA14.out.1.lt) (And.intro (HA14.out.2.1.below hx16 HA14.out.2.1.lt) (HA14.out.2.2.1.below hx16)))))))
      clear ka15 kf15 hrr15 hbb15 hpp15 hpp15' eW15 eg15 eh15 hr15 hb15 hx16
      have HTx := Lib.hid (fun W (h : Below w16.heap.size w16 W) => told X A15 q c15 HR12.out.2.2.2 (by omega) W (HA16.out.2.2.1.below h).vs)
      have HIx := Lib.hid (fun W A' c' (h : Below w16.heap.size w16 W) (hm : MachAt W X A' q c') => isSame X A13 A' q c13 c' HR12.out.2.2.2 (by omega) W (HA16.out.2.2.2.2.2.2.below h).vs hm.vs)
      have hT0 : Below w16.heap.size w16 w16.drew := (Below.refl _ _).drew
      refine wp_region_held_drew (S := fun w' => Below w16.heap.size w16 w') (by kernel_rfl) hT0 (fun hHeld => ?_)
      refine wpAnyH_take (i := 0) (v := .agg (mcells X A13 q c13).toArray) (List.getElem?_toArray.trans (List.getElem?_cons_zero)) (by kernel_rfl) (by kernel_rfl) (by kernel_rfl) (fun _ _ _ h => h) (Or.inl ⟨by rfl, ?_⟩) (by assumption) ?_
      · intro w' hSw; exact load_row_yields 27 (.tmp 9) rfl ga 0 rfl (mcells X A13 q c13).toArray _ (Blk.cells (HA16.out.2.2.2.2.1.below hSw HA16.out.2.2.2.2.1.lt)) Tryd.underlying27 rfl mach_size
      try simp only [Act.put, List.setIfInBounds_toArray, List.set_cons_zero, List.set_cons_succ]
      refine wpAnyH_take (i := 1) (v := .agg (mcells X A15 q c15).toArray) (List.getElem?_toArray.trans (List.getElem?_cons_succ.trans (List.getElem?_cons_zero))) (by kernel_rfl) (by kernel_rfl) (by kernel_rfl) (fun _ _ _ h => h) (Or.inl ⟨by rfl, ?_⟩) (by assumption) ?_
      · intro w' hSw; exact load_row_yields 27 (.tmp 12) rfl gb 0 rfl (mcells X A15 q c15).toArray _ (Blk.cells (HA16.out.1.below hSw HA16.out.1.lt)) Tryd.underlying27 rfl mach_size
      try simp only [Act.put, List.setIfInBounds_toArray, List.set_cons_zero, List.set_cons_succ]
      refine wpAnyH_ready (rs := [2]) (by kernel_rfl) (by simp) ?_
      refine AllReadyH.cons (List.getElem?_toArray.trans (List.getElem?_cons_succ.trans (List.getElem?_cons_succ.trans (List.getElem?_cons_zero)))) (fun K hK => ?_) AllReadyH.nil
      go_simp
      go_at_call 19
      refine (HTx.out _ hT0).mono ?_
      rintro e w17 ⟨A17, c17, rfl, hr17, hb17⟩
      rw [HR12.out.2.2.2] at hr17 ⊢
      have hT17 : Below w16.heap.size w16 w17 := hT0.trans (hb17.mono hT0.size)
      refine hK.out _ _ hT17 (fun hHeld => ?_)
      clear hK K
      try simp only [Act.put, List.setIfInBounds_toArray, List.set_cons_zero, List.set_cons_succ]
      refine wpAnyH_ready (rs := [3]) (by kernel_rfl) (by simp) ?_
      refine AllReadyH.cons (List.getElem?_toArray.trans (List.getElem?_cons_succ.trans (List.getElem?_cons_succ.trans (List.getElem?_cons_succ.trans (List.getElem?_cons_zero))))) (fun K hK => ?_) AllReadyH.nil
      go_simp
      go_at_call 8
      refine (HIx.out _ _ _ hT17 (machAt_q hr17 HR12.out.2.2.2 HR12.out.2.2.1)).mono ?_
      rintro e w18 ⟨rfl, hb18⟩
      have hT18 : Below w16.heap.size w16 w18 := hT17.trans (hb18.mono hT17.size)
      refine hK.out _ _ hT18 (fun hHeld => ?_)
      clear hK K
      try simp only [Act.put, List.setIfInBounds_toArray, List.set_cons_zero, List.set_cons_succ]
      refine wpAnyH_take (i := 4) (v := ?_) (List.getElem?_toArray.trans (List.getElem?_cons_succ.trans (List.getElem?_cons_succ.trans (List.getElem?_cons_succ.trans (List.getElem?_cons_succ.trans (List.getElem?_cons_zero)))))) (by kernel_rfl) (by kernel_rfl) (by kernel_rfl) (fun _ _ _ h => h) (Or.inl ⟨by rfl, ?_⟩) (by assumption) ?_
      rotate_left
      · intro w' hSw; (try dsimp only at hSw); go_simp; try with_reducible rfl
      try simp only [Act.put, List.setIfInBounds_toArray, List.set_cons_zero, List.set_cons_succ]
      refine wpAnyH_take (i := 5) (v := .agg #[.int .i64 kd, .int .i64 nm]) (List.getElem?_toArray.trans (List.getElem?_cons_succ.trans (List.getElem?_cons_succ.trans (List.getElem?_cons_succ.trans (List.getElem?_cons_succ.trans (List.getElem?_cons_succ.trans (List.getElem?_cons_zero))))))) (by kernel_rfl) (by kernel_rfl) (by kernel_rfl) (fun _ _ _ h => h) (Or.inl ⟨by rfl, ?_⟩) (by assumption) ?_
      · intro w' hSw; exact load_row_yields 38 (.tmp 10) rfl gf 0 rfl #[.int .i64 kd, .int .i64 nm] _ (Blk.cells (HA16.out.2.2.2.2.2.1.below hSw HA16.out.2.2.2.2.2.1.lt)) Tryd.underlying38 rfl event_size
      try simp only [Act.put, List.setIfInBounds_toArray, List.set_cons_zero, List.set_cons_succ]
      refine wpAnyH_take (i := 6) (v := .agg #[.int .i64 kd, .int .i64 nm]) (List.getElem?_toArray.trans (List.getElem?_cons_succ.trans (List.getElem?_cons_succ.trans (List.getElem?_cons_succ.trans (List.getElem?_cons_succ.trans (List.getElem?_cons_succ.trans (List.getElem?_cons_succ.trans (List.getElem?_cons_zero)))))))) (by kernel_rfl) (by kernel_rfl) (by kernel_rfl) (fun _ _ _ h => h) (Or.inl ⟨by rfl, ?_⟩) (by assumption) ?_
      · intro w' hSw; exact load_row_yields 38 (.tmp 13) rfl gg 0 rfl #[.int .i64 kd, .int .i64 nm] _ (Blk.cells (HA16.out.2.1.below hSw HA16.out.2.1.lt)) Tryd.underlying38 rfl event_size
      try simp only [Act.put, List.setIfInBounds_toArray, List.set_cons_zero, List.set_cons_succ]
      refine wpAnyH_take (i := 7) (v := ?_) (List.getElem?_toArray.trans (List.getElem?_cons_succ.trans (List.getElem?_cons_succ.trans (List.getElem?_cons_succ.trans (List.getElem?_cons_succ.trans (List.getElem?_cons_succ.trans (List.getElem?_cons_succ.trans (List.getElem?_cons_succ.trans (List.getElem?_cons_zero))))))))) (by kernel_rfl) (by kernel_rfl) (by kernel_rfl) (fun _ _ _ h => h) (Or.inl ⟨by rfl, ?_⟩) (by assumption) ?_
      rotate_left
      · intro w' hSw; (try dsimp only at hSw); go_simp; try with_reducible rfl
      try simp only [Act.put, List.setIfInBounds_toArray, List.set_cons_zero, List.set_cons_succ]
      refine wpAnyH_take (i := 8) (v := ?_) (List.getElem?_toArray.trans (List.getElem?_cons_succ.trans (List.getElem?_cons_succ.trans (List.getElem?_cons_succ.trans (List.getElem?_cons_succ.trans (List.getElem?_cons_succ.trans (List.getElem?_cons_succ.trans (List.getElem?_cons_succ.trans (List.getElem?_cons_succ.trans (List.getElem?_cons_zero)))))))))) (by kernel_rfl) (by kernel_rfl) (by kernel_rfl) (fun _ _ _ h => h) (Or.inl ⟨by rfl, ?_⟩) (by assumption) ?_
      rotate_left
      · intro w' hSw; (try dsimp only at hSw); go_simp; try with_reducible rfl
      try simp only [Act.put, List.setIfInBounds_toArray, List.set_cons_zero, List.set_cons_succ]
      refine wpAnyH_take (i := 9) (v := ?_) (List.getElem?_toArray.trans (List.getElem?_cons_succ.trans (List.getElem?_cons_succ.trans (List.getElem?_cons_succ.trans (List.getElem?_cons_succ.trans (List.getElem?_cons_succ.trans (List.getElem?_cons_succ.trans (List.getElem?_cons_succ.trans (List.getElem?_cons_succ.trans (List.getElem?_cons_succ.trans (List.getElem?_cons_zero))))))))))) (by kernel_rfl) (by kernel_rfl) (by kernel_rfl) (fun _ _ _ h => h) (Or.inl ⟨by rfl, ?_⟩) (by assumption) ?_
      rotate_left
      · intro w' hSw; (try dsimp only at hSw); go_simp; try with_reducible rfl
      try simp only [Act.put, List.setIfInBounds_toArray, List.set_cons_zero, List.set_cons_succ]
      refine wpAnyH_take (i := 10) (v := ?_) (List.getElem?_toArray.trans (List.getElem?_cons_succ.trans (List.getElem?_cons_succ.trans (List.getElem?_cons_succ.trans (List.getElem?_cons_succ.trans (List.getElem?_cons_succ.trans (List.getElem?_cons_succ.trans (List.getElem?_cons_succ.trans (List.getElem?_cons_succ.trans (List.getElem?_cons_succ.trans (List.getElem?_cons_succ.trans (List.getElem?_cons_zero)))))))))))) (by kernel_rfl) (by kernel_rfl) (by kernel_rfl) (fun _ _ _ h => h) (Or.inl ⟨by rfl, ?_⟩) (by assumption) ?_
      rotate_left
      · intro w' hSw; (try dsimp only at hSw); go_simp; try with_reducible rfl
      try simp only [Act.put, List.setIfInBounds_toArray, List.set_cons_zero, List.set_cons_succ]
      refine wpAnyH_take (i := 11) (v := ?_) (List.getElem?_toArray.trans (List.getElem?_cons_succ.trans (List.getElem?_cons_succ.trans (List.getElem?_cons_succ.trans (List.getElem?_cons_succ.trans (List.getElem?_cons_succ.trans (List.getElem?_cons_succ.trans (List.getElem?_cons_succ.trans (List.getElem?_cons_succ.trans (List.getElem?_cons_succ.trans (List.getElem?_cons_succ.trans (List.getElem?_cons_succ.trans (List.getElem?_cons_zero))))))))))))) (by kernel_rfl) (by kernel_rfl) (by kernel_rfl) (fun _ _ _ h => h) (Or.inl ⟨by rfl, ?_⟩) (by assumption) ?_
      rotate_left
      · intro w' hSw; (try dsimp only at hSw); go_simp; try with_reducible rfl
      try simp only [Act.put, List.setIfInBounds_toArray, List.set_cons_zero, List.set_cons_succ]
      refine wpAnyH_take (i := 12) (v := ?_) (List.getElem?_toArray.trans (List.getElem?_cons_succ.trans (List.getElem?_cons_succ.trans (List.getElem?_cons_succ.trans (List.getElem?_cons_succ.trans (List.getElem?_cons_succ.trans (List.getElem?_cons_succ.trans (List.getElem?_cons_succ.trans (List.getElem?_cons_succ.trans (List.getElem?_cons_succ.trans (List.getElem?_cons_succ.trans (List.getElem?_cons_succ.trans (List.getElem?_cons_succ.trans (List.getElem?_cons_zero)))))))))))))) (by kernel_rfl) (by kernel_rfl) (by kernel_rfl) (fun _ _ _ h => h) (Or.inl ⟨by rfl, ?_⟩) (by assumption) ?_
      rotate_left
      · intro w' hSw; (try dsimp only at hSw); go_simp; try with_reducible rfl
      try simp only [Act.put, List.setIfInBounds_toArray, List.set_cons_zero, List.set_cons_succ]
      refine wpAnyH_take (i := 13) (v := ?_) (List.getElem?_toArray.trans (List.getElem?_cons_succ.trans (List.getElem?_cons_succ.trans (List.getElem?_cons_succ.trans (List.getElem?_cons_succ.trans (List.getElem?_cons_succ.trans (List.getElem?_cons_succ.trans (List.getElem?_cons_succ.trans (List.getElem?_cons_succ.trans (List.getElem?_cons_succ.trans (List.getElem?_cons_succ.trans (List.getElem?_cons_succ.trans (List.getElem?_cons_succ.trans (List.getElem?_cons_succ.trans (List.getElem?_cons_zero))))))))))))))) (by kernel_rfl) (by kernel_rfl) (by kernel_rfl) (fun _ _ _ h => h) (Or.inl ⟨by rfl, ?_⟩) (by assumption) ?_
      rotate_left
      · intro w' hSw; (try dsimp only at hSw); go_simp; try with_reducible rfl
      try simp only [Act.put, List.setIfInBounds_toArray, List.set_cons_zero, List.set_cons_succ]
      refine wpAnyH_take (i := 14) (v := ?_) (List.getElem?_toArray.trans (List.getElem?_cons_succ.trans (List.getElem?_cons_succ.trans (List.getElem?_cons_succ.trans (List.getElem?_cons_succ.trans (List.getElem?_cons_succ.trans (List.getElem?_cons_succ.trans (List.getElem?_cons_succ.trans (List.getElem?_cons_succ.trans (List.getElem?_cons_succ.trans (List.getElem?_cons_succ.trans (List.getElem?_cons_succ.trans (List.getElem?_cons_succ.trans (List.getElem?_cons_succ.trans (List.getElem?_cons_succ.trans (List.getElem?_cons_zero)))))))))))))))) (by kernel_rfl) (by kernel_rfl) (by kernel_rfl) (fun _ _ _ h => h) (Or.inl ⟨by rfl, ?_⟩) (by assumption) ?_
      rotate_left
      · intro w' hSw; (try dsimp only at hSw); go_simp; try with_reducible rfl
      try simp only [Act.put, List.setIfInBounds_toArray, List.set_cons_zero, List.set_cons_succ]
      refine wpAnyH_ready (rs := [15]) (by kernel_rfl) (by simp) ?_
      refine AllReadyH.cons (List.getElem?_toArray.trans (List.getElem?_cons_succ.trans (List.getElem?_cons_succ.trans (List.getElem?_cons_succ.trans (List.getElem?_cons_succ.trans (List.getElem?_cons_succ.trans (List.getElem?_cons_succ.trans (List.getElem?_cons_succ.trans (List.getElem?_cons_succ.trans (List.getElem?_cons_succ.trans (List.getElem?_cons_succ.trans (List.getElem?_cons_succ.trans (List.getElem?_cons_succ.trans (List.getElem?_cons_succ.trans (List.getElem?_cons_succ.trans (List.getElem?_cons_succ.trans (List.getElem?_cons_zero))))))))))))))))) (fun K hK => ?_) AllReadyH.nil
      go_simp
      go_at_call 11
      refine (pvmAwake _ (hG.below ((HXm.out.2.2.2.2.trans (HA16.out.2.2.2.1.mono HXm.out.2.2.2.2.size)).trans (hT18.mono (HXm.out.2.2.2.2.trans (HA16.out.2.2.2.1.mono HXm.out.2.2.2.2.size)).size)))).mono ?_
      rintro e w19 ⟨rfl, hb19⟩
      have hT19 : Below w16.heap.size w16 w19 := hT18.trans (hb19.mono hT18.size)
      refine hK.out _ _ hT19 (fun hHeld => ?_)
      clear hK K
      try simp only [Act.put, List.setIfInBounds_toArray, List.set_cons_zero, List.set_cons_succ]
      refine wpAnyH_take (i := 16) (v := ?_) (List.getElem?_toArray.trans (List.getElem?_cons_succ.trans (List.getElem?_cons_succ.trans (List.getElem?_cons_succ.trans (List.getElem?_cons_succ.trans (List.getElem?_cons_succ.trans (List.getElem?_cons_succ.trans (List.getElem?_cons_succ.trans (List.getElem?_cons_succ.trans (List.getElem?_cons_succ.trans (List.getElem?_cons_succ.trans (List.getElem?_cons_succ.trans (List.getElem?_cons_succ.trans (List.getElem?_cons_succ.trans (List.getElem?_cons_succ.trans (List.getElem?_cons_succ.trans (List.getElem?_cons_succ.trans (List.getElem?_cons_zero)))))))))))))))))) (by kernel_rfl) (by kernel_rfl) (by kernel_rfl) (fun _ _ _ h => h) (Or.inl ⟨by rfl, ?_⟩) (by assumption) ?_
      rotate_left
      · intro w' hSw; (try dsimp only at hSw); go_simp; try with_reducible rfl
      try simp only [Act.put, List.setIfInBounds_toArray, List.set_cons_zero, List.set_cons_succ]
      refine wpAnyH_take (i := 17) (v := ?_) (List.getElem?_toArray.trans (List.getElem?_cons_succ.trans (List.getElem?_cons_succ.trans (List.getElem?_cons_succ.trans (List.getElem?_cons_succ.trans (List.getElem?_cons_succ.trans (List.getElem?_cons_succ.trans (List.getElem?_cons_succ.trans (List.getElem?_cons_succ.trans (List.getElem?_cons_succ.trans (List.getElem?_cons_succ.trans (List.getElem?_cons_succ.trans (List.getElem?_cons_succ.trans (List.getElem?_cons_succ.trans (List.getElem?_cons_succ.trans (List.getElem?_cons_succ.trans (List.getElem?_cons_succ.trans (List.getElem?_cons_succ.trans (List.getElem?_cons_zero))))))))))))))))))) (by kernel_rfl) (by kernel_rfl) (by kernel_rfl) (fun _ _ _ h => h) (Or.inl ⟨by rfl, ?_⟩) (by assumption) ?_
      rotate_left
      · intro w' hSw; (try dsimp only at hSw); go_simp; try with_reducible rfl
      try simp only [Act.put, List.setIfInBounds_toArray, List.set_cons_zero, List.set_cons_succ]
      refine wpAnyH_done (by kernel_rfl) ?_ _
      have hfin : Below w.heap.size w w19 := by
        have h := HXm.out.2.2.2.2.trans (HA16.out.2.2.2.1.mono HXm.out.2.2.2.2.size)
        exact h.trans (hT19.mono h.size)
      go_wp2_with fail
      go_ret
      exact ⟨rfl, hfin⟩
  refine AllReadyH.cons (List.getElem?_toArray.trans (List.getElem?_cons_succ.trans (List.getElem?_cons_succ.trans (List.getElem?_cons_zero)))) (fun K hK => ?_) AllReadyH.nil
  refine wp_load_one 27 (.tmp 4) rfl g0 rfl (mcells M B k d).toArray _ (Blk.cells (Blk.drewN k0 1)) Tryd.underlying27 rfl mach_size ?_
  refine hK.out _ _ trivial (fun _ => ?_)
  clear hK K
  try simp only [Act.put, List.setIfInBounds_toArray, List.set_cons_zero, List.set_cons_succ]
  refine wpAnyH_ready (rs := [1]) (by kernel_rfl) (by simp) ?_
  refine AllReadyH.cons (List.getElem?_toArray.trans (List.getElem?_cons_succ.trans (List.getElem?_cons_zero))) (fun K hK => ?_) AllReadyH.nil
  go_simp
  go_at_call 12
  refine (H.out.2.2.2.1 _).mono ?_
  rintro e w' ⟨rfl, rfl⟩
  refine hK.out _ _ trivial (fun _ => ?_)
  clear hK K
  try simp only [Act.put, List.setIfInBounds_toArray, List.set_cons_zero, List.set_cons_succ]
  refine wpAnyH_ready (rs := [3]) (by kernel_rfl) (by simp) ?_
  refine AllReadyH.cons (List.getElem?_toArray.trans (List.getElem?_cons_succ.trans (List.getElem?_cons_succ.trans (List.getElem?_cons_succ.trans (List.getElem?_cons_zero))))) (fun K hK => ?_) AllReadyH.nil
  go_simp
  go_at_call 13
  refine (H.out.2.2.2.2 _).mono ?_
  rintro e w4 ⟨rfl, hb4⟩
  have k4 : Blk w4 g0 27 (mcells M B k d).toArray := (Blk.drewN k0 1).below hb4 (Blk.drewN k0 1).lt
  refine hK.out _ _ trivial (fun _ => ?_)
  clear hK K
  try simp only [Act.put, List.setIfInBounds_toArray, List.set_cons_zero, List.set_cons_succ]
  refine wpAnyH_ready (rs := [4]) (by kernel_rfl) (by simp) ?_
  refine AllReadyH.cons (List.getElem?_toArray.trans (List.getElem?_cons_succ.trans (List.getElem?_cons_succ.trans (List.getElem?_cons_succ.trans (List.getElem?_cons_succ.trans (List.getElem?_cons_zero)))))) (fun K hK => ?_) AllReadyH.nil
  go_simp
  refine hK.out _ _ trivial (fun _ => ?_)
  clear hK K
  try simp only [Act.put, List.setIfInBounds_toArray, List.set_cons_zero, List.set_cons_succ]
  refine wpAnyH_ready (rs := [5]) (by kernel_rfl) (by simp) ?_
  refine AllReadyH.cons (List.getElem?_toArray.trans (List.getElem?_cons_succ.trans (List.getElem?_cons_succ.trans (List.getElem?_cons_succ.trans (List.getElem?_cons_succ.trans (List.getElem?_cons_succ.trans (List.getElem?_cons_zero))))))) (fun K hK => ?_) AllReadyH.nil
  refine wp_store_one 27 (.tmp 4) (.tmp 18) rfl g0 (mcells M B q d) rfl rfl 27 _ k4 mach_size rfl (mcells_one _ _ _ _) ?_
  intro w6 hb6 hg6
  have hz6 : Below w.heap.size w w6 := by
    have h := hw0.drew.trans (hb4.mono hw0.drew.size)
    exact h.grown hg6 h.size (fun g e => by cases e; exact Nat.le_of_eq eg0)
  refine hK.out _ _ trivial (fun _ => ?_)
  clear hK K
  try simp only [Act.put, List.setIfInBounds_toArray, List.set_cons_zero, List.set_cons_succ]
  refine wpAnyH_done (by kernel_rfl) ?_ _
  have HW := Lib.hid (And.intro hb6 hz6)
  clear hb6 hg6 hz6 hb4 k4
  go_wp2_with (first | (with_reducible refine st_load 27 ?_; refine stopped ?_) | fail)
  refine go_on ?_
  refine wpList_load_at rfl 27 (.tmp 4) rfl g0 0 rfl (mcells M B q d).toArray _ (Blk.cells HW.out.1) Tryd.underlying27 rfl mach_size ?_
  simp only [Act.put, List.setIfInBounds_toArray, List.set_cons_zero, List.set_cons_succ]
  have hmy := pvMay w6 M B q d (H.out.2.2.1.below HW.out.2)
  have HM6 := Lib.hid (H.out.2.2.1.below HW.out.2)
  cases hmm : mayM M
  · rw [hmm] at hmy
    have HMM := Lib.hid hmm
    have HY := Lib.hid hmy
    clear hmy hmm
    go_wp2_with (first
      | (go_at_call 16; refine HY.out.mono ?_; rintro e w7 ⟨rfl, hb7⟩; have HB7 := Lib.hid hb7; clear hb7)
      | (with_reducible refine st_load 27 ?_; refine stopped ?_)
      | fail)
    refine go_on ?_
    refine wpList_load_at rfl 27 (.tmp 4) rfl g0 0 rfl (mcells M B q d).toArray _ (Blk.cells (HW.out.1.below HB7.out HW.out.1.lt)) Tryd.underlying27 rfl mach_size ?_
    simp only [Act.put, List.setIfInBounds_toArray, List.set_cons_zero, List.set_cons_succ]
    have hsv := pvSave w7 M B q d (HM6.out.below HB7.out)
    rw [saveM_no HMM.out] at hsv
    have HSV := Lib.hid hsv
    clear hsv
    have hz7 : Below w.heap.size w w7 := HW.out.2.trans (HB7.out.mono HW.out.2.size)
    have HZ7 := Lib.hid hz7
    clear hz7
    go_wp2_with (first
      | (go_at_call 17; refine HSV.out.mono ?_; rintro e w8 ⟨v8, rfl, hown8, hb8⟩; obtain ⟨A8, c8, rfl, _, _⟩ := hown8.slice; have HB8 := Lib.hid (HZ7.out.trans (hb8.mono HZ7.out.size)); clear hown8 hb8)
      | (go_at_call 11; refine (pvmAwake _ (hG.below HB8.out)).mono ?_; rintro e w9 ⟨rfl, hb9⟩)
      | fail)
    go_ret
    exact ⟨rfl, HB8.out.trans (hb9.mono HB8.out.size)⟩
  · rw [hmm] at hmy
    have HMM := Lib.hid hmm
    have HY := Lib.hid hmy
    clear hmy hmm
    go_wp2_with (first
      | (go_at_call 16; refine HY.out.mono ?_; rintro e w7 ⟨rfl, hb7⟩; have HB7 := Lib.hid hb7; clear hb7)
      | (with_reducible refine st_load 27 ?_; refine stopped ?_)
      | fail)
    refine go_on ?_
    refine wpList_load_at rfl 27 (.tmp 4) rfl g0 0 rfl (mcells M B q d).toArray _ (Blk.cells (HW.out.1.below HB7.out HW.out.1.lt)) Tryd.underlying27 rfl mach_size ?_
    simp only [Act.put, List.setIfInBounds_toArray, List.set_cons_zero, List.set_cons_succ]
    have hsv := pvSave w7 M B q d (HM6.out.below HB7.out)
    have HSV := Lib.hid hsv
    clear hsv
    have hz7 : Below w.heap.size w w7 := HW.out.2.trans (HB7.out.mono HW.out.2.size)
    have HZ7 := Lib.hid hz7
    clear hz7
    go_wp2_with (first
      | (go_at_call 17; refine HSV.out.mono ?_; rintro e w8 ⟨v8, rfl, hown8, hb8⟩; obtain ⟨A8, c8, rfl, hc8, _, hbs8, _⟩ := hown8.slice_cap; have HB8 := Lib.hid (And.intro hbs8 (And.intro hc8 (And.intro hb8 (HZ7.out.trans (hb8.mono HZ7.out.size))))); clear hown8 hb8 hbs8 hc8)
      | (go_at_call 18; refine (pvBack M HM6.out.ok HMM.out A8 _ c8 rfl HB8.out.2.1 w8 HB8.out.1).mono ?_; rintro e w9 ⟨A9, c9, rfl, _, hr9, hb9⟩; rw [HM6.out.len] at hr9 ⊢; unfold mv)
      | (with_reducible refine st_load 27 ?_; refine stopped ?_)
      | fail)
    have k9 := Blk.new w9 27 (mcells M A9 q c9).toArray
    have hb79 : Below w6.heap.size w6 w9 := (HB7.out.trans (HB8.out.2.2.1.mono HB7.out.size)).trans (hb9.mono (HB7.out.trans (HB8.out.2.2.1.mono HB7.out.size)).size)
    have kg := (HW.out.1.below hb79 HW.out.1.lt).alloc (.cells (mcells M A9 q c9).toArray 27)
    have hr10 := row_alloc hr9 (.cells (mcells M A9 q c9).toArray 27)
    have hb10 : Below w6.heap.size w6 (w9.alloc (.cells (mcells M A9 q c9).toArray 27)) := hb79.alloc hb79.size _
    have ew10' : w9.alloc (.cells #[.int .i64 M.p, .int .i64 (M.r 0), .int .i64 (M.r 1), .int .i64 (M.r 2), .int .i64 (M.r 3), .int .i64 (M.r 4), .int .i64 (M.r 5), .int .i64 (M.r 6), .int .i64 (M.r 7), .slice A9 q c9, .int .i64 M.s, .int .i64 M.t] 27) = w9.alloc (.cells (mcells M A9 q c9).toArray 27) := rfl
    rw [ew10']
    clear ew10'
    obtain ⟨w10, ew10⟩ : ∃ W, w9.alloc (.cells (mcells M A9 q c9).toArray 27) = W := ⟨_, rfl⟩
    rw [ew10] at k9 kg hr10 hb10 ⊢
    obtain ⟨gx, egx⟩ : ∃ x, w9.heap.size = x := ⟨_, rfl⟩
    rw [egx] at k9 ⊢
    have hmB := HM6.out.below hb10
    have hmX := machAt_q hr10 HM6.out.len HM6.out.ok
    have HXm := Lib.hid (And.intro k9 (And.intro kg (And.intro hmB (And.intro hmX (HW.out.2.trans (hb10.mono HW.out.2.size))))))
    have HTo := Lib.hid (fun W (h : Below w10.heap.size w10 W) => told M B q d HM6.out.len (by omega) W (HXm.out.2.2.1.below h).vs)
    have HIs := Lib.hid (fun W A' c' (h : Below w10.heap.size w10 W) (hm : MachAt W M A' q c') => isSame M A9 A' q c9 c' HM6.out.len (by omega) W (HXm.out.2.2.2.1.below h).vs hm.vs)
    have hS0 : Below w10.heap.size w10 w10.drew := (Below.refl _ _).drew
    clear k9 kg hr10 hb10 ew10 egx hmB hmX hr9 hb9 hb79
    refine wp_region_held_drew (S := fun w' => Below w10.heap.size w10 w') (by kernel_rfl) hS0 (fun hHeld => ?_)
    refine wpAnyH_take (i := 0) (v := ?_) (List.getElem?_toArray.trans (List.getElem?_cons_zero)) (by kernel_rfl) (by kernel_rfl) (by kernel_rfl) (fun _ _ _ h => h) (Or.inl ⟨by rfl, ?_⟩) (by assumption) ?_
    rotate_left
    · intro w' hSw; (try dsimp only at hSw); go_simp; try with_reducible rfl
    try simp only [Act.put, List.setIfInBounds_toArray, List.set_cons_zero, List.set_cons_succ]
    refine wpAnyH_take (i := 1) (v := ?_) (List.getElem?_toArray.trans (List.getElem?_cons_succ.trans (List.getElem?_cons_zero))) (by kernel_rfl) (by kernel_rfl) (by kernel_rfl) (fun _ _ _ h => h) (Or.inl ⟨by rfl, ?_⟩) (by assumption) ?_
    rotate_left
    · intro w' hSw; (try dsimp only at hSw); go_simp; try with_reducible rfl
    try simp only [Act.put, List.setIfInBounds_toArray, List.set_cons_zero, List.set_cons_succ]
    refine wpAnyH_take (i := 2) (v := ?_) (List.getElem?_toArray.trans (List.getElem?_cons_succ.trans (List.getElem?_cons_succ.trans (List.getElem?_cons_zero)))) (by kernel_rfl) (by kernel_rfl) (by kernel_rfl) (fun _ _ _ h => h) (Or.inl ⟨by rfl, ?_⟩) (by assumption) ?_
    rotate_left
    · intro w' hSw; (try dsimp only at hSw); go_simp; try with_reducible rfl
    try simp only [Act.put, List.setIfInBounds_toArray, List.set_cons_zero, List.set_cons_succ]
    refine wpAnyH_take (i := 3) (v := .agg (mcells M A9 q c9).toArray) (List.getElem?_toArray.trans (List.getElem?_cons_succ.trans (List.getElem?_cons_succ.trans (List.getElem?_cons_succ.trans (List.getElem?_cons_zero))))) (by kernel_rfl) (by kernel_rfl) (by kernel_rfl) (fun _ _ _ h => h) (Or.inl ⟨by rfl, ?_⟩) (by assumption) ?_
    · intro w' hSw; exact load_row_yields 27 (.tmp 7) rfl gx 0 rfl (mcells M A9 q c9).toArray _ (Blk.cells (HXm.out.1.below hSw HXm.out.1.lt)) Tryd.underlying27 rfl mach_size
    try simp only [Act.put, List.setIfInBounds_toArray, List.set_cons_zero, List.set_cons_succ]
    refine wpAnyH_take (i := 4) (v := .agg (mcells M B q d).toArray) (List.getElem?_toArray.trans (List.getElem?_cons_succ.trans (List.getElem?_cons_succ.trans (List.getElem?_cons_succ.trans (List.getElem?_cons_succ.trans (List.getElem?_cons_zero)))))) (by kernel_rfl) (by kernel_rfl) (by kernel_rfl) (fun _ _ _ h => h) (Or.inl ⟨by rfl, ?_⟩) (by assumption) ?_
    · intro w' hSw; exact load_row_yields 27 (.tmp 4) rfl g0 0 rfl (mcells M B q d).toArray _ (Blk.cells (HXm.out.2.1.below hSw HXm.out.2.1.lt)) Tryd.underlying27 rfl mach_size
    try simp only [Act.put, List.setIfInBounds_toArray, List.set_cons_zero, List.set_cons_succ]
    refine wpAnyH_ready (rs := [5]) (by kernel_rfl) (by simp) ?_
    refine AllReadyH.cons (List.getElem?_toArray.trans (List.getElem?_cons_succ.trans (List.getElem?_cons_succ.trans (List.getElem?_cons_succ.trans (List.getElem?_cons_succ.trans (List.getElem?_cons_succ.trans (List.getElem?_cons_zero))))))) (fun K hK => ?_) AllReadyH.nil
    go_simp
    go_at_call 19
    refine (HTo.out _ hS0).mono ?_
    rintro e w11 ⟨A11, c11, rfl, hr11, hb11⟩
    rw [HM6.out.len] at hr11 ⊢
    have hS11 : Below w10.heap.size w10 w11 := hS0.trans (hb11.mono hS0.size)
    refine hK.out _ _ hS11 (fun hHeld => ?_)
    clear hK K
    try simp only [Act.put, List.setIfInBounds_toArray, List.set_cons_zero, List.set_cons_succ]
    refine wpAnyH_ready (rs := [6]) (by kernel_rfl) (by simp) ?_
    refine AllReadyH.cons (List.getElem?_toArray.trans (List.getElem?_cons_succ.trans (List.getElem?_cons_succ.trans (List.getElem?_cons_succ.trans (List.getElem?_cons_succ.trans (List.getElem?_cons_succ.trans (List.getElem?_cons_succ.trans (List.getElem?_cons_zero)))))))) (fun K hK => ?_) AllReadyH.nil
    go_simp
    go_at_call 8
    refine (HIs.out _ _ _ hS11 (machAt_q hr11 HM6.out.len HM6.out.ok)).mono ?_
    rintro e w12 ⟨rfl, hb12⟩
    have hS12 : Below w10.heap.size w10 w12 := hS11.trans (hb12.mono hS11.size)
    refine hK.out _ _ hS12 (fun hHeld => ?_)
    clear hK K
    try simp only [Act.put, List.setIfInBounds_toArray, List.set_cons_zero, List.set_cons_succ]
    refine wpAnyH_take (i := 7) (v := ?_) (List.getElem?_toArray.trans (List.getElem?_cons_succ.trans (List.getElem?_cons_succ.trans (List.getElem?_cons_succ.trans (List.getElem?_cons_succ.trans (List.getElem?_cons_succ.trans (List.getElem?_cons_succ.trans (List.getElem?_cons_succ.trans (List.getElem?_cons_zero))))))))) (by kernel_rfl) (by kernel_rfl) (by kernel_rfl) (fun _ _ _ h => h) (Or.inl ⟨by rfl, ?_⟩) (by assumption) ?_
    rotate_left
    · intro w' hSw; (try dsimp only at hSw); go_simp; try with_reducible rfl
    try simp only [Act.put, List.setIfInBounds_toArray, List.set_cons_zero, List.set_cons_succ]
    refine wpAnyH_take (i := 8) (v := ?_) (List.getElem?_toArray.trans (List.getElem?_cons_succ.trans (List.getElem?_cons_succ.trans (List.getElem?_cons_succ.trans (List.getElem?_cons_succ.trans (List.getElem?_cons_succ.trans (List.getElem?_cons_succ.trans (List.getElem?_cons_succ.trans (List.getElem?_cons_succ.trans (List.getElem?_cons_zero)))))))))) (by kernel_rfl) (by kernel_rfl) (by kernel_rfl) (fun _ _ _ h => h) (Or.inl ⟨by rfl, ?_⟩) (by assumption) ?_
    rotate_left
    · intro w' hSw; (try dsimp only at hSw); go_simp; try with_reducible rfl
    try simp only [Act.put, List.setIfInBounds_toArray, List.set_cons_zero, List.set_cons_succ]
    refine wpAnyH_done (by kernel_rfl) ?_ _
    have HS12 := Lib.hid hS12
    clear hS0 hHeld hb11 hS11 hr11 hb12 hS12
    have hrun1 := fun W (h : Below w10.heap.size w10 W) => pvRun A L p cp H.out.1 (by omega) W (H.out.2.1.below (HXm.out.2.2.2.2.trans (h.mono HXm.out.2.2.2.2.size))) (hG.below (HXm.out.2.2.2.2.trans (h.mono HXm.out.2.2.2.2.size))) M B q d (HXm.out.2.2.1.below h) (by omega) (x8 : Int) ⟨by omega, by omega⟩
    have hrun2 := fun W (h : Below w10.heap.size w10 W) => pvRun A L p cp H.out.1 (by omega) W (H.out.2.1.below (HXm.out.2.2.2.2.trans (h.mono HXm.out.2.2.2.2.size))) (hG.below (HXm.out.2.2.2.2.trans (h.mono HXm.out.2.2.2.2.size))) M A9 q c9 (HXm.out.2.2.2.1.below h) (by omega) (x8 : Int) ⟨by omega, by omega⟩
    have hXok := runM_ok (l := L) H.out.2.1.ok (by rw [H.out.1]; omega) (x8 : Int).toNat HM6.out.ok
    obtain ⟨X, kd, nm, cn, eX⟩ : ∃ X kd nm cn, runM L (x8 : Int).toNat M = (X, kd, nm, cn) := ⟨_, _, _, _, rfl⟩
    have hXl := runM_len L (x8 : Int).toNat M
    rw [eX] at hrun1 hrun2 hXok hXl
    have hXq : X.mem.length = q := hXl.trans HM6.out.len
    have HR12 := Lib.hid (And.intro hrun1 (And.intro hrun2 (And.intro hXok hXq)))
    clear hrun1 hrun2 hXok eX hXl hXq
    go_wp2_with (first | (with_reducible refine st_load 27 ?_; refine stopped ?_) | fail)
    refine go_on ?_
    refine wpList_load_at rfl 27 (.tmp 4) rfl g0 0 rfl (mcells M B q d).toArray _ (Blk.cells (HXm.out.2.1.below HS12.out HXm.out.2.1.lt)) Tryd.underlying27 rfl mach_size ?_
    simp only [Act.put, List.setIfInBounds_toArray, List.set_cons_zero, List.set_cons_succ]
    go_wp2_with (first
      | (go_at_call 20; refine (HR12.out.1 _ HS12.out).mono ?_; rintro e w13 ⟨A13, c13, rfl, _, hr13, hb13⟩; dsimp only at hr13 ⊢; rw [HR12.out.2.2.2] at hr13 ⊢; unfold mv ev)
      | (with_reducible refine st_load 27 ?_; refine stopped ?_)
      | fail)
    have ka13 := (Blk.new w13 27 (mcells X A13 q c13).toArray).alloc (.cells #[.int .i64 kd, .int .i64 nm] 38)
    have kf13 := blk2 w13 (.cells (mcells X A13 q c13).toArray 27) 38 #[.int .i64 kd, .int .i64 nm]
    have hrr13 := row_alloc (row_alloc hr13 (.cells (mcells X A13 q c13).toArray 27)) (.cells #[.int .i64 kd, .int .i64 nm] 38)
    have hbb13 : Below w10.heap.size w10 ((w13.alloc (.cells (mcells X A13 q c13).toArray 27)).alloc (.cells #[.int .i64 kd, .int .i64 nm] 38)) := by
      have h := (HS12.out).trans (hb13.mono (HS12.out).size)
      exact (h.alloc h.size _).alloc (by rw [size_alloc1]; exact Nat.le_succ_of_le h.size) _
    have hpp13 : Below w13.heap.size w13 ((w13.alloc (.cells (mcells X A13 q c13).toArray 27)).alloc (.cells #[.int .i64 kd, .int .i64 nm] 38)) := below2 _ _ _
    have ew13' : (w13.alloc (.cells #[.int .i64 X.p, .int .i64 (X.r 0), .int .i64 (X.r 1), .int .i64 (X.r 2), .int .i64 (X.r 3), .int .i64 (X.r 4), .int .i64 (X.r 5), .int .i64 (X.r 6), .int .i64 (X.r 7), .slice A13 q c13, .int .i64 X.s, .int .i64 X.t] 27)).alloc (.cells #[.int .i64 kd, .int .i64 nm] 38) = (w13.alloc (.cells (mcells X A13 q c13).toArray 27)).alloc (.cells #[.int .i64 kd, .int .i64 nm] 38) := rfl
    try rw [ew13']
    clear ew13'
    obtain ⟨w14, eW13⟩ : ∃ W, (w13.alloc (.cells (mcells X A13 q c13).toArray 27)).alloc (.cells #[.int .i64 kd, .int .i64 nm] 38) = W := ⟨_, rfl⟩
    rw [eW13] at ka13 kf13 hrr13 hbb13 hpp13 ⊢
    obtain ⟨ga, eg13⟩ : ∃ x, w13.heap.size = x := ⟨_, rfl⟩
    have hpp13' := hpp13
    rw [eg13] at ka13 kf13 ⊢
    obtain ⟨gf, eh13⟩ : ∃ x, ga + 1 = x := ⟨_, rfl⟩
    rw [eh13] at kf13 ⊢
    have HA14 := Lib.hid (And.intro ka13 (And.intro kf13 (And.intro (machAt_q hrr13 HR12.out.2.2.2 HR12.out.2.2.1) hbb13)))
    clear ka13 kf13 hrr13 hbb13 hpp13 hpp13' eW13 eg13 eh13 hr13 hb13
    refine go_on ?_
    refine wpList_load_at rfl 27 (.tmp 7) rfl gx 0 rfl (mcells M A9 q c9).toArray _ (Blk.cells (HXm.out.1.below HA14.out.2.2.2 HXm.out.1.lt)) Tryd.underlying27 rfl mach_size ?_
    simp only [Act.put, List.setIfInBounds_toArray, List.set_cons_zero, List.set_cons_succ]
    go_wp2_with (first
      | (go_at_call 20; refine (HR12.out.2.1 _ HA14.out.2.2.2).mono ?_; rintro e w15 ⟨A15, c15, rfl, _, hr15, hb15⟩; dsimp only at hr15 ⊢; rw [HR12.out.2.2.2] at hr15 ⊢; have HP15 := Lib.hid hb15; unfold mv ev)
      | fail)
    have ka15 := (Blk.new w15 27 (mcells X A15 q c15).toArray).alloc (.cells #[.int .i64 kd, .int .i64 nm] 38)
    have kf15 := blk2 w15 (.cells (mcells X A15 q c15).toArray 27) 38 #[.int .i64 kd, .int .i64 nm]
    have hrr15 := row_alloc (row_alloc hr15 (.cells (mcells X A15 q c15).toArray 27)) (.cells #[.int .i64 kd, .int .i64 nm] 38)
    have hbb15 : Below w10.heap.size w10 ((w15.alloc (.cells (mcells X A15 q c15).toArray 27)).alloc (.cells #[.int .i64 kd, .int .i64 nm] 38)) := by
      have h := (HA14.out.2.2.2).trans (hb15.mono (HA14.out.2.2.2).size)
      exact (h.alloc h.size _).alloc (by rw [size_alloc1]; exact Nat.le_succ_of_le h.size) _
    have hpp15 : Below w15.heap.size w15 ((w15.alloc (.cells (mcells X A15 q c15).toArray 27)).alloc (.cells #[.int .i64 kd, .int .i64 nm] 38)) := below2 _ _ _
    have ew15' : (w15.alloc (.cells #[.int .i64 X.p, .int .i64 (X.r 0), .int .i64 (X.r 1), .int .i64 (X.r 2), .int .i64 (X.r 3), .int .i64 (X.r 4), .int .i64 (X.r 5), .int .i64 (X.r 6), .int .i64 (X.r 7), .slice A15 q c15, .int .i64 X.s, .int .i64 X.t] 27)).alloc (.cells #[.int .i64 kd, .int .i64 nm] 38) = (w15.alloc (.cells (mcells X A15 q c15).toArray 27)).alloc (.cells #[.int .i64 kd, .int .i64 nm] 38) := rfl
    try rw [ew15']
    clear ew15'
    obtain ⟨w16, eW15⟩ : ∃ W, (w15.alloc (.cells (mcells X A15 q c15).toArray 27)).alloc (.cells #[.int .i64 kd, .int .i64 nm] 38) = W := ⟨_, rfl⟩
    rw [eW15] at ka15 kf15 hrr15 hbb15 hpp15 ⊢
    obtain ⟨gb, eg15⟩ : ∃ x, w15.heap.size = x := ⟨_, rfl⟩
    have hpp15' := hpp15
    rw [eg15] at ka15 kf15 ⊢
    obtain ⟨gg, eh15⟩ : ∃ x, gb + 1 = x := ⟨_, rfl⟩
    rw [eh15] at kf15 ⊢
    have hx16 := HP15.out.trans (hpp15'.mono HP15.out.size)
    have HA16 := Lib.hid (And.intro ka15 (And.intro kf15 (And.intro (machAt_q hrr15 HR12.out.2.2.2 HR12.out.2.2.1) (And.intro hbb15 (And.intro (HA14.out.1.below hx16 HA14.out.1.lt) (And.intro (HA14.out.2.1.below hx16 HA14.out.2.1.lt) (HA14.out.2.2.1.below hx16)))))))
    clear ka15 kf15 hrr15 hbb15 hpp15 hpp15' eW15 eg15 eh15 hr15 hb15 hx16
    have HTx := Lib.hid (fun W (h : Below w16.heap.size w16 W) => told X A15 q c15 HR12.out.2.2.2 (by omega) W (HA16.out.2.2.1.below h).vs)
    have HIx := Lib.hid (fun W A' c' (h : Below w16.heap.size w16 W) (hm : MachAt W X A' q c') => isSame X A13 A' q c13 c' HR12.out.2.2.2 (by omega) W (HA16.out.2.2.2.2.2.2.below h).vs hm.vs)
    have hT0 : Below w16.heap.size w16 w16.drew := (Below.refl _ _).drew
    refine wp_region_held_drew (S := fun w' => Below w16.heap.size w16 w') (by kernel_rfl) hT0 (fun hHeld => ?_)
    refine wpAnyH_take (i := 0) (v := .agg (mcells X A13 q c13).toArray) (List.getElem?_toArray.trans (List.getElem?_cons_zero)) (by kernel_rfl) (by kernel_rfl) (by kernel_rfl) (fun _ _ _ h => h) (Or.inl ⟨by rfl, ?_⟩) (by assumption) ?_
    · intro w' hSw; exact load_row_yields 27 (.tmp 9) rfl ga 0 rfl (mcells X A13 q c13).toArray _ (Blk.cells (HA16.out.2.2.2.2.1.below hSw HA16.out.2.2.2.2.1.lt)) Tryd.underlying27 rfl mach_size
    try simp only [Act.put, List.setIfInBounds_toArray, List.set_cons_zero, List.set_cons_succ]
    refine wpAnyH_take (i := 1) (v := .agg (mcells X A15 q c15).toArray) (List.getElem?_toArray.trans (List.getElem?_cons_succ.trans (List.getElem?_cons_zero))) (by kernel_rfl) (by kernel_rfl) (by kernel_rfl) (fun _ _ _ h => h) (Or.inl ⟨by rfl, ?_⟩) (by assumption) ?_
    · intro w' hSw; exact load_row_yields 27 (.tmp 12) rfl gb 0 rfl (mcells X A15 q c15).toArray _ (Blk.cells (HA16.out.1.below hSw HA16.out.1.lt)) Tryd.underlying27 rfl mach_size
    try simp only [Act.put, List.setIfInBounds_toArray, List.set_cons_zero, List.set_cons_succ]
    refine wpAnyH_ready (rs := [2]) (by kernel_rfl) (by simp) ?_
    refine AllReadyH.cons (List.getElem?_toArray.trans (List.getElem?_cons_succ.trans (List.getElem?_cons_succ.trans (List.getElem?_cons_zero)))) (fun K hK => ?_) AllReadyH.nil
    go_simp
    go_at_call 19
    refine (HTx.out _ hT0).mono ?_
    rintro e w17 ⟨A17, c17, rfl, hr17, hb17⟩
    rw [HR12.out.2.2.2] at hr17 ⊢
    have hT17 : Below w16.heap.size w16 w17 := hT0.trans (hb17.mono hT0.size)
    refine hK.out _ _ hT17 (fun hHeld => ?_)
    clear hK K
    try simp only [Act.put, List.setIfInBounds_toArray, List.set_cons_zero, List.set_cons_succ]
    refine wpAnyH_ready (rs := [3]) (by kernel_rfl) (by simp) ?_
    refine AllReadyH.cons (List.getElem?_toArray.trans (List.getElem?_cons_succ.trans (List.getElem?_cons_succ.trans (List.getElem?_cons_succ.trans (List.getElem?_cons_zero))))) (fun K hK => ?_) AllReadyH.nil
    go_simp
    go_at_call 8
    refine (HIx.out _ _ _ hT17 (machAt_q hr17 HR12.out.2.2.2 HR12.out.2.2.1)).mono ?_
    rintro e w18 ⟨rfl, hb18⟩
    have hT18 : Below w16.heap.size w16 w18 := hT17.trans (hb18.mono hT17.size)
    refine hK.out _ _ hT18 (fun hHeld => ?_)
    clear hK K
    try simp only [Act.put, List.setIfInBounds_toArray, List.set_cons_zero, List.set_cons_succ]
    refine wpAnyH_take (i := 4) (v := ?_) (List.getElem?_toArray.trans (List.getElem?_cons_succ.trans (List.getElem?_cons_succ.trans (List.getElem?_cons_succ.trans (List.getElem?_cons_succ.trans (List.getElem?_cons_zero)))))) (by kernel_rfl) (by kernel_rfl) (by kernel_rfl) (fun _ _ _ h => h) (Or.inl ⟨by rfl, ?_⟩) (by assumption) ?_
    rotate_left
    · intro w' hSw; (try dsimp only at hSw); go_simp; try with_reducible rfl
    try simp only [Act.put, List.setIfInBounds_toArray, List.set_cons_zero, List.set_cons_succ]
    refine wpAnyH_take (i := 5) (v := .agg #[.int .i64 kd, .int .i64 nm]) (List.getElem?_toArray.trans (List.getElem?_cons_succ.trans (List.getElem?_cons_succ.trans (List.getElem?_cons_succ.trans (List.getElem?_cons_succ.trans (List.getElem?_cons_succ.trans (List.getElem?_cons_zero))))))) (by kernel_rfl) (by kernel_rfl) (by kernel_rfl) (fun _ _ _ h => h) (Or.inl ⟨by rfl, ?_⟩) (by assumption) ?_
    · intro w' hSw; exact load_row_yields 38 (.tmp 10) rfl gf 0 rfl #[.int .i64 kd, .int .i64 nm] _ (Blk.cells (HA16.out.2.2.2.2.2.1.below hSw HA16.out.2.2.2.2.2.1.lt)) Tryd.underlying38 rfl event_size
    try simp only [Act.put, List.setIfInBounds_toArray, List.set_cons_zero, List.set_cons_succ]
    refine wpAnyH_take (i := 6) (v := .agg #[.int .i64 kd, .int .i64 nm]) (List.getElem?_toArray.trans (List.getElem?_cons_succ.trans (List.getElem?_cons_succ.trans (List.getElem?_cons_succ.trans (List.getElem?_cons_succ.trans (List.getElem?_cons_succ.trans (List.getElem?_cons_succ.trans (List.getElem?_cons_zero)))))))) (by kernel_rfl) (by kernel_rfl) (by kernel_rfl) (fun _ _ _ h => h) (Or.inl ⟨by rfl, ?_⟩) (by assumption) ?_
    · intro w' hSw; exact load_row_yields 38 (.tmp 13) rfl gg 0 rfl #[.int .i64 kd, .int .i64 nm] _ (Blk.cells (HA16.out.2.1.below hSw HA16.out.2.1.lt)) Tryd.underlying38 rfl event_size
    try simp only [Act.put, List.setIfInBounds_toArray, List.set_cons_zero, List.set_cons_succ]
    refine wpAnyH_take (i := 7) (v := ?_) (List.getElem?_toArray.trans (List.getElem?_cons_succ.trans (List.getElem?_cons_succ.trans (List.getElem?_cons_succ.trans (List.getElem?_cons_succ.trans (List.getElem?_cons_succ.trans (List.getElem?_cons_succ.trans (List.getElem?_cons_succ.trans (List.getElem?_cons_zero))))))))) (by kernel_rfl) (by kernel_rfl) (by kernel_rfl) (fun _ _ _ h => h) (Or.inl ⟨by rfl, ?_⟩) (by assumption) ?_
    rotate_left
    · intro w' hSw; (try dsimp only at hSw); go_simp; try with_reducible rfl
    try simp only [Act.put, List.setIfInBounds_toArray, List.set_cons_zero, List.set_cons_succ]
    refine wpAnyH_take (i := 8) (v := ?_) (List.getElem?_toArray.trans (List.getElem?_cons_succ.trans (List.getElem?_cons_succ.trans (List.getElem?_cons_succ.trans (List.getElem?_cons_succ.trans (List.getElem?_cons_succ.trans (List.getElem?_cons_succ.trans (List.getElem?_cons_succ.trans (List.getElem?_cons_succ.trans (List.getElem?_cons_zero)))))))))) (by kernel_rfl) (by kernel_rfl) (by kernel_rfl) (fun _ _ _ h => h) (Or.inl ⟨by rfl, ?_⟩) (by assumption) ?_
    rotate_left
    · intro w' hSw; (try dsimp only at hSw); go_simp; try with_reducible rfl
    try simp only [Act.put, List.setIfInBounds_toArray, List.set_cons_zero, List.set_cons_succ]
    refine wpAnyH_take (i := 9) (v := ?_) (List.getElem?_toArray.trans (List.getElem?_cons_succ.trans (List.getElem?_cons_succ.trans (List.getElem?_cons_succ.trans (List.getElem?_cons_succ.trans (List.getElem?_cons_succ.trans (List.getElem?_cons_succ.trans (List.getElem?_cons_succ.trans (List.getElem?_cons_succ.trans (List.getElem?_cons_succ.trans (List.getElem?_cons_zero))))))))))) (by kernel_rfl) (by kernel_rfl) (by kernel_rfl) (fun _ _ _ h => h) (Or.inl ⟨by rfl, ?_⟩) (by assumption) ?_
    rotate_left
    · intro w' hSw; (try dsimp only at hSw); go_simp; try with_reducible rfl
    try simp only [Act.put, List.setIfInBounds_toArray, List.set_cons_zero, List.set_cons_succ]
    refine wpAnyH_take (i := 10) (v := ?_) (List.getElem?_toArray.trans (List.getElem?_cons_succ.trans (List.getElem?_cons_succ.trans (List.getElem?_cons_succ.trans (List.getElem?_cons_succ.trans (List.getElem?_cons_succ.trans (List.getElem?_cons_succ.trans (List.getElem?_cons_succ.trans (List.getElem?_cons_succ.trans (List.getElem?_cons_succ.trans (List.getElem?_cons_succ.trans (List.getElem?_cons_zero)))))))))))) (by kernel_rfl) (by kernel_rfl) (by kernel_rfl) (fun _ _ _ h => h) (Or.inl ⟨by rfl, ?_⟩) (by assumption) ?_
    rotate_left
    · intro w' hSw; (try dsimp only at hSw); go_simp; try with_reducible rfl
    try simp only [Act.put, List.setIfInBounds_toArray, List.set_cons_zero, List.set_cons_succ]
    refine wpAnyH_take (i := 11) (v := ?_) (List.getElem?_toArray.trans (List.getElem?_cons_succ.trans (List.getElem?_cons_succ.trans (List.getElem?_cons_succ.trans (List.getElem?_cons_succ.trans (List.getElem?_cons_succ.trans (List.getElem?_cons_succ.trans (List.getElem?_cons_succ.trans (List.getElem?_cons_succ.trans (List.getElem?_cons_succ.trans (List.getElem?_cons_succ.trans (List.getElem?_cons_succ.trans (List.getElem?_cons_zero))))))))))))) (by kernel_rfl) (by kernel_rfl) (by kernel_rfl) (fun _ _ _ h => h) (Or.inl ⟨by rfl, ?_⟩) (by assumption) ?_
    rotate_left
    · intro w' hSw; (try dsimp only at hSw); go_simp; try with_reducible rfl
    try simp only [Act.put, List.setIfInBounds_toArray, List.set_cons_zero, List.set_cons_succ]
    refine wpAnyH_take (i := 12) (v := ?_) (List.getElem?_toArray.trans (List.getElem?_cons_succ.trans (List.getElem?_cons_succ.trans (List.getElem?_cons_succ.trans (List.getElem?_cons_succ.trans (List.getElem?_cons_succ.trans (List.getElem?_cons_succ.trans (List.getElem?_cons_succ.trans (List.getElem?_cons_succ.trans (List.getElem?_cons_succ.trans (List.getElem?_cons_succ.trans (List.getElem?_cons_succ.trans (List.getElem?_cons_succ.trans (List.getElem?_cons_zero)))))))))))))) (by kernel_rfl) (by kernel_rfl) (by kernel_rfl) (fun _ _ _ h => h) (Or.inl ⟨by rfl, ?_⟩) (by assumption) ?_
    rotate_left
    · intro w' hSw; (try dsimp only at hSw); go_simp; try with_reducible rfl
    try simp only [Act.put, List.setIfInBounds_toArray, List.set_cons_zero, List.set_cons_succ]
    refine wpAnyH_take (i := 13) (v := ?_) (List.getElem?_toArray.trans (List.getElem?_cons_succ.trans (List.getElem?_cons_succ.trans (List.getElem?_cons_succ.trans (List.getElem?_cons_succ.trans (List.getElem?_cons_succ.trans (List.getElem?_cons_succ.trans (List.getElem?_cons_succ.trans (List.getElem?_cons_succ.trans (List.getElem?_cons_succ.trans (List.getElem?_cons_succ.trans (List.getElem?_cons_succ.trans (List.getElem?_cons_succ.trans (List.getElem?_cons_succ.trans (List.getElem?_cons_zero))))))))))))))) (by kernel_rfl) (by kernel_rfl) (by kernel_rfl) (fun _ _ _ h => h) (Or.inl ⟨by rfl, ?_⟩) (by assumption) ?_
    rotate_left
    · intro w' hSw; (try dsimp only at hSw); go_simp; try with_reducible rfl
    try simp only [Act.put, List.setIfInBounds_toArray, List.set_cons_zero, List.set_cons_succ]
    refine wpAnyH_take (i := 14) (v := ?_) (List.getElem?_toArray.trans (List.getElem?_cons_succ.trans (List.getElem?_cons_succ.trans (List.getElem?_cons_succ.trans (List.getElem?_cons_succ.trans (List.getElem?_cons_succ.trans (List.getElem?_cons_succ.trans (List.getElem?_cons_succ.trans (List.getElem?_cons_succ.trans (List.getElem?_cons_succ.trans (List.getElem?_cons_succ.trans (List.getElem?_cons_succ.trans (List.getElem?_cons_succ.trans (List.getElem?_cons_succ.trans (List.getElem?_cons_succ.trans (List.getElem?_cons_zero)))))))))))))))) (by kernel_rfl) (by kernel_rfl) (by kernel_rfl) (fun _ _ _ h => h) (Or.inl ⟨by rfl, ?_⟩) (by assumption) ?_
    rotate_left
    · intro w' hSw; (try dsimp only at hSw); go_simp; try with_reducible rfl
    try simp only [Act.put, List.setIfInBounds_toArray, List.set_cons_zero, List.set_cons_succ]
    refine wpAnyH_ready (rs := [15]) (by kernel_rfl) (by simp) ?_
    refine AllReadyH.cons (List.getElem?_toArray.trans (List.getElem?_cons_succ.trans (List.getElem?_cons_succ.trans (List.getElem?_cons_succ.trans (List.getElem?_cons_succ.trans (List.getElem?_cons_succ.trans (List.getElem?_cons_succ.trans (List.getElem?_cons_succ.trans (List.getElem?_cons_succ.trans (List.getElem?_cons_succ.trans (List.getElem?_cons_succ.trans (List.getElem?_cons_succ.trans (List.getElem?_cons_succ.trans (List.getElem?_cons_succ.trans (List.getElem?_cons_succ.trans (List.getElem?_cons_succ.trans (List.getElem?_cons_zero))))))))))))))))) (fun K hK => ?_) AllReadyH.nil
    go_simp
    go_at_call 11
    refine (pvmAwake _ (hG.below ((HXm.out.2.2.2.2.trans (HA16.out.2.2.2.1.mono HXm.out.2.2.2.2.size)).trans (hT18.mono (HXm.out.2.2.2.2.trans (HA16.out.2.2.2.1.mono HXm.out.2.2.2.2.size)).size)))).mono ?_
    rintro e w19 ⟨rfl, hb19⟩
    have hT19 : Below w16.heap.size w16 w19 := hT18.trans (hb19.mono hT18.size)
    refine hK.out _ _ hT19 (fun hHeld => ?_)
    clear hK K
    try simp only [Act.put, List.setIfInBounds_toArray, List.set_cons_zero, List.set_cons_succ]
    refine wpAnyH_take (i := 16) (v := ?_) (List.getElem?_toArray.trans (List.getElem?_cons_succ.trans (List.getElem?_cons_succ.trans (List.getElem?_cons_succ.trans (List.getElem?_cons_succ.trans (List.getElem?_cons_succ.trans (List.getElem?_cons_succ.trans (List.getElem?_cons_succ.trans (List.getElem?_cons_succ.trans (List.getElem?_cons_succ.trans (List.getElem?_cons_succ.trans (List.getElem?_cons_succ.trans (List.getElem?_cons_succ.trans (List.getElem?_cons_succ.trans (List.getElem?_cons_succ.trans (List.getElem?_cons_succ.trans (List.getElem?_cons_succ.trans (List.getElem?_cons_zero)))))))))))))))))) (by kernel_rfl) (by kernel_rfl) (by kernel_rfl) (fun _ _ _ h => h) (Or.inl ⟨by rfl, ?_⟩) (by assumption) ?_
    rotate_left
    · intro w' hSw; (try dsimp only at hSw); go_simp; try with_reducible rfl
    try simp only [Act.put, List.setIfInBounds_toArray, List.set_cons_zero, List.set_cons_succ]
    refine wpAnyH_take (i := 17) (v := ?_) (List.getElem?_toArray.trans (List.getElem?_cons_succ.trans (List.getElem?_cons_succ.trans (List.getElem?_cons_succ.trans (List.getElem?_cons_succ.trans (List.getElem?_cons_succ.trans (List.getElem?_cons_succ.trans (List.getElem?_cons_succ.trans (List.getElem?_cons_succ.trans (List.getElem?_cons_succ.trans (List.getElem?_cons_succ.trans (List.getElem?_cons_succ.trans (List.getElem?_cons_succ.trans (List.getElem?_cons_succ.trans (List.getElem?_cons_succ.trans (List.getElem?_cons_succ.trans (List.getElem?_cons_succ.trans (List.getElem?_cons_succ.trans (List.getElem?_cons_zero))))))))))))))))))) (by kernel_rfl) (by kernel_rfl) (by kernel_rfl) (fun _ _ _ h => h) (Or.inl ⟨by rfl, ?_⟩) (by assumption) ?_
    rotate_left
    · intro w' hSw; (try dsimp only at hSw); go_simp; try with_reducible rfl
    try simp only [Act.put, List.setIfInBounds_toArray, List.set_cons_zero, List.set_cons_succ]
    refine wpAnyH_done (by kernel_rfl) ?_ _
    have hfin : Below w.heap.size w w19 := by
      have h := HXm.out.2.2.2.2.trans (HA16.out.2.2.2.1.mono HXm.out.2.2.2.2.size)
      exact h.trans (hT19.mono h.size)
    go_wp2_with fail
    go_ret
    exact ⟨rfl, hfin⟩
end Go.Proofs.YthgiehlfmdobkaaDoor
