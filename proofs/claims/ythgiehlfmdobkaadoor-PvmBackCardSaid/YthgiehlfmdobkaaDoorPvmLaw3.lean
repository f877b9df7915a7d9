/-
  The law PvmConfined. Conditions: the theorem's own premises.
-/
import Derived.Test.YthgiehlfmdobkaaDoorPvmLaw2
namespace Go.Proofs.YthgiehlfmdobkaaDoor
open Go.RowKit

/-- in how many places below i two sequences differ -/
def diffs (f g : Nat → Int) : Nat → Nat
  | 0 => 0
  | i + 1 => diffs f g i + if f i = g i then 0 else 1
theorem diffs_zero {f g : Nat → Int} (h : ∀ j, f j = g j) : ∀ i, diffs f g i = 0
  | 0 => rfl
  | i + 1 => by rw [diffs, diffs_zero h i, if_pos (h i)]
theorem diffs_one {f g : Nat → Int} {a : Nat} (h : ∀ j, j ≠ a → f j = g j) : ∀ i, diffs f g i ≤ if a < i then 1 else 0
  | 0 => Nat.zero_le _
  | i + 1 => by
    have ih := diffs_one h i
    rw [diffs]
    by_cases hi : i = a
    · subst hi
      rw [if_neg (Nat.lt_irrefl _)] at ih
      rw [if_pos (Nat.lt_succ_self _)]
      split <;> omega
    · rw [if_pos (h i hi)]
      split at ih
      · rw [if_pos (by omega)]; omega
      · split <;> omega
theorem diffs_le (f g : Nat → Int) : ∀ i, diffs f g i ≤ i
  | 0 => Nat.le_refl _
  | i + 1 => by have := diffs_le f g i; rw [diffs]; split <;> omega
def memF (l : List Int) : Nat → Int := fun j => l.getD j 0
/-- of a step: how much differs -/
theorem stepped_diffs {M X : Mach} {kd nm : Int} (h : Stepped M X kd nm) (i : Nat) : diffs X.r M.r 8 + diffs (memF X.mem) (memF M.mem) i ≤ 1 ∧ (kd = 0 ∨ diffs X.r M.r 8 + diffs (memF X.mem) (memF M.mem) i = 0) := by
  rcases h.one with ⟨h1, h2⟩ | ⟨h1, h2, a, h3⟩ | ⟨h1, h2, a, v, h3⟩
  · rw [h1, h2, diffs_zero (fun _ => rfl), diffs_zero (fun _ => rfl)]
    exact ⟨Nat.zero_le _, .inr rfl⟩
  · rw [h2, diffs_zero (f := memF M.mem) (fun _ => rfl)]
    have := diffs_one h3 8
    refine ⟨?_, .inl h1⟩
    split at this <;> omega
  · rw [h2, diffs_zero (f := M.r) (fun _ => rfl)]
    have := diffs_one (f := memF X.mem) (g := memF M.mem) (a := a) (fun j hj => by
      rw [h3]
      simp [memF, List.getD, Ne.symm hj]) i
    refine ⟨?_, .inl h1⟩
    split at this <;> omega
set_option maxRecDepth 100000 in
set_option maxHeartbeats 8000000 in
set_option linter.unusedSimpArgs false in
theorem pvmConfined_calls (A : Option Addr) (l : List Ins) (n cp : Nat) (M0 : Mach) (B : Option Addr) (k d : Nat) (hl : l.length = n) (hn : n ≤ 9223372036854775807) (hnc : n ≤ cp) (w : World) (hA : InsAt w A l) (hM : MachAt w M0 B k d) (hk : k ≤ 9223372036854775807) (hG : HasErr w) :
    Calls Tryd.prog 4 #[.slice A n cp, mv M0 B k d] w fun e w' => e = .returned (.bool true) ∧ Below w.heap.size w w' := by
  have hsh := lawShort A n cp hn hnc
  obtain ⟨p, ep⟩ : ∃ p, min n 130 = p := ⟨_, rfl⟩
  rw [ep] at hsh
  obtain ⟨q, eq⟩ : ∃ q, min k 66 = q := ⟨_, rfl⟩
  have hfw := fewM M0 B k d q eq hk hM.cap
  have hlL : (l.take 130).length = p := by rw [List.length_take, hl, ← ep, Nat.min_comm]
  have hLA := hA.take 130
  obtain ⟨L, eL⟩ : ∃ L, l.take 130 = L := ⟨_, rfl⟩
  rw [eL] at hlL hLA
  have hMA := hM.cut eq
  obtain ⟨M, eM⟩ : ∃ M, cutM M0 66 = M := ⟨_, rfl⟩
  have hmv : ∀ n, mv M0 B n d = mv M B n d := fun n => by rw [← eM]; rfl
  rw [eM] at hMA
  simp only [hmv] at hfw
  have hp : p ≤ 130 := by omega
  have hq : q ≤ 66 := by omega
  have H := Lib.hid (And.intro hlL (And.intro hLA (And.intro hMA (And.intro hsh hfw))))
  rw [hmv]
  clear hl hn hnc hA hM hk hsh ep eq hfw hlL hLA eL hMA eM hmv
  unfold mv at *
  go_enter Tryd.func4, Tryd.ntmps4
  go_wp2_with fail
  have k0 := Blk.new w 27 (mcells M B k d).toArray
  have hw0 := below_alloc w (.cells (mcells M B k d).toArray 27)
  have ew0 : w.alloc (.cells #[.int .i64 M.p, .int .i64 (M.r 0), .int .i64 (M.r 1), .int .i64 (M.r 2), .int .i64 (M.r 3), .int .i64 (M.r 4), .int .i64 (M.r 5), .int .i64 (M.r 6), .int .i64 (M.r 7), .slice B k d, .int .i64 M.s, .int .i64 M.t] 27) = w.alloc (.cells (mcells M B k d).toArray 27) := rfl
  rw [ew0]
  clear ew0
  obtain ⟨w0, ew0⟩ : ∃ W, w.alloc (.cells (mcells M B k d).toArray 27) = W := ⟨_, rfl⟩
  rw [ew0] at k0 hw0 ⊢
  clear ew0
  obtain ⟨g0, eg0⟩ : ∃ x, w.heap.size = x := ⟨_, rfl⟩
  rw [eg0] at k0 ⊢
  refine wp_region_held_drew (S := fun _ => True) (by kernel_rfl) trivial (fun _ => ?_)
  refine wpAnyH_take (i := 0) (v := ?_) (List.getElem?_toArray.trans (List.getElem?_cons_zero)) (by kernel_rfl) (by kernel_rfl) (by kernel_rfl) (fun _ _ _ h => h) (Or.inl ⟨by rfl, ?_⟩) (by assumption) ?_
  rotate_left
  · intro w' hSw; (try dsimp only at hSw); go_simp; try with_reducible rfl
  try simp only [Act.put, List.setIfInBounds_toArray, List.set_cons_zero, List.set_cons_succ]
  refine wpAnyH_ready (rs := [1, 2]) (by kernel_rfl) (by simp) ?_
  refine AllReadyH.cons (List.getElem?_toArray.trans (List.getElem?_cons_succ.trans (List.getElem?_cons_zero))) (fun K hK => ?_) ?_
  · go_simp
    go_at_call 12
    refine (H.out.2.2.2.1 _).mono ?_
    rintro e w' ⟨rfl, rfl⟩
    refine hK.out _ _ trivial (fun _ => ?_)
    clear hK K
    try simp only [Act.put, List.setIfInBounds_toArray, List.set_cons_zero, List.set_cons_succ]
    refine wpAnyH_ready (rs := [2]) (by kernel_rfl) (by simp) ?_
    refine AllReadyH.cons (List.getElem?_toArray.trans (List.getElem?_cons_succ.trans (List.getElem?_cons_succ.trans (List.getElem?_cons_zero)))) (fun K hK => ?_) AllReadyH.nil
    refine wp_load_one 27 (.tmp 3) rfl g0 rfl (mcells M B k d).toArray _ (Blk.cells (Blk.drewN k0 1)) Tryd.underlying27 rfl mach_size ?_
    refine hK.out _ _ trivial (fun _ => ?_)
    clear hK K
    try simp only [Act.put, List.setIfInBounds_toArray, List.set_cons_zero, List.set_cons_succ]
    refine wpAnyH_ready (rs := [3]) (by kernel_rfl) (by simp) ?_
    refine AllReadyH.cons (List.getElem?_toArray.trans (List.getElem?_cons_succ.trans (List.getElem?_cons_succ.trans (List.getElem?_cons_succ.trans (List.getElem?_cons_zero))))) (fun K hK => ?_) AllReadyH.nil
    go_simp
    go_at_call 13
    refine (H.out.2.2.2.2 _).mono ?_
    rintro e w4 ⟨rfl, hb4⟩
    have k4 : Blk w4 g0 27 (mcells M B k d).toArray := (Blk.drewN k0 1).below hb4 (Blk.drewN k0 1).lt
    refine hK.out _ _ trivial (fun _ => ?_)
    clear hK K
    try simp only [Act.put, List.setIfInBounds_toArray, List.set_cons_zero, List.set_cons_succ]
    refine wpAnyH_ready (rs := [4]) (by kernel_rfl) (by simp) ?_
    refine AllReadyH.cons (List.getElem?_toArray.trans (List.getElem?_cons_succ.trans (List.getElem?_cons_succ.trans (List.getElem?_cons_succ.trans (List.getElem?_cons_succ.trans (List.getElem?_cons_zero)))))) (fun K hK => ?_) AllReadyH.nil
    go_simp
    refine hK.out _ _ trivial (fun _ => ?_)
    clear hK K
    try simp only [Act.put, List.setIfInBounds_toArray, List.set_cons_zero, List.set_cons_succ]
    refine wpAnyH_ready (rs := [5]) (by kernel_rfl) (by simp) ?_
    refine AllReadyH.cons (List.getElem?_toArray.trans (List.getElem?_cons_succ.trans (List.getElem?_cons_succ.trans (List.getElem?_cons_succ.trans (List.getElem?_cons_succ.trans (List.getElem?_cons_succ.trans (List.getElem?_cons_zero))))))) (fun K hK => ?_) AllReadyH.nil
    refine wp_store_one 27 (.tmp 3) (.tmp 15) rfl g0 (mcells M B q d) rfl rfl 27 _ k4 mach_size rfl (mcells_one _ _ _ _) ?_
    intro w6 hb6 hg6
    have hz6 : Below w.heap.size w w6 := by
      have h := hw0.drew.trans (hb4.mono hw0.drew.size)
      exact h.grown hg6 h.size (fun g e => by cases e; exact Nat.le_of_eq eg0)
    refine hK.out _ _ trivial (fun _ => ?_)
    clear hK K
    try simp only [Act.put, List.setIfInBounds_toArray, List.set_cons_zero, List.set_cons_succ]
    refine wpAnyH_done (by kernel_rfl) ?_ _
    have HW := Lib.hid (And.intro hb6 hz6)
    clear hb6 hg6 hz6 hb4 k4
    go_wp2_with (first | (with_reducible refine st_load 27 ?_; refine stopped ?_) | fail)
    refine go_on ?_
    refine wpList_load_at rfl 27 (.tmp 3) rfl g0 0 rfl (mcells M B q d).toArray _ (Blk.cells HW.out.1) Tryd.underlying27 rfl mach_size ?_
    simp only [Act.put, List.setIfInBounds_toArray, List.set_cons_zero, List.set_cons_succ]
    have hst := pvStep A L p cp H.out.1 (by omega) w6 (H.out.2.1.below HW.out.2) (hG.below HW.out.2) M B q d (H.out.2.2.1.below HW.out.2) (by omega)
    have hse := stepM_stepped L M
    obtain ⟨X, kd, nm, es⟩ : ∃ X kd nm, stepM L M = (X, kd, nm) := ⟨_, _, _, rfl⟩
    rw [es] at hst hse
    have hxq : X.mem.length = q := hse.len.trans H.out.2.2.1.len
    have HE := Lib.hid (And.intro hst (And.intro hse hxq))
    clear hst hse es
    go_wp2_with fail
    refine HE.out.1.mono ?_
    rintro e w4 ⟨A4, c4, rfl, _, hr4, hb4⟩
    dsimp only at hr4 hb4 ⊢
    rw [hxq] at hr4 ⊢
    have k9 := (Blk.new w4 27 (mcells X A4 q c4).toArray).alloc (.cells #[.int .i64 kd, .int .i64 nm] 38)
    have kE := blk2 w4 (.cells (mcells X A4 q c4).toArray 27) 38 #[.int .i64 kd, .int .i64 nm]
    have kg := ((HW.out.1.below hb4 HW.out.1.lt).alloc (.cells (mcells X A4 q c4).toArray 27)).alloc (.cells #[.int .i64 kd, .int .i64 nm] 38)
    have hrw := row_alloc (row_alloc hr4 (.cells (mcells X A4 q c4).toArray 27)) (.cells #[.int .i64 kd, .int .i64 nm] 38)
    have hb5 : Below w.heap.size w ((w4.alloc (.cells (mcells X A4 q c4).toArray 27)).alloc (.cells #[.int .i64 kd, .int .i64 nm] 38)) := by
      have h := HW.out.2.trans (hb4.mono HW.out.2.size)
      exact (h.alloc h.size _).alloc (by rw [size_alloc1]; exact Nat.le_succ_of_le h.size) _
    obtain ⟨w5, ew5⟩ : ∃ W, (w4.alloc (.cells (mcells X A4 q c4).toArray 27)).alloc (.cells #[.int .i64 kd, .int .i64 nm] 38) = W := ⟨_, rfl⟩
    rw [ew5] at k9 kE kg hrw hb5
    have ew5' : (w4.alloc (.cells #[.int .i64 X.p, .int .i64 (X.r 0), .int .i64 (X.r 1), .int .i64 (X.r 2), .int .i64 (X.r 3), .int .i64 (X.r 4), .int .i64 (X.r 5), .int .i64 (X.r 6), .int .i64 (X.r 7), .slice A4 q c4, .int .i64 X.s, .int .i64 X.t] 27)).alloc (.cells #[.int .i64 kd, .int .i64 nm] 38) = w5 := ew5
    unfold mv ev
    go_wp2_with (first | (with_reducible refine st_load 24 ?_; refine stopped ?_) | fail)
    try rw [ew5']
    obtain ⟨g4, eg4⟩ : ∃ x, w4.heap.size = x := ⟨_, rfl⟩
    obtain ⟨g5, eg5⟩ : ∃ x, g4 + 1 = x := ⟨_, rfl⟩
    rw [eg4] at k9 kE ⊢
    rw [eg5] at kE ⊢
    have hVA : Vs w5 w5.heap.size A4 (zv X.mem) := by
      obtain ⟨_, _, e2, _, _, hv2, _⟩ := vs_of_row hrw
      injection e2 with e21 e22 e23
      rw [e21]
      exact hv2
    have hVB : Vs w5 w5.heap.size B (zv M.mem) := (H.out.2.2.1.below hb5).vs
    have f1 : ∀ W, Below w5.heap.size w5 W → W.cell? ⟨g4, 9, none⟩ = some (.slice A4 q c4) := fun W h => by rw [(k9.below h k9.lt).cell]; rfl
    have f2 : ∀ W, Below w5.heap.size w5 W → W.cell? ⟨g0, 9, none⟩ = some (.slice B q d) := fun W h => by rw [(kg.below h kg.lt).cell]; rfl
    have f3 : ∀ W, Below w5.heap.size w5 W → W.cell? ⟨g4, 10, none⟩ = some (.int .i64 X.s) := fun W h => by rw [(k9.below h k9.lt).cell]; rfl
    have f4 : ∀ W, Below w5.heap.size w5 W → W.cell? ⟨g0, 10, none⟩ = some (.int .i64 M.s) := fun W h => by rw [(kg.below h kg.lt).cell]; rfl
    have f5 : ∀ W, Below w5.heap.size w5 W → W.cell? ⟨g4, 11, none⟩ = some (.int .i64 X.t) := fun W h => by rw [(k9.below h k9.lt).cell]; rfl
    have f6 : ∀ W, Below w5.heap.size w5 W → W.cell? ⟨g4, 0, none⟩ = some (.int .i64 X.p) := fun W h => by rw [(k9.below h k9.lt).cell]; rfl
    have f7 : ∀ W, Below w5.heap.size w5 W → W.cell? ⟨g0, 0, none⟩ = some (.int .i64 M.p) := fun W h => by rw [(kg.below h kg.lt).cell]; rfl
    have f8 : ∀ W, Below w5.heap.size w5 W → W.cell? ⟨g5, 0, none⟩ = some (.int .i64 kd) := fun W h => by rw [(kE.below h kE.lt).cell]; rfl
    have f9 : ∀ W, Below w5.heap.size w5 W → W.cell? ⟨g5, 1, none⟩ = some (.int .i64 nm) := fun W h => by rw [(kE.below h kE.lt).cell]; rfl
    have fx : ∀ W, Below w5.heap.size w5 W → ∀ i, i < 8 → W.cell? ⟨g4, 1 + i, none⟩ = some (.int .i64 (X.r i)) := fun W h i hi => by rw [(k9.below h k9.lt).cell]; exact mcells_reg _ _ _ _ i hi
    have fm : ∀ W, Below w5.heap.size w5 W → ∀ i, i < 8 → W.cell? ⟨g0, 1 + i, none⟩ = some (.int .i64 (M.r i)) := fun W h i hi => by rw [(kg.below h kg.lt).cell]; exact mcells_reg _ _ _ _ i hi
    have hB0 : Below w5.heap.size w5 w5 := Below.refl _ _
    have HF := Lib.hid (And.intro hVA (And.intro hVB (And.intro hb5 (And.intro fx fm))))
    clear k9 kE kg hrw hb5 ew5 ew5' hr4 hb4 eg4 eg5 hVA hVB fx fm
    refine go_on ?_
    go_wp2_with fail
    go_loopw [7, 8] (fun u v wz => ∃ i : Nat, i ≤ 8 ∧ u = .int .i64 ((diffs X.r M.r i : Nat) : Int) ∧ v = .int .i64 (i : Int) ∧ Below w5.heap.size w5 wz) (fun _ v _ => 8 - (intOf v).toNat)
    case atStart => exact ⟨0, by omega, rfl, rfl, hB0⟩
    case round =>
      obtain ⟨i, hi8, rfl, rfl, hbz⟩ := hrel
      obtain ⟨dn, edn⟩ : ∃ dn, diffs X.r M.r i = dn := ⟨_, rfl⟩
      have hdn : dn ≤ 8 + i := by have := diffs_le X.r M.r i; omega
      rw [edn]
      by_cases hlt : i < 8
      · have hii : (i : Int) < (8 : Int) := by omega
        have hi0 : (0 : Int) ≤ (i : Int) := by omega
        have a0 : wr.cell? ⟨g4, 1 + i, none⟩ = some (.int .i64 (X.r i)) := HF.out.2.2.2.1 _ hbz i hlt
        have b0 : wr.cell? ⟨g0, 1 + i, none⟩ = some (.int .i64 (M.r i)) := HF.out.2.2.2.2 _ hbz i hlt
        obtain ⟨x, ex⟩ : ∃ x, X.r i = x := ⟨_, rfl⟩
        obtain ⟨y, ey⟩ : ∃ y, M.r i = y := ⟨_, rfl⟩
        rw [ex] at a0
        rw [ey] at b0
        have HB := Lib.hid (And.intro hbz edn)
        clear hbz edn
        by_cases hxy : x = y
        · have HD := Lib.hid (show diffs X.r M.r (i + 1) = dn by rw [diffs, if_pos (by rw [ex, ey]; exact hxy)]; exact HB.out.2)
          clear ex ey
          subst hxy
          go_wp2_with fail
          go_quiet (fail)
          rename_i nq
          go_wp2_with fail
          go_roundw
          case rel => exact ⟨i + 1, by omega, by rw [HD.out], by go_num, below_drewN HB.out.1 nq⟩
          case measure => simp only [intOf]; omega
        · have HD := Lib.hid (show diffs X.r M.r (i + 1) = dn + 1 by rw [diffs, if_neg (by rw [ex, ey]; exact hxy)]; have := HB.out.2; omega)
          clear ex ey
          have hxb : (x == y) = false := beq_eq_false_iff_ne.2 hxy
          go_wp2_with fail
          go_quiet (fail)
          rename_i nq
          go_wp2_with fail
          go_roundw
          case rel => exact ⟨i + 1, by omega, by rw [HD.out]; go_num, by go_num, below_drewN HB.out.1 nq⟩
          case measure => simp only [intOf]; omega
      · obtain rfl : i = 8 := by omega
        have hii : ¬ ((8 : Nat) : Int) < (8 : Int) := by omega
        have HB1 := Lib.hid hbz
        have HD1 := Lib.hid edn
        clear edn
        go_wp2_with fail
        go_loopw [7, 9] (fun u v wz => ∃ i : Nat, i ≤ q ∧ u = .int .i64 ((dn + diffs (memF X.mem) (memF M.mem) i : Nat) : Int) ∧ v = .int .i64 (i : Int) ∧ Below w5.heap.size w5 wz) (fun _ v _ => q - (intOf v).toNat)
        case atStart => exact ⟨0, by omega, rfl, rfl, HB1.out⟩
        case round =>
          obtain ⟨i, hi8, rfl, rfl, hbz⟩ := hrel
          obtain ⟨dm, edm⟩ : ∃ dm, dn + diffs (memF X.mem) (memF M.mem) i = dm := ⟨_, rfl⟩
          have hdm : dm ≤ dn + i := by have := diffs_le (memF X.mem) (memF M.mem) i; omega
          rw [edm]
          by_cases hlt : i < q
          · have hii : (i : Int) < (q : Int) := by omega
            have hi0 : (0 : Int) ≤ (i : Int) := by omega
            have c0 := f1 _ hbz
            have c1 := f2 _ hbz
            obtain ⟨x, ex⟩ : ∃ x, memF X.mem i = x := ⟨_, rfl⟩
            obtain ⟨y, ey⟩ : ∃ y, memF M.mem i = y := ⟨_, rfl⟩
            have zx := zv_get (l := X.mem) (j := i) (by rw [hxq]; exact hlt)
            have zy := zv_get (l := M.mem) (j := i) (by rw [H.out.2.2.1.len]; exact hlt)
            rw [show X.mem.getD i 0 = x from ex] at zx
            rw [show M.mem.getD i 0 = y from ey] at zy
            obtain ⟨ba, oa, eA, hba, hca⟩ := HF.out.1 (by rw [zv_length, hxq]; omega)
            obtain ⟨bb, ob, eB, hbb, hcb⟩ := HF.out.2.1 (by rw [zv_length, H.out.2.2.1.len]; omega)
            have a0 : wr.cell? ⟨ba, oa + i, none⟩ = some (.int .i64 x) := (hbz.cell (p := ⟨ba, oa + i, none⟩) hba).trans (hca i _ zx)
            have b0 : wr.cell? ⟨bb, ob + i, none⟩ = some (.int .i64 y) := (hbz.cell (p := ⟨bb, ob + i, none⟩) hbb).trans (hcb i _ zy)
            subst eA eB
            clear hca hcb zx zy
            have HB := Lib.hid (And.intro hbz edm)
            clear hbz edm
            by_cases hxy : x = y
            · have HD := Lib.hid (show dn + diffs (memF X.mem) (memF M.mem) (i + 1) = dm by rw [diffs, if_pos (by rw [ex, ey]; exact hxy)]; exact HB.out.2)
              clear ex ey
              subst hxy
              go_wp2_with fail
              go_quiet (fail)
              rename_i nq
              go_wp2_with fail
              go_roundw
              case rel => exact ⟨i + 1, by omega, by rw [HD.out], by go_num, below_drewN HB.out.1 nq⟩
              case measure => simp only [intOf]; omega
            · have HD := Lib.hid (show dn + diffs (memF X.mem) (memF M.mem) (i + 1) = dm + 1 by rw [diffs, if_neg (by rw [ex, ey]; exact hxy)]; have := HB.out.2; omega)
              clear ex ey
              have hxb : (x == y) = false := beq_eq_false_iff_ne.2 hxy
              go_wp2_with fail
              go_quiet (fail)
              rename_i nq
              go_wp2_with fail
              go_roundw
              case rel => exact ⟨i + 1, by omega, by rw [HD.out]; go_num, by go_num, below_drewN HB.out.1 nq⟩
              case measure => simp only [intOf]; omega
          · obtain rfl : i = q := by omega
            have hii : ¬ (i : Int) < (i : Int) := by omega
            have hT := stepped_diffs HE.out.2.1 i
            rw [HD1.out, edm] at hT
            have hT1 : (dm : Int) ≤ 1 := by omega
            have HT := Lib.hid hT.2
            have hst9 := HE.out.2.1.stays
            have HS9 := Lib.hid hst9
            have g3 := f3 _ hbz
            have g4' := f4 _ hbz
            have g5' := f5 _ hbz
            have g6 := f6 _ hbz
            have g7 := f7 _ hbz
            have g8 := f8 _ hbz
            have g9 := f9 _ hbz
            have c1' := f2 _ hbz
            have HZ := Lib.hid (HF.out.2.2.1.trans (hbz.mono HF.out.2.2.1.size))
            clear hT hst9 hbz edm f1 f2 f3 f4 f5 f6 f7 f8 f9 hxq HD1 HB1
            obtain ⟨xs, exs⟩ : ∃ y, X.s = y := ⟨_, rfl⟩
            obtain ⟨ms, ems⟩ : ∃ y, M.s = y := ⟨_, rfl⟩
            obtain ⟨xt, ext⟩ : ∃ y, X.t = y := ⟨_, rfl⟩
            obtain ⟨xp, exp⟩ : ∃ y, X.p = y := ⟨_, rfl⟩
            obtain ⟨mp, emp⟩ : ∃ y, M.p = y := ⟨_, rfl⟩
            rw [exs] at g3
            rw [ems] at g4'
            rw [ext] at g5'
            rw [exp] at g6
            rw [emp] at g7
            have hst8 := HS9.out
            rw [exs, ems, ext, exp, emp] at hst8
            rcases hst8 with e1 | ⟨e0, ⟨e1, e2⟩ | ⟨e1, e2, e3, e4⟩⟩
            · subst e1
              by_cases hk0 : kd = 0
              · have b1 : (kd == 0) = true := by rw [hk0]; rfl
                go_wp2_with (first | (go_at_call 11; refine (pvmAwake _ (hG.below HZ.out)).mono ?_; rintro e w9 ⟨rfl, hb9⟩) | fail)
                go_ret
                exact ⟨rfl, HZ.out.trans (hb9.mono HZ.out.size)⟩
              · have b1 : (kd == 0) = false := beq_eq_false_iff_ne.2 hk0
                obtain rfl : dm = 0 := by rcases HT.out with h | h; exact absurd h hk0; exact h
                go_wp2_with (first | (go_at_call 11; refine (pvmAwake _ (hG.below HZ.out)).mono ?_; rintro e w9 ⟨rfl, hb9⟩) | fail)
                go_ret
                exact ⟨rfl, HZ.out.trans (hb9.mono HZ.out.size)⟩
            · subst e0 e1 e2
              obtain rfl : dm = 0 := by rcases HT.out with h | h; exact absurd h (by decide); exact h
              go_wp2_with (first | (go_at_call 11; refine (pvmAwake _ (hG.below HZ.out)).mono ?_; rintro e w9 ⟨rfl, hb9⟩) | fail)
              go_ret
              exact ⟨rfl, HZ.out.trans (hb9.mono HZ.out.size)⟩
            · subst e0 e1 e2 e3 e4
              obtain rfl : dm = 0 := by rcases HT.out with h | h; exact absurd h (by decide); exact h
              go_wp2_with (first | (go_at_call 11; refine (pvmAwake _ (hG.below HZ.out)).mono ?_; rintro e w9 ⟨rfl, hb9⟩) | fail)
              go_ret
              exact ⟨rfl, HZ.out.trans (hb9.mono HZ.out.size)⟩
  refine AllReadyH.cons (List.getElem?_toArray.trans (List.getElem?_cons_succ.trans (List.getElem?_cons_succ.trans (List.getElem?_cons_zero)))) (fun K hK => ?_) AllReadyH.nil
  refine wp_load_one 27 (.tmp 3) rfl g0 rfl (mcells M B k d).toArray _ (Blk.cells (Blk.drewN k0 1)) Tryd.underlying27 rfl mach_size ?_
  refine hK.out _ _ trivial (fun _ => ?_)
  clear hK K
  try simp only [Act.put, List.setIfInBounds_toArray, List.set_cons_zero, List.set_cons_succ]
  refine wpAnyH_ready (rs := [1]) (by kernel_rfl) (by simp) ?_
  refine AllReadyH.cons (List.getElem?_toArray.trans (List.getElem?_cons_succ.trans (List.getElem?_cons_zero))) (fun K hK => ?_) AllReadyH.nil
  go_simp
  go_at_call 12
  refine (H.out.2.2.2.1 _).mono ?_
  rintro e w' ⟨rfl, rfl⟩
  refine hK.out _ _ trivial (fun _ => ?_)
  clear hK K
  try simp only [Act.put, List.setIfInBounds_toArray, List.set_cons_zero, List.set_cons_succ]
  refine wpAnyH_ready (rs := [3]) (by kernel_rfl) (by simp) ?_
  refine AllReadyH.cons (List.getElem?_toArray.trans (List.getElem?_cons_succ.trans (List.getElem?_cons_succ.trans (List.getElem?_cons_succ.trans (List.getElem?_cons_zero))))) (fun K hK => ?_) AllReadyH.nil
  go_simp
  go_at_call 13
  refine (H.out.2.2.2.2 _).mono ?_
  rintro e w4 ⟨rfl, hb4⟩
  have k4 : Blk w4 g0 27 (mcells M B k d).toArray := (Blk.drewN k0 1).below hb4 (Blk.drewN k0 1).lt
  refine hK.out _ _ trivial (fun _ => ?_)
  clear hK K
  try simp only [Act.put, List.setIfInBounds_toArray, List.set_cons_zero, List.set_cons_succ]
  refine wpAnyH_ready (rs := [4]) (by kernel_rfl) (by simp) ?_
  refine AllReadyH.cons (List.getElem?_toArray.trans (List.getElem?_cons_succ.trans (List.getElem?_cons_succ.trans (List.getElem?_cons_succ.trans (List.getElem?_cons_succ.trans (List.getElem?_cons_zero)))))) (fun K hK => ?_) AllReadyH.nil
  go_simp
  refine hK.out _ _ trivial (fun _ => ?_)
  clear hK K
  try simp only [Act.put, List.setIfInBounds_toArray, List.set_cons_zero, List.set_cons_succ]
  refine wpAnyH_ready (rs := [5]) (by kernel_rfl) (by simp) ?_
  refine AllReadyH.cons (List.getElem?_toArray.trans (List.getElem?_cons_succ.trans (List.getElem?_cons_succ.trans (List.getElem?_cons_succ.trans (List.getElem?_cons_succ.trans (List.getElem?_cons_succ.trans (List.getElem?_cons_zero))))))) (fun K hK => ?_) AllReadyH.nil
  refine wp_store_one 27 (.tmp 3) (.tmp 15) rfl g0 (mcells M B q d) rfl rfl 27 _ k4 mach_size rfl (mcells_one _ _ _ _) ?_
  intro w6 hb6 hg6
  have hz6 : Below w.heap.size w w6 := by
    have h := hw0.drew.trans (hb4.mono hw0.drew.size)
    exact h.grown hg6 h.size (fun g e => by cases e; exact Nat.le_of_eq eg0)
  refine hK.out _ _ trivial (fun _ => ?_)
  clear hK K
  try simp only [Act.put, List.setIfInBounds_toArray, List.set_cons_zero, List.set_cons_succ]
  refine wpAnyH_done (by kernel_rfl) ?_ _
  have HW := Lib.hid (And.intro hb6 hz6)
  clear hb6 hg6 hz6 hb4 k4
  go_wp2_with (first | (with_reducible refine st_load 27 ?_; refine stopped ?_) | fail)
  refine go_on ?_
  refine wpList_load_at rfl 27 (.tmp 3) rfl g0 0 rfl (mcells M B q d).toArray _ (Blk.cells HW.out.1) Tryd.underlying27 rfl mach_size ?_
  simp only [Act.put, List.setIfInBounds_toArray, List.set_cons_zero, List.set_cons_succ]
  have hst := pvStep A L p cp H.out.1 (by omega) w6 (H.out.2.1.below HW.out.2) (hG.below HW.out.2) M B q d (H.out.2.2.1.below HW.out.2) (by omega)
  have hse := stepM_stepped L M
  obtain ⟨X, kd, nm, es⟩ : ∃ X kd nm, stepM L M = (X, kd, nm) := ⟨_, _, _, rfl⟩
  rw [es] at hst hse
  have hxq : X.mem.length = q := hse.len.trans H.out.2.2.1.len
  have HE := Lib.hid (And.intro hst (And.intro hse hxq))
  clear hst hse es
  go_wp2_with fail
  refine HE.out.1.mono ?_
  rintro e w4 ⟨A4, c4, rfl, _, hr4, hb4⟩
  dsimp only at hr4 hb4 ⊢
  rw [hxq] at hr4 ⊢
  have k9 := (Blk.new w4 27 (mcells X A4 q c4).toArray).alloc (.cells #[.int .i64 kd, .int .i64 nm] 38)
  have kE := blk2 w4 (.cells (mcells X A4 q c4).toArray 27) 38 #[.int .i64 kd, .int .i64 nm]
  have kg := ((HW.out.1.below hb4 HW.out.1.lt).alloc (.cells (mcells X A4 q c4).toArray 27)).alloc (.cells #[.int .i64 kd, .int .i64 nm] 38)
  have hrw := row_alloc (row_alloc hr4 (.cells (mcells X A4 q c4).toArray 27)) (.cells #[.int .i64 kd, .int .i64 nm] 38)
  have hb5 : Below w.heap.size w ((w4.alloc (.cells (mcells X A4 q c4).toArray 27)).alloc (.cells #[.int .i64 kd, .int .i64 nm] 38)) := by
    have h := HW.out.2.trans (hb4.mono HW.out.2.size)
    exact (h.alloc h.size _).alloc (by rw [size_alloc1]; exact Nat.le_succ_of_le h.size) _
  obtain ⟨w5, ew5⟩ : ∃ W, (w4.alloc (.cells (mcells X A4 q c4).toArray 27)).alloc (.cells #[.int .i64 kd, .int .i64 nm] 38) = W := ⟨_, rfl⟩
  rw [ew5] at k9 kE kg hrw hb5
  have ew5' : (w4.alloc (.cells #[.int .i64 X.p, .int .i64 (X.r 0), .int .i64 (X.r 1), .int .i64 (X.r 2), .int .i64 (X.r 3), .int .i64 (X.r 4), .int .i64 (X.r 5), .int .i64 (X.r 6), .int .i64 (X.r 7), .slice A4 q c4, .int .i64 X.s, .int .i64 X.t] 27)).alloc (.cells #[.int .i64 kd, .int .i64 nm] 38) = w5 := ew5
  unfold mv ev
  go_wp2_with (first | (with_reducible refine st_load 24 ?_; refine stopped ?_) | fail)
  try rw [ew5']
  obtain ⟨g4, eg4⟩ : ∃ x, w4.heap.size = x := ⟨_, rfl⟩
  obtain ⟨g5, eg5⟩ : ∃ x, g4 + 1 = x := ⟨_, rfl⟩
  rw [eg4] at k9 kE ⊢
  rw [eg5] at kE ⊢
  have hVA : Vs w5 w5.heap.size A4 (zv X.mem) := by
    obtain ⟨_, _, e2, _, _, hv2, _⟩ := vs_of_row hrw
    injection e2 with e21 e22 e23
    rw [e21]
    exact hv2
  have hVB : Vs w5 w5.heap.size B (zv M.mem) := (H.out.2.2.1.below hb5).vs
  have f1 : ∀ W, Below w5.heap.size w5 W → W.cell? ⟨g4, 9, none⟩ = some (.slice A4 q c4) := fun W h => by rw [(k9.below h k9.lt).cell]; rfl
  have f2 : ∀ W, Below w5.heap.size w5 W → W.cell? ⟨g0, 9, none⟩ = some (.slice B q d) := fun W h => by rw [(kg.below h kg.lt).cell]; rfl
  have f3 : ∀ W, Below w5.heap.size w5 W → W.cell? ⟨g4, 10, none⟩ = some (.int .i64 X.s) := fun W h => by rw [(k9.below h k9.lt).cell]; rfl
  have f4 : ∀ W, Below w5.heap.size w5 W → W.cell? ⟨g0, 10, none⟩ = some (.int .i64 M.s) := fun W h => by rw [(kg.below h kg.lt).cell]; rfl
  have f5 : ∀ W, Below w5.heap.size w5 W → W.cell? ⟨g4, 11, none⟩ = some (.int .i64 X.t) := fun W h => by rw [(k9.below h k9.lt).cell]; rfl
  have f6 : ∀ W, Below w5.heap.size w5 W → W.cell? ⟨g4, 0, none⟩ = some (.int .i64 X.p) := fun W h => by rw [(k9.below h k9.lt).cell]; rfl
  have f7 : ∀ W, Below w5.heap.size w5 W → W.cell? ⟨g0, 0, none⟩ = some (.int .i64 M.p) := fun W h => by rw [(kg.below h kg.lt).cell]; rfl
  have f8 : ∀ W, Below w5.heap.size w5 W → W.cell? ⟨g5, 0, none⟩ = some (.int .i64 kd) := fun W h => by rw [(kE.below h kE.lt).cell]; rfl
  have f9 : ∀ W, Below w5.heap.size w5 W → W.cell? ⟨g5, 1, none⟩ = some (.int .i64 nm) := fun W h => by rw [(kE.below h kE.lt).cell]; rfl
  have fx : ∀ W, Below w5.heap.size w5 W → ∀ i, i < 8 → W.cell? ⟨g4, 1 + i, none⟩ = some (.int .i64 (X.r i)) := fun W h i hi => by rw [(k9.below h k9.lt).cell]; exact mcells_reg _ _ _ _ i hi
  have fm : ∀ W, Below w5.heap.size w5 W → ∀ i, i < 8 → W.cell? ⟨g0, 1 + i, none⟩ = some (.int .i64 (M.r i)) := fun W h i hi => by rw [(kg.below h kg.lt).cell]; exact mcells_reg _ _ _ _ i hi
  have hB0 : Below w5.heap.size w5 w5 := Below.refl _ _
  have HF := Lib.hid (And.intro hVA (And.intro hVB (And.intro hb5 (And.intro fx fm))))
  clear k9 kE kg hrw hb5 ew5 ew5' hr4 hb4 eg4 eg5 hVA hVB fx fm
  refine go_on ?_
  go_wp2_with fail
  go_loopw [7, 8] (fun u v wz => ∃ i : Nat, i ≤ 8 ∧ u = .int .i64 ((diffs X.r M.r i : Nat) : Int) ∧ v = .int .i64 (i : Int) ∧ Below w5.heap.size w5 wz) (fun _ v _ => 8 - (intOf v).toNat)
  case atStart => exact ⟨0, by omega, rfl, rfl, hB0⟩
  case round =>
    obtain ⟨i, hi8, rfl, rfl, hbz⟩ := hrel
    obtain ⟨dn, edn⟩ : ∃ dn, diffs X.r M.r i = dn := ⟨_, rfl⟩
    have hdn : dn ≤ 8 + i := by have := diffs_le X.r M.r i; omega
    rw [edn]
    by_cases hlt : i < 8
    · have hii : (i : Int) < (8 : Int) := by omega
      have hi0 : (0 : Int) ≤ (i : Int) := by omega
      have a0 : wr.cell? ⟨g4, 1 + i, none⟩ = some (.int .i64 (X.r i)) := HF.out.2.2.2.1 _ hbz i hlt
      have b0 : wr.cell? ⟨g0, 1 + i, none⟩ = some (.int .i64 (M.r i)) := HF.out.2.2.2.2 _ hbz i hlt
      obtain ⟨x, ex⟩ : ∃ x, X.r i = x := ⟨_, rfl⟩
      obtain ⟨y, ey⟩ : ∃ y, M.r i = y := ⟨_, rfl⟩
      rw [ex] at a0
      rw [ey] at b0
      have HB := Lib.hid (And.intro hbz edn)
      clear hbz edn
      by_cases hxy : x = y
      · have HD := Lib.hid (show diffs X.r M.r (i + 1) = dn by rw [diffs, if_pos (by rw [ex, ey]; exact hxy)]; exact HB.out.2)
        clear ex ey
        subst hxy
        go_wp2_with fail
        go_quiet (fail)
        rename_i nq
        go_wp2_with fail
        go_roundw
        case rel => exact ⟨i + 1, by omega, by rw [HD.out], by go_num, below_drewN HB.out.1 nq⟩
        case measure => simp only [intOf]; omega
      · have HD := Lib.hid (show diffs X.r M.r (i + 1) = dn + 1 by rw [diffs, if_neg (by rw [ex, ey]; exact hxy)]; have := HB.out.2; omega)
        clear ex ey
        have hxb : (x == y) = false := beq_eq_false_iff_ne.2 hxy
        go_wp2_with fail
        go_quiet (fail)
        rename_i nq
        go_wp2_with fail
        go_roundw
        case rel => exact ⟨i + 1, by omega, by rw [HD.out]; go_num, by go_num, below_drewN HB.out.1 nq⟩
        case measure => simp only [intOf]; omega
    · obtain rfl : i = 8 := by omega
      have hii : ¬ ((8 : Nat) : Int) < (8 : Int) := by omega
      have HB1 := Lib.hid hbz
      have HD1 := Lib.hid edn
      clear edn
      go_wp2_with fail
      go_loopw [7, 9] (fun u v wz => ∃ i : Nat, i ≤ q ∧ u = .int .i64 ((dn + diffs (memF X.mem) (memF M.mem) i : Nat) : Int) ∧ v = .int .i64 (i : Int) ∧ Below w5.heap.size w5 wz) (fun _ v _ => q - (intOf v).toNat)
      case atStart => exact ⟨0, by omega, rfl, rfl, HB1.out⟩
      case round =>
        obtain ⟨i, hi8, rfl, rfl, hbz⟩ := hrel
        obtain ⟨dm, edm⟩ : ∃ dm, dn + diffs (memF X.mem) (memF M.mem) i = dm := ⟨_, rfl⟩
        have hdm : dm ≤ dn + i := by have := diffs_le (memF X.mem) (memF M.mem) i; omega
        rw [edm]
        by_cases hlt : i < q
        · have hii : (i : Int) < (q : Int) := by omega
          have hi0 : (0 : Int) ≤ (i : Int) := by omega
          have c0 := f1 _ hbz
          have c1 := f2 _ hbz
          obtain ⟨x, ex⟩ : ∃ x, memF X.mem i = x := ⟨_, rfl⟩
          obtain ⟨y, ey⟩ : ∃ y, memF M.mem i = y := ⟨_, rfl⟩
          have zx := zv_get (l := X.mem) (j := i) (by rw [hxq]; exact hlt)
          have zy := zv_get (l := M.mem) (j := i) (by rw [H.out.2.2.1.len]; exact hlt)
          rw [show X.mem.getD i 0 = x from ex] at zx
          rw [show M.mem.getD i 0 = y from ey] at zy
          obtain ⟨ba, oa, eA, hba, hca⟩ := HF.out.1 (by rw [zv_length, hxq]; omega)
          obtain ⟨bb, ob, eB, hbb, hcb⟩ := HF.out.2.1 (by rw [zv_length, H.out.2.2.1.len]; omega)
          have a0 : wr.cell? ⟨ba, oa + i, none⟩ = some (.int .i64 x) := (hbz.cell (p := ⟨ba, oa + i, none⟩) hba).trans (hca i _ zx)
          have b0 : wr.cell? ⟨bb, ob + i, none⟩ = some (.int .i64 y) := (hbz.cell (p := ⟨bb, ob + i, none⟩) hbb).trans (hcb i _ zy)
          subst eA eB
          clear hca hcb zx zy
          have HB := Lib.hid (And.intro hbz edm)
          clear hbz edm
          by_cases hxy : x = y
          · have HD := Lib.hid (show dn + diffs (memF X.mem) (memF M.mem) (i + 1) = dm by rw [diffs, if_pos (by rw [ex, ey]; exact hxy)]; exact HB.out.2)
            clear ex ey
            subst hxy
            go_wp2_with fail
            go_quiet (fail)
            rename_i nq
            go_wp2_with fail
            go_roundw
            case rel => exact ⟨i + 1, by omega, by rw [HD.out], by go_num, below_drewN HB.out.1 nq⟩
            case measure => simp only [intOf]; omega
          · have HD := Lib.hid (show dn + diffs (memF X.mem) (memF M.mem) (i + 1) = dm + 1 by rw [diffs, if_neg (by rw [ex, ey]; exact hxy)]; have := HB.out.2; omega)
            clear ex ey
            have hxb : (x == y) = false := beq_eq_false_iff_ne.2 hxy
            go_wp2_with fail
            go_quiet (fail)
            rename_i nq
            go_wp2_with fail
            go_roundw
            case rel => exact ⟨i + 1, by omega, by rw [HD.out]; go_num, by go_num, below_drewN HB.out.1 nq⟩
            case measure => simp only [intOf]; omega
        · obtain rfl : i = q := by omega
          have hii : ¬ (i : Int) < (i : Int) := by omega
          have hT := stepped_diffs HE.out.2.1 i
          rw [HD1.out, edm] at hT
          have hT1 : (dm : Int) ≤ 1 := by omega
          have HT := Lib.hid hT.2
          have hst9 := HE.out.2.1.stays
          have HS9 := Lib.hid hst9
          have g3 := f3 _ hbz
          have g4' := f4 _ hbz
          have g5' := f5 _ hbz
          have g6 := f6 _ hbz
          have g7 := f7 _ hbz
          have g8 := f8 _ hbz
          have g9 := f9 _ hbz
          have c1' := f2 _ hbz
          have HZ := Lib.hid (HF.out.2.2.1.trans (hbz.mono HF.out.2.2.1.size))
          clear hT hst9 hbz edm f1 f2 f3 f4 f5 f6 f7 f8 f9 hxq HD1 HB1
          obtain ⟨xs, exs⟩ : ∃ y, X.s = y := ⟨_, rfl⟩
          obtain ⟨ms, ems⟩ : ∃ y, M.s = y := ⟨_, rfl⟩
          obtain ⟨xt, ext⟩ : ∃ y, X.t = y := ⟨_, rfl⟩
          obtain ⟨xp, exp⟩ : ∃ y, X.p = y := ⟨_, rfl⟩
          obtain ⟨mp, emp⟩ : ∃ y, M.p = y := ⟨_, rfl⟩
          rw [exs] at g3
          rw [ems] at g4'
          rw [ext] at g5'
          rw [exp] at g6
          rw [emp] at g7
          have hst8 := HS9.out
          rw [exs, ems, ext, exp, emp] at hst8
          rcases hst8 with e1 | ⟨e0, ⟨e1, e2⟩ | ⟨e1, e2, e3, e4⟩⟩
          · subst e1
            by_cases hk0 : kd = 0
            · have b1 : (kd == 0) = true := by rw [hk0]; rfl
              go_wp2_with (first | (go_at_call 11; refine (pvmAwake _ (hG.below HZ.out)).mono ?_; rintro e w9 ⟨rfl, hb9⟩) | fail)
              go_ret
              exact ⟨rfl, HZ.out.trans (hb9.mono HZ.out.size)⟩
            · have b1 : (kd == 0) = false := beq_eq_false_iff_ne.2 hk0
              obtain rfl : dm = 0 := by rcases HT.out with h | h; exact absurd h hk0; exact h
              go_wp2_with (first | (go_at_call 11; refine (pvmAwake _ (hG.below HZ.out)).mono ?_; rintro e w9 ⟨rfl, hb9⟩) | fail)
              go_ret
              exact ⟨rfl, HZ.out.trans (hb9.mono HZ.out.size)⟩
          · subst e0 e1 e2
            obtain rfl : dm = 0 := by rcases HT.out with h | h; exact absurd h (by decide); exact h
            go_wp2_with (first | (go_at_call 11; refine (pvmAwake _ (hG.below HZ.out)).mono ?_; rintro e w9 ⟨rfl, hb9⟩) | fail)
            go_ret
            exact ⟨rfl, HZ.out.trans (hb9.mono HZ.out.size)⟩
          · subst e0 e1 e2 e3 e4
            obtain rfl : dm = 0 := by rcases HT.out with h | h; exact absurd h (by decide); exact h
            go_wp2_with (first | (go_at_call 11; refine (pvmAwake _ (hG.below HZ.out)).mono ?_; rintro e w9 ⟨rfl, hb9⟩) | fail)
            go_ret
            exact ⟨rfl, HZ.out.trans (hb9.mono HZ.out.size)⟩
end Go.Proofs.YthgiehlfmdobkaaDoor
