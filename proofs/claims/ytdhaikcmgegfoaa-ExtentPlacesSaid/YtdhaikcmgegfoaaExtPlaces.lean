/-
  ExtentPlaces: whatever the extents, the sectors and the disk's size, the call answers true. Conditions: that the numbers are ints.
-/
import Derived.Test.YtdhaikcmgegfoaaExtAwake
namespace Go.Proofs.Ytdhaikcmgegfoaa
open Go.RowKit

theorem placeN_some {f c k z : Int} (h : placeO f c k = some z) : placeN f c k = 0 := by unfold placeN; rw [h]
theorem placeN_none {f c k : Int} (h : placeO f c k = none) : placeN f c k = 4 := by unfold placeN; rw [h]
theorem placeO_some {f c k z : Int} (h : placeO f c k = some z) : z = f + k ∧ 0 ≤ k ∧ k < c ∧ f + k ≤ MaxI := by
  unfold placeO at h
  split at h
  · cases h
  · injection h with h
    rename_i hn
    refine ⟨h.symm, ?_, ?_, ?_⟩ <;> omega
theorem apart_two (f c g d : Int) : apartB [(f, c), (g, d)] = !meetB f c g d := by simp [apartB]
theorem apart_ne {f c g d k j y z : Int} (h : apartB [(f, c), (g, d)] = true) (hy : placeO f c k = some y) (hz : placeO g d j = some z) : y ≠ z := by
  rw [apart_two] at h
  obtain ⟨rfl, h1, h2, _⟩ := placeO_some hy
  obtain ⟨rfl, h3, h4, _⟩ := placeO_some hz
  intro e
  have : meetB f c g d = true := meetB_yes (by omega)
  rw [this] at h
  cases h
theorem lies_in {f c n k y : Int} (h : liesB f c n = true) (hy : placeO f c k = some y) : 0 ≤ y ∧ y < n := by
  obtain ⟨rfl, h1, h2, _⟩ := placeO_some hy
  simp only [liesB, decide_eq_true_eq] at h
  omega
set_option maxRecDepth 100000 in
set_option maxHeartbeats 4000000 in
set_option linter.unusedSimpArgs false in
theorem extentPlaces_calls (xf xc yf yc a b n : Int) (hxf : isI xf) (hxc : isI xc) (hyf : isI yf) (hyc : isI yc) (ha : isI a) (hb : isI b) (hn : isI n) (w : World) :
    Calls Try.prog 4 #[.agg #[.int .i64 xf, .int .i64 xc, .int .i64 yf, .int .i64 yc, .int .i64 a, .int .i64 b, .int .i64 n]] w fun e w' => e = .returned (.bool true) ∧ Below w.heap.size w w' := by
  have hpx := fun w => exPlace xf xc a hxf hxc ha w
  have hpy := fun w => exPlace yf yc b hyf hyc hb w
  have hlx := fun w => exLies xf xc n hxf hxc hn w
  unfold extV at hpx hpy hlx
  have HP := Lib.hid (And.intro hpx (And.intro hpy hlx))
  have hI : allI [(xf, xc), (yf, yc)] := by
    intro p hp
    simp only [List.mem_cons, List.not_mem_nil, or_false] at hp
    rcases hp with rfl | rfl
    · exact ⟨hxf, hxc⟩
    · exact ⟨hyf, hyc⟩
  have HI := Lib.hid hI
  clear hxf hxc hyf hyc ha hb hn hpx hpy hlx hI
  go_enter Try.func4, Try.ntmps4
  go_wp2_with (first | (with_reducible refine st_box 31 ?_; refine stopped ?_) | fail)
  refine go_on ?_
  refine wpList_box rfl 31 (.tmp 0) rfl _ rfl ?_
  intro w1 hb1 hw1 hz1
  simp only [Act.put, List.setIfInBounds_toArray, List.set_cons_zero, List.set_cons_succ]
  obtain ⟨g1, e1⟩ : ∃ g, w.heap.size = g := ⟨_, rfl⟩
  rw [e1] at hb1 hw1 ⊢
  have HB := Lib.hid (And.intro hb1 (And.intro hw1 e1))
  have key : ∀ (w' : World), Below w1.heap.size w1 w' → w'.cell? ⟨g1, 0, none⟩ = some (.int .i64 xf) ∧ w'.cell? ⟨g1, 1, none⟩ = some (.int .i64 xc) ∧ w'.cell? ⟨g1, 2, none⟩ = some (.int .i64 yf) ∧ w'.cell? ⟨g1, 3, none⟩ = some (.int .i64 yc) ∧ w'.cell? ⟨g1, 4, none⟩ = some (.int .i64 a) ∧ w'.cell? ⟨g1, 5, none⟩ = some (.int .i64 b) ∧ w'.cell? ⟨g1, 6, none⟩ = some (.int .i64 n) := fun w' hw' => by
    have hx := HB.out.1.below hw' HB.out.1.lt
    exact ⟨by rw [hx.cell]; rfl, by rw [hx.cell]; rfl, by rw [hx.cell]; rfl, by rw [hx.cell]; rfl, by rw [hx.cell]; rfl, by rw [hx.cell]; rfl, by rw [hx.cell]; rfl⟩
  have HK := Lib.hid key
  clear hb1 hw1 hz1 e1 key
  obtain ⟨c0, c1, c2, c3, c4, c5, c6⟩ := HK.out w1 (Below.refl _ _)
  go_wp2_with fail
  refine (HP.out.1 w1).mono ?_
  rintro e w2 ⟨⟨zx, rfl, hzx⟩, hb2⟩
  have HX := Lib.hid (And.intro hzx hb2)
  clear c0 c1 c2 c3 c4 c5 c6 hzx hb2
  obtain ⟨c0, c1, c2, c3, c4, c5, c6⟩ := HK.out w2 HX.out.2
  obtain ⟨nx, enx⟩ : ∃ x, placeN xf xc a = x := ⟨_, rfl⟩
  rw [enx]
  go_wp2_with fail
  refine (HP.out.2.1 w2).mono ?_
  rintro e w3 ⟨⟨zy, rfl, hzy⟩, hb3⟩
  have HY := Lib.hid (And.intro hzy (HX.out.2.trans (hb3.mono HX.out.2.size)))
  clear c0 c1 c2 c3 c4 c5 c6 hzy hb3
  obtain ⟨ny, eny⟩ : ∃ x, placeN yf yc b = x := ⟨_, rfl⟩
  rw [eny]
  have hw13 : Below g1 w w3 := HB.out.2.1.trans (HY.out.2.mono (by have := HB.out.2.1.size; have := HB.out.2.2; omega))
  have HW3 := Lib.hid hw13
  clear hw13
  cases hpx : placeO xf xc a with
  | none =>
    obtain rfl : nx = 4 := by rw [← enx]; exact placeN_none hpx
    clear enx eny
    go_wp2_with (first
      | (go_at_call 10; refine (extAwake _).mono ?_; rintro e w' ⟨rfl, hb⟩)
      | fail)
    go_ret
    exact ⟨rfl, by rw [HB.out.2.2]; exact HW3.out.trans (hb.mono (by have := HW3.out.size; have := HB.out.2.2; omega))⟩
  | some y =>
    obtain rfl : nx = 0 := by rw [← enx]; exact placeN_some hpx
    cases hpy : placeO yf yc b with
    | none =>
      obtain rfl : ny = 4 := by rw [← eny]; exact placeN_none hpy
      clear enx eny
      go_wp2_with (first
        | (go_at_call 10; refine (extAwake _).mono ?_; rintro e w' ⟨rfl, hb⟩)
        | fail)
      go_ret
      exact ⟨rfl, by rw [HB.out.2.2]; exact HW3.out.trans (hb.mono (by have := HW3.out.size; have := HB.out.2.2; omega))⟩
    | some z =>
      obtain rfl : ny = 0 := by rw [← eny]; exact placeN_some hpy
      obtain rfl : zx = y := HX.out.1 y hpx
      obtain rfl : zy = z := HY.out.1 z hpy
      clear enx eny
      have hap := fun h => apart_ne (f := xf) (c := xc) (g := yf) (d := yc) h hpx hpy
      have hin := fun h => lies_in (f := xf) (c := xc) (n := n) h hpx
      have HA := Lib.hid (And.intro hap hin)
      clear hap hin hpx hpy
      obtain ⟨c0, c1, c2, c3, c4, c5, c6⟩ := HK.out w3 HY.out.2
      go_wp2_with (go_at_call 8; refine stopped ?_)
      refine go_on ?_
      have ha := exApart (some ⟨w3.heap.size, 0, none⟩) [(xf, xc), (yf, yc)] 2 2 rfl (by decide) (w3.alloc (.cells #[.int .i64 xf, .int .i64 xc, .int .i64 yf, .int .i64 yc] 25)) (vs_of_blk (vs := evs [(xf, xc), (yf, yc)]) (Blk.new w3 25 #[.int .i64 xf, .int .i64 xc, .int .i64 yf, .int .i64 yc]) (by simp)) HI.out
      obtain ⟨q, eq⟩ : ∃ q, apartB [(xf, xc), (yf, yc)] = q := ⟨_, rfl⟩
      rw [eq] at ha
      refine ha.mono ?_
      rintro e w4 ⟨rfl, hb4⟩
      have hb34 : Below w3.heap.size w3 w4 := (below_alloc w3 _).trans (hb4.mono (by simp))
      have HY4 := Lib.hid (HY.out.2.trans (hb34.mono HY.out.2.size))
      have HW4 := Lib.hid (HW3.out.trans (hb34.mono (by have := HW3.out.size; have := HB.out.2.2; omega)))
      clear c0 c1 c2 c3 c4 c5 c6 ha hb4 hb34
      obtain ⟨c0, c1, c2, c3, c4, c5, c6⟩ := HK.out w4 HY4.out
      cases q
      · clear eq
        go_wp2_with (go_at_call 12; refine stopped ?_)
        refine go_on ?_
        obtain ⟨r, er⟩ : ∃ r, liesB xf xc n = r := ⟨_, rfl⟩
        have hl := HP.out.2.2 w4
        rw [er] at hl
        refine hl.mono ?_
        rintro e w5 ⟨rfl, hb5⟩
        have HY5 := Lib.hid (HY4.out.trans (hb5.mono HY4.out.size))
        have HW5 := Lib.hid (HW4.out.trans (hb5.mono (by have := HW4.out.size; have := HB.out.2.2; omega)))
        clear c0 c1 c2 c3 c4 c5 c6 hl hb5
        obtain ⟨c0, c1, c2, c3, c4, c5, c6⟩ := HK.out w5 HY5.out
        cases r
        · go_wp2_with (first
            | (go_at_call 10; refine (extAwake _).mono ?_; rintro e w' ⟨rfl, hb⟩)
            | fail)
          go_ret
          exact ⟨rfl, by rw [HB.out.2.2]; exact HW5.out.trans (hb.mono (by have := HW5.out.size; have := HB.out.2.2; omega))⟩
        · obtain ⟨hz0, hzn⟩ := HA.out.2 er
          have hge : zx ≥ 0 := hz0
          go_wp2_with (first
            | (go_at_call 10; refine (extAwake _).mono ?_; rintro e w' ⟨rfl, hb⟩)
            | fail)
          go_ret
          exact ⟨rfl, by rw [HB.out.2.2]; exact HW5.out.trans (hb.mono (by have := HW5.out.size; have := HB.out.2.2; omega))⟩
      · have hne : ¬ zx = zy := HA.out.1 eq
        have hneb : (zx != zy) = true := by simp [hne]
        clear eq
        go_wp2_with (go_at_call 12; refine stopped ?_)
        refine go_on ?_
        obtain ⟨r, er⟩ : ∃ r, liesB xf xc n = r := ⟨_, rfl⟩
        have hl := HP.out.2.2 w4
        rw [er] at hl
        refine hl.mono ?_
        rintro e w5 ⟨rfl, hb5⟩
        have HY5 := Lib.hid (HY4.out.trans (hb5.mono HY4.out.size))
        have HW5 := Lib.hid (HW4.out.trans (hb5.mono (by have := HW4.out.size; have := HB.out.2.2; omega)))
        clear c0 c1 c2 c3 c4 c5 c6 hl hb5
        obtain ⟨c0, c1, c2, c3, c4, c5, c6⟩ := HK.out w5 HY5.out
        cases r
        · go_wp2_with (first
            | (go_at_call 10; refine (extAwake _).mono ?_; rintro e w' ⟨rfl, hb⟩)
            | fail)
          go_ret
          exact ⟨rfl, by rw [HB.out.2.2]; exact HW5.out.trans (hb.mono (by have := HW5.out.size; have := HB.out.2.2; omega))⟩
        · obtain ⟨hz0, hzn⟩ := HA.out.2 er
          have hge : zx ≥ 0 := hz0
          go_wp2_with (first
            | (go_at_call 10; refine (extAwake _).mono ?_; rintro e w' ⟨rfl, hb⟩)
            | fail)
          go_ret
          exact ⟨rfl, by rw [HB.out.2.2]; exact HW5.out.trans (hb.mono (by have := HW5.out.size; have := HB.out.2.2; omega))⟩
end Go.Proofs.Ytdhaikcmgegfoaa
