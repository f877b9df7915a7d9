/-
  The law's awake over extents: it answers true. Conditions: none but that the call is made.
-/
import Derived.Test.YtdhaikcmgegfoaaExtCode
namespace Go.Proofs.Ytdhaikcmgegfoaa
open Go.RowKit

theorem apart_yes : apartB [(0, 2), (2, 3)] = true := by decide
theorem apart_no : apartB [(2, 3), (0, 3)] = false := by decide
set_option maxRecDepth 100000 in
set_option maxHeartbeats 4000000 in
set_option linter.unusedSimpArgs false in
theorem extAwake (w : World) : Calls Try.prog 10 #[] w fun e w' => e = .returned (.bool true) ∧ Below w.heap.size w w' := by
  go_enter Try.func10, Try.ntmps10
  go_wp2_with (go_at_call 11; refine stopped ?_)
  refine go_on ?_
  have hp := exPlace 2 3 2 (by decide) (by decide) (by decide) w
  unfold extV at hp
  rw [show placeN 2 3 2 = 0 from rfl] at hp
  refine hp.mono ?_
  rintro e w1 ⟨⟨z, rfl, hz⟩, hb1⟩
  obtain rfl : z = 4 := hz 4 rfl
  have H1 := Lib.hid hb1
  clear hb1 hz hp
  obtain ⟨g3, e3⟩ : ∃ g, w1.heap.size = g := ⟨_, rfl⟩
  have hb2 : Below w1.heap.size w1 ((w1.alloc (.cells #[.int .i64 0, .int .i64 2] 25)).alloc (.cells #[.int .i64 2, .int .i64 3] 25)) := (below_alloc w1 _).trans ((below_alloc _ _).mono (by simp))
  have hB3 := (Blk.new w1 25 #[.int .i64 0, .int .i64 2]).alloc (.cells #[.int .i64 2, .int .i64 3] 25)
  have hB4 := Blk.new (w1.alloc (.cells #[.int .i64 0, .int .i64 2] 25)) 25 #[.int .i64 2, .int .i64 3]
  have es : (w1.alloc (.cells #[.int .i64 0, .int .i64 2] 25)).heap.size = g3 + 1 := by simp [e3]
  rw [es] at hB4
  rw [e3] at hB3
  have hg3 : Below w.heap.size w ((w1.alloc (.cells #[.int .i64 0, .int .i64 2] 25)).alloc (.cells #[.int .i64 2, .int .i64 3] 25)) := H1.out.trans (hb2.mono H1.out.size)
  have HG := Lib.hid (And.intro hB3 (And.intro hB4 (And.intro hg3 e3)))
  clear hB3 hB4 hg3 hb2 es e3
  go_wp2_with (go_at_call 12; refine stopped ?_)
  refine go_on ?_
  obtain ⟨W2, eW2⟩ : ∃ x, (w1.alloc (.cells #[.int .i64 0, .int .i64 2] 25)).alloc (.cells #[.int .i64 2, .int .i64 3] 25) = x := ⟨_, rfl⟩
  have hG := HG.out
  rw [eW2] at hG
  rw [eW2, hG.2.2.2]
  have H2 := Lib.hid hG
  clear hG HG eW2
  have hl := exLies 2 3 5 (by decide) (by decide) (by decide) W2
  unfold extV at hl
  rw [show liesB 2 3 5 = true from rfl] at hl
  refine hl.mono ?_
  rintro e w3 ⟨rfl, hb3⟩
  have H3 := Lib.hid (And.intro (H2.out.1.below hb3 H2.out.1.lt) (And.intro (H2.out.2.1.below hb3 H2.out.2.1.lt) (H2.out.2.2.1.trans (hb3.mono H2.out.2.2.1.size))))
  clear hl hb3
  go_wp2_with (go_at_call 12; refine stopped ?_)
  refine go_on ?_
  have hl := exLies 2 4 5 (by decide) (by decide) (by decide) w3
  unfold extV at hl
  rw [show liesB 2 4 5 = false from rfl] at hl
  refine hl.mono ?_
  rintro e w4 ⟨rfl, hb4⟩
  have H4 := Lib.hid (And.intro (H3.out.1.below hb4 H3.out.1.lt) (And.intro (H3.out.2.1.below hb4 H3.out.2.1.lt) (H3.out.2.2.trans (hb4.mono H3.out.2.2.size))))
  have c30 : w4.cell? ⟨g3, 0, none⟩ = some (.int .i64 0) := by rw [H4.out.1.cell]; rfl
  have c31 : w4.cell? ⟨g3, 1, none⟩ = some (.int .i64 2) := by rw [H4.out.1.cell]; rfl
  have c40 : w4.cell? ⟨g3 + 1, 0, none⟩ = some (.int .i64 2) := by rw [H4.out.2.1.cell]; rfl
  have c41 : w4.cell? ⟨g3 + 1, 1, none⟩ = some (.int .i64 3) := by rw [H4.out.2.1.cell]; rfl
  clear hl hb4
  go_wp2_with (go_at_call 8; refine stopped ?_)
  refine go_on ?_
  have ha := exApart (some ⟨w4.heap.size, 0, none⟩) [(0, 2), (2, 3)] 2 2 rfl (by decide) (w4.alloc (.cells #[.int .i64 0, .int .i64 2, .int .i64 2, .int .i64 3] 25)) (vs_of_blk (vs := evs [(0, 2), (2, 3)]) (Blk.new w4 25 #[.int .i64 0, .int .i64 2, .int .i64 2, .int .i64 3]) (by simp)) (by decide)
  rw [apart_yes] at ha
  refine ha.mono ?_
  rintro e w5 ⟨rfl, hb5⟩
  have hb45 : Below w4.heap.size w4 w5 := (below_alloc w4 _).trans (hb5.mono (by simp))
  have H5 := Lib.hid (And.intro (H4.out.1.below hb45 H4.out.1.lt) (And.intro (H4.out.2.1.below hb45 H4.out.2.1.lt) (H4.out.2.2.trans (hb45.mono H4.out.2.2.size))))
  have d40 : w5.cell? ⟨g3 + 1, 0, none⟩ = some (.int .i64 2) := by rw [H5.out.2.1.cell]; rfl
  have d41 : w5.cell? ⟨g3 + 1, 1, none⟩ = some (.int .i64 3) := by rw [H5.out.2.1.cell]; rfl
  clear ha hb5 hb45 c30 c31 c40 c41
  go_wp2_with (go_at_call 8; refine stopped ?_)
  refine go_on ?_
  have ha := exApart (some ⟨w5.heap.size, 0, none⟩) [(2, 3), (0, 3)] 2 2 rfl (by decide) (w5.alloc (.cells #[.int .i64 2, .int .i64 3, .int .i64 0, .int .i64 3] 25)) (vs_of_blk (vs := evs [(2, 3), (0, 3)]) (Blk.new w5 25 #[.int .i64 2, .int .i64 3, .int .i64 0, .int .i64 3]) (by simp)) (by decide)
  rw [apart_no] at ha
  refine ha.mono ?_
  rintro e w6 ⟨rfl, hb6⟩
  have hb56 : Below w5.heap.size w5 w6 := (below_alloc w5 _).trans (hb6.mono (by simp))
  clear ha hb6 d40 d41
  go_wp2_with fail
  go_ret
  exact ⟨rfl, H5.out.2.2.trans (hb56.mono H5.out.2.2.size)⟩
end Go.Proofs.Ytdhaikcmgegfoaa
