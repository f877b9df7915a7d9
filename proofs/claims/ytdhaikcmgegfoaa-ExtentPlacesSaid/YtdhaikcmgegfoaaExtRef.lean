/-
  The extents' reference: Lies, Place, Meet, by their contracts. Conditions: each theorem's own premises.
-/
import Derived.Test.YtdhaikcmgegfoaaExtMath
namespace Go.Proofs.Ytdhaikcmgegfoaa
open Go.RowKit

set_option linter.unusedSimpArgs false in
theorem refLies_any (f c n : Int) (hf : isI f) (hc : isI c) (hn : isI n) (w : World) : Calls Try.prog 16 #[.int .i64 f, .int .i64 c, .int .i64 n] w fun e w' => e = .returned (.bool (liesB f c n)) ∧ w = w' := by
  obtain ⟨hf1, hf2⟩ := hf
  obtain ⟨hc1, hc2⟩ := hc
  obtain ⟨hn1, hn2⟩ := hn
  go_enter Try.func16, Try.ntmps16
  by_cases h1 : 1 ≤ c
  · have a1 : c ≥ 1 := h1
    by_cases h2 : 0 ≤ f
    · have a2 : f ≥ 0 := h2
      by_cases h3 : f < n
      · have hw : IntKind.i64.wrap (n - f) = n - f := IntWalk.i64_in _ (by omega)
        by_cases h4 : c ≤ n - f
        · go_wp2_with fail
          go_ret
          exact ⟨by rw [liesB, decide_eq_true (by omega)]; rfl, rfl⟩
        · go_wp2_with fail
          go_ret
          exact ⟨by rw [liesB, decide_eq_false (by omega)]; rfl, rfl⟩
      · go_wp2_with fail
        go_ret
        exact ⟨by rw [liesB, decide_eq_false (by omega)]; rfl, rfl⟩
    · have a2 : ¬ f ≥ 0 := h2
      go_wp2_with fail
      go_ret
      exact ⟨by rw [liesB, decide_eq_false (by omega)]; rfl, rfl⟩
  · have a1 : ¬ c ≥ 1 := h1
    go_wp2_with fail
    go_ret
    exact ⟨by rw [liesB, decide_eq_false (by omega)]; rfl, rfl⟩

/-- what the document's Place answers -/
def placeR (f c k : Int) : Int × Bool := match placeO f c k with | some z => (z, true) | none => (0, false)
theorem placeR_yes {f c k : Int} (h : ¬ (k < 0 ∨ c ≤ k ∨ MaxI < f + k)) : placeR f c k = (f + k, true) := by unfold placeR placeO; rw [if_neg h]
theorem placeR_no {f c k : Int} (h : k < 0 ∨ c ≤ k ∨ MaxI < f + k) : placeR f c k = (0, false) := by unfold placeR placeO; rw [if_pos h]
set_option linter.unusedSimpArgs false in
theorem refPlace_any (f c k : Int) (hf : isI f) (hc : isI c) (hk : isI k) (w : World) : Calls Try.prog 18 #[.int .i64 f, .int .i64 c, .int .i64 k] w fun e w' => e = .returned (.tuple #[.int .i64 (placeR f c k).1, .bool (placeR f c k).2]) ∧ w = w' := by
  obtain ⟨hf1, hf2⟩ := hf
  obtain ⟨hc1, hc2⟩ := hc
  obtain ⟨hk1, hk2⟩ := hk
  go_enter Try.func18, Try.ntmps18
  by_cases h1 : k < 0
  · rw [placeR_no (.inl h1)]
    go_wp2_with fail
    go_ret2
    exact ⟨rfl, rfl⟩
  · by_cases h2 : c ≤ k
    · rw [placeR_no (.inr (.inl h2))]
      have a2 : k ≥ c := h2
      go_wp2_with fail
      go_ret2
      exact ⟨rfl, rfl⟩
    · have a2 : ¬ k ≥ c := h2
      by_cases h3 : 0 < f
      · have a3 : f > 0 := h3
        have hw : IntKind.i64.wrap (9223372036854775807 - f) = 9223372036854775807 - f := IntWalk.i64_in _ (by omega)
        by_cases h4 : 9223372036854775807 - f < k
        · rw [placeR_no (.inr (.inr (show MaxI < f + k by unfold MaxI; omega)))]
          go_wp2_with fail
          go_ret2
          exact ⟨rfl, rfl⟩
        · rw [placeR_yes (by unfold MaxI; omega)]
          have hw2 : IntKind.i64.wrap (f + k) = f + k := IntWalk.i64_in _ (by omega)
          go_wp2_with fail
          go_ret2
          exact ⟨rfl, rfl⟩
      · have a3 : ¬ f > 0 := h3
        rw [placeR_yes (by unfold MaxI; omega)]
        have hw2 : IntKind.i64.wrap (f + k) = f + k := IntWalk.i64_in _ (by omega)
        go_wp2_with fail
        go_ret2
        exact ⟨rfl, rfl⟩

set_option linter.unusedSimpArgs false in
theorem refMeet_any (f c g d : Int) (hf : isI f) (hc : isI c) (hg : isI g) (hd : isI d) (w : World) : Calls Try.prog 41 #[.int .i64 f, .int .i64 c, .int .i64 g, .int .i64 d] w fun e w' => e = .returned (.bool (meetB f c g d)) ∧ w = w' := by
  obtain ⟨hf1, hf2⟩ := hf
  obtain ⟨hc1, hc2⟩ := hc
  obtain ⟨hg1, hg2⟩ := hg
  obtain ⟨hd1, hd2⟩ := hd
  go_enter Try.func41, Try.ntmps41
  by_cases h1 : c < 1
  · rw [meetB_no (.inl h1)]
    go_wp2_with fail
    go_ret
    exact ⟨rfl, rfl⟩
  · by_cases h2 : d < 1
    · rw [meetB_no (.inr (.inl h2))]
      go_wp2_with fail
      go_ret
      exact ⟨rfl, rfl⟩
    · by_cases h3 : f = g
      · subst h3
        rw [meetB_yes (by omega)]
        go_wp2_with fail
        go_ret
        exact ⟨rfl, rfl⟩
      · by_cases h4 : g < f
        · have a4 : f > g := h4
          by_cases h5 : g < 0
          · by_cases h6 : 0 ≤ f
            · have a6 : f ≥ 0 := h6
              have hw : IntKind.i64.wrap (9223372036854775807 + g) = 9223372036854775807 + g := IntWalk.i64_in _ (by omega)
              by_cases h7 : 9223372036854775807 + g < f
              · have a7 : f > 9223372036854775807 + g := h7
                rw [meetB_no (by omega)]
                go_wp2_with fail
                go_ret
                exact ⟨rfl, rfl⟩
              · have a7 : ¬ f > 9223372036854775807 + g := h7
                have hw2 : IntKind.i64.wrap (f - g) = f - g := IntWalk.i64_in _ (by omega)
                have e : meetB f c g d = decide (d > f - g) := by
                  by_cases h8 : d > f - g
                  · rw [meetB_yes (by omega), decide_eq_true h8]
                  · rw [meetB_no (by omega), decide_eq_false h8]
                rw [e]
                go_wp2_with fail
                go_ret
                exact ⟨rfl, rfl⟩
            · have a6 : ¬ f ≥ 0 := h6
              have hw2 : IntKind.i64.wrap (f - g) = f - g := IntWalk.i64_in _ (by omega)
              have e : meetB f c g d = decide (d > f - g) := by
                by_cases h8 : d > f - g
                · rw [meetB_yes (by omega), decide_eq_true h8]
                · rw [meetB_no (by omega), decide_eq_false h8]
              rw [e]
              go_wp2_with fail
              go_ret
              exact ⟨rfl, rfl⟩
          · have hw2 : IntKind.i64.wrap (f - g) = f - g := IntWalk.i64_in _ (by omega)
            have e : meetB f c g d = decide (d > f - g) := by
              by_cases h8 : d > f - g
              · rw [meetB_yes (by omega), decide_eq_true h8]
              · rw [meetB_no (by omega), decide_eq_false h8]
            rw [e]
            go_wp2_with fail
            go_ret
            exact ⟨rfl, rfl⟩
        · have a4 : ¬ f > g := h4
          by_cases h5 : f < 0
          · by_cases h6 : 0 ≤ g
            · have a6 : g ≥ 0 := h6
              have hw : IntKind.i64.wrap (9223372036854775807 + f) = 9223372036854775807 + f := IntWalk.i64_in _ (by omega)
              by_cases h7 : 9223372036854775807 + f < g
              · have a7 : g > 9223372036854775807 + f := h7
                rw [meetB_no (by omega)]
                go_wp2_with fail
                go_ret
                exact ⟨rfl, rfl⟩
              · have a7 : ¬ g > 9223372036854775807 + f := h7
                have hw2 : IntKind.i64.wrap (g - f) = g - f := IntWalk.i64_in _ (by omega)
                have e : meetB f c g d = decide (c > g - f) := by
                  by_cases h8 : c > g - f
                  · rw [meetB_yes (by omega), decide_eq_true h8]
                  · rw [meetB_no (by omega), decide_eq_false h8]
                rw [e]
                go_wp2_with fail
                go_ret
                exact ⟨rfl, rfl⟩
            · have a6 : ¬ g ≥ 0 := h6
              have hw2 : IntKind.i64.wrap (g - f) = g - f := IntWalk.i64_in _ (by omega)
              have e : meetB f c g d = decide (c > g - f) := by
                by_cases h8 : c > g - f
                · rw [meetB_yes (by omega), decide_eq_true h8]
                · rw [meetB_no (by omega), decide_eq_false h8]
              rw [e]
              go_wp2_with fail
              go_ret
              exact ⟨rfl, rfl⟩
          · have hw2 : IntKind.i64.wrap (g - f) = g - f := IntWalk.i64_in _ (by omega)
            have e : meetB f c g d = decide (c > g - f) := by
              by_cases h8 : c > g - f
              · rw [meetB_yes (by omega), decide_eq_true h8]
              · rw [meetB_no (by omega), decide_eq_false h8]
            rw [e]
            go_wp2_with fail
            go_ret
            exact ⟨rfl, rfl⟩
end Go.Proofs.Ytdhaikcmgegfoaa
