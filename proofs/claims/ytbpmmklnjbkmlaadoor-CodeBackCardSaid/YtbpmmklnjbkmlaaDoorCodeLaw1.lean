/-
  CodeNames, CodeChecks: whatever the input, the call answers true. Conditions: that it can be read; errors.errorType is laid.
-/
import Derived.Test.YtbpmmklnjbkmlaaDoorCodeLaw0
namespace Go.Proofs.YtbpmmklnjbkmlaaDoor
open Go.RowKit

set_option maxRecDepth 100000 in
theorem codeNames_calls (w : World) (hG : HasErr w) : Calls Tryd.prog 3 #[] w fun e w' => e = .returned (.bool true) ∧ Below w.heap.size w w' := by
  have haw := Lib.hid (codeAwake w hG)
  clear hG
  go_enter Tryd.func3, Tryd.ntmps3
  go_wp2_with (go_at_call 8; refine haw.out.mono ?_; rintro e w' ⟨rfl, hb⟩)
  go_ret
  exact ⟨rfl, hb⟩

set_option maxRecDepth 100000 in
set_option maxHeartbeats 4000000 in
set_option linter.unusedSimpArgs false in
theorem codeChecks_calls (A : Option Addr) (l : List Ins) (n cp : Nat) (hl : l.length = n) (hn : n ≤ 9223372036854775807) (hnc : n ≤ cp) (w : World) (hA : InsAt w A l) (hG : HasErr w) :
    Calls Tryd.prog 4 #[.slice A n cp] w fun e w' => e = .returned (.bool true) ∧ Below w.heap.size w w' := by
  obtain ⟨i1, hi0, hz0, hz1, hz2⟩ := info_parts ins_info
  have hfew := lawFew A n cp hn hnc w
  obtain ⟨m, em⟩ : ∃ m, min n 140 = m := ⟨_, rfl⟩
  have hm : m ≤ 140 := by omega
  have hml : (l.take 140).length = m := by rw [List.length_take, hl, ← em, Nat.min_comm]
  have hLA := hA.take 140
  obtain ⟨L, eL⟩ : ∃ L, l.take 140 = L := ⟨_, rfl⟩
  rw [eL] at hml hLA
  rw [em] at hfew
  have H := Lib.hid (And.intro hml (And.intro hLA (And.intro hG hfew)))
  clear hl hA hG hfew em hml hLA eL hn hnc
  go_enter Tryd.func4, Tryd.ntmps4
  go_wp2_with (first
    | (go_at_call 9; refine H.out.2.2.2.mono ?_; rintro e w0 ⟨rfl, rfl⟩)
    | (at_builtin; refine wpList_append_row _ rfl (.tmp 9) (.tmp 10) 23 rfl w.heap.size 46 i1 _ 4 4 Tryd.underlying23 hi0 hz0 hz1 hz2 rfl (by decide) (.slice (some ⟨w.heap.size, 0, none⟩) 0 0) 0 [] rfl (row_empty w _ _ _ (Nat.le_refl _)) w.heap.size A cp m (ivs L) rfl (H.out.2.1.vs.below (below_alloc w _)) (by rw [ivs_length, H.out.1]) (ivs_one L) (by omega) (by unfold maxLen; omega) (by simp) ?_; refine fun v5 w5 hown5 hg5 _ => stopped ?_)
    | fail)
  obtain ⟨A5, c5, rfl, _, _, hvs5, _⟩ := vs_of_row hown5
  have hb5 : Below w.heap.size w w5 := (below_alloc w _).trans (only_below hg5 (by simp) (fun g e => by cases e; exact Nat.le_refl _))
  simp only [Nat.zero_add, List.nil_append] at hvs5 ⊢
  have H5 := Lib.hid (And.intro hb5 (And.intro (H.out.2.1.below hb5) (InsAt.mk hvs5 H.out.2.1.ok)))
  clear hown5 hg5 hb5 hvs5
  refine go_on ?_
  go_wp2_with fail
  refine (coCheck A L m cp H.out.1 (by omega) w5 H5.out.2.1).mono ?_
  rintro e w6 ⟨v6, rfl, hc6, hb6⟩
  have H6 := Lib.hid (And.intro hc6 (And.intro (H5.out.1.trans (hb6.mono H5.out.1.size)) (And.intro (H5.out.2.1.below hb6) (H5.out.2.2.below hb6))))
  clear hc6 hb6
  obtain ⟨f1, f2, ef⟩ : ∃ f1 f2, checkL L = (f1, f2) := ⟨_, _, rfl⟩
  have hrc := refCheck7 A5 L m c5 H.out.1 (by omega) w6 H6.out.2.2.2
  rw [ef] at hrc
  have HRC := Lib.hid (And.intro hrc ef)
  clear hrc ef
  go_wp2_with fail
  refine HRC.out.1.mono ?_
  rintro e w7 ⟨rfl, hb7⟩
  have hz7 := H6.out.2.1.trans (hb7.mono H6.out.2.1.size)
  have hc7 := H6.out.1.below hb7
  rw [HRC.out.2] at hc7
  have H7 := Lib.hid (And.intro hz7 (And.intro hc7 (And.intro (H6.out.2.2.1.below hb7) (H6.out.2.2.2.below hb7))))
  clear hz7 hc7 hb7
  by_cases h0 : f1 = 0
  · have e0 : faultC (f1, f2) = [] := by unfold faultC; rw [if_pos h0]
    have hc := H7.out.2.1
    rw [e0] at hc
    obtain rfl : v6 = .nilIface := hc
    subst h0
    have hsm := lawSame A A5 L L m m cp c5 H.out.1 H.out.1 (by omega) (by omega) w7 H7.out.2.2.1 H7.out.2.2.2
    rw [decide_eq_true rfl] at hsm
    have HS := Lib.hid hsm
    clear hsm e0
    go_wp2_with (first
      | (go_at_call 12; refine HS.out.mono ?_; rintro e w8 ⟨rfl, hb8⟩; have hz8 := H7.out.1.trans (hb8.mono H7.out.1.size))
      | (go_at_call 8; refine (codeAwake _ (H.out.2.2.1.below hz8)).mono ?_; rintro e w9 ⟨rfl, hb9⟩)
      | fail)
    go_ret
    exact ⟨rfl, hz8.trans (hb9.mono hz8.size)⟩
  · have e0 : faultC (f1, f2) = [((f1 : Int), (f2 : Int))] := by unfold faultC; rw [if_neg h0]
    have hc := H7.out.2.1
    rw [e0] at hc
    have hf0 : ¬ (f1 : Int) = 0 := by omega
    have hfb : ((f1 : Int) == 0) = false := by rw [beq_eq_false_iff_ne]; exact hf0
    have hco := fCode hc (H.out.2.2.1.below H7.out.1)
    have eco : codeOf [((f1 : Int), (f2 : Int))] = (f1 : Int) := rfl
    rw [eco] at hco
    have HC := Lib.hid (And.intro hc hco)
    clear e0 hc hco eco
    go_wp2_with (first
      | (go_at_call 13; refine HC.out.2.mono ?_; rintro e w8 ⟨rfl, hb8⟩; have hz8 := Lib.hid (H7.out.1.trans (hb8.mono H7.out.1.size)); have hc8 := Lib.hid (HC.out.1.below hb8); clear hb8)
      | (go_at_call 14; have hguard := hz9; clear hguard; refine (fPath hc9.out (H.out.2.2.1.below hz9.out) (by simp)).mono ?_; rintro e wa ⟨Aa, ca, rfl, hva, hba⟩; obtain ⟨ba, oa, rfl, hla, hga⟩ := hva (by simp [zv, chAt]); have da : wa.cell? ⟨ba, oa, none⟩ = some (.int .i64 (f2 : Int)) := (hga 0 _ rfl); have hza := Lib.hid (hz9.out.trans (hba.mono hz9.out.size)); clear hga hla hva hba)
      | (go_at_call 14; refine (fPath hc8.out (H.out.2.2.1.below hz8.out) (by simp)).mono ?_; rintro e w9 ⟨A9, c9, rfl, _, hb9⟩; have hz9 := Lib.hid (hz8.out.trans (hb9.mono hz8.out.size)); have hc9 := Lib.hid (hc8.out.below hb9); clear hb9)
      | (go_at_call 8; refine (codeAwake _ (H.out.2.2.1.below hza.out)).mono ?_; rintro e wb ⟨rfl, hbb⟩)
      | fail)
    go_ret
    exact ⟨rfl, hza.out.trans (hbb.mono hza.out.size)⟩
end Go.Proofs.YtbpmmklnjbkmlaaDoor
