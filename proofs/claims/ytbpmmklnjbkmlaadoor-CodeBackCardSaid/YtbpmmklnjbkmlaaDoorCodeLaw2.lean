/-
  CodeDecodes: whatever the bytes, the call answers true. Conditions: that they can be read; errors.errorType is laid.
-/
import Derived.Test.YtbpmmklnjbkmlaaDoorCodeLaw1
import Derived.Deep.CutRange
namespace Go.Proofs.YtbpmmklnjbkmlaaDoor
open Go.RowKit

theorem bs_take {w : World} {B : Nat} {A : Option Addr} {l : List UInt8} (h : Bs w B A l) (k : Nat) : Bs w B A (l.take k) := fun hn => by
  rw [List.length_take] at hn
  obtain ⟨b, o, e, hb, hc⟩ := h (by omega)
  exact ⟨b, o, e, hb, fun j hj => by
    have hj2 : j < l.length := by rw [List.length_take] at hj; omega
    rw [hc j hj2]
    simp⟩
theorem decF_odd {b : List UInt8} (h : b.length % 4 ≠ 0) : decF b = [(2, ((b.length / 4 : Nat) : Int))] ∧ decL b = [] := by
  have e : decF b = [(2, ((b.length / 4 : Nat) : Int))] := by unfold decF; rw [if_pos h]
  exact ⟨e, by unfold decL; rw [e, if_neg (by simp)]⟩
theorem decF_ok {b : List UInt8} (h : b.length % 4 = 0) (hc : (checkL (listL b)).1 = 0) : decF b = [] ∧ decL b = listL b := by
  have e : decF b = [] := by unfold decF; rw [if_neg (by omega), if_pos hc]
  exact ⟨e, by unfold decL; rw [e, if_pos rfl]⟩
theorem decF_bad {b : List UInt8} (h : b.length % 4 = 0) {f1 f2 : Nat} (hf : checkL (listL b) = (f1, f2)) (hc : f1 ≠ 0) : decF b = [((f1 : Int), ((4 * f2 : Nat) : Int)), ((f1 : Int), (f2 : Int))] ∧ decL b = [] := by
  have e : decF b = [((f1 : Int), ((4 * f2 : Nat) : Int)), ((f1 : Int), (f2 : Int))] := by unfold decF; rw [if_neg (by omega), hf, if_neg hc]
  exact ⟨e, by unfold decL; rw [e, if_neg (by simp)]⟩
theorem decL_ok (b : List UInt8) : okL (decL b) := by
  unfold decL
  split
  · exact listL_ok b
  · exact fun i hi => by cases hi

set_option maxRecDepth 100000 in
set_option maxHeartbeats 4000000 in
set_option linter.unusedSimpArgs false in
theorem codeDecodes_calls (A : Option Addr) (l : List UInt8) (n cp : Nat) (hl : l.length = n) (hn : n ≤ 9223372036854775807) (hnc : n ≤ cp) (w : World) (hA : Bs w w.heap.size A l) (hG : HasErr w) :
    Calls Tryd.prog 5 #[.slice A n cp] w fun e w' => e = .returned (.bool true) ∧ Below w.heap.size w w' := by
  obtain ⟨m, em⟩ : ∃ m, min n 560 = m := ⟨_, rfl⟩
  have hm : m ≤ 560 := by omega
  have hml : (l.take 560).length = m := by rw [List.length_take, hl, ← em, Nat.min_comm]
  have hLA := bs_take hA 560
  obtain ⟨L, eL⟩ : ∃ L, l.take 560 = L := ⟨_, rfl⟩
  rw [eL] at hml hLA
  have H := Lib.hid (And.intro hml (And.intro hLA hG))
  have HC := Lib.hid hnc
  clear hl hA hG hml hLA eL hnc
  go_enter Tryd.func5, Tryd.ntmps5
  go_upto_if 11 with fail
  go_cut [0] from 9 to 14 (fun v wx => v = .slice A m cp ∧ wx = w)
  case first =>
    by_cases h40 : n > 560
    · obtain rfl : m = 560 := by omega
      have h40i : (n : Int) > 560 := by omega
      have hc40 : (560 : Int) ≤ (cp : Int) := by have := HC.out; omega
      go_wp2_with fail
      go_meet
      case rel => exact ⟨rfl, rfl⟩
    · obtain rfl : m = n := by omega
      have h40i : ¬ (m : Int) > 560 := by omega
      go_wp2_with fail
      go_meet
      case rel => exact ⟨rfl, rfl⟩
  case rest =>
    obtain ⟨rfl, hwc⟩ := hcut
    have hwc := hwc.symm
    subst hwc
    obtain ⟨q, r, emq, hr4⟩ : ∃ q r, m = 4 * q + r ∧ r < 4 := ⟨m / 4, m % 4, by omega, by omega⟩
    have hrem : Int.tmod (m : Int) 4 = (r : Int) := by rw [Int.tmod_eq_emod_of_nonneg (by omega)]; omega
    have hquo : Int.tdiv (m : Int) 4 = (q : Int) := by rw [Int.tdiv_eq_ediv_of_nonneg (by omega)]; omega
    have hrw : IntKind.i64.wrap (r : Int) = (r : Int) := IntWalk.i64_in _ (by omega)
    have hqw : IntKind.i64.wrap (q : Int) = (q : Int) := IntWalk.i64_in _ (by omega)
    have HM := Lib.hid (And.intro emq (And.intro hr4 hm))
    have hdc := coDecode A L m cp H.out.1 (by omega) (by have := HC.out; omega) w H.out.2.1 H.out.2.2
    have HD := Lib.hid hdc
    clear emq hdc em hm hn
    go_wp2_with fail
    refine HD.out.mono ?_
    rintro e w1 ⟨v1, u1, rfl, hv1, hc1, hb1⟩
    obtain ⟨A1, c1, rfl, _, hi1⟩ := InsOwn.at_ hv1 (decL_ok L)
    have H1 := Lib.hid (And.intro hc1 (And.intro hb1 hi1))
    clear hv1 hc1 hb1 hi1
    by_cases hr0 : r = 0
    · have hrb : ((r : Int) != 0) = false := by subst hr0; rfl
      have hr0i : (r : Int) = 0 := by omega
      have hm4 : L.length % 4 = 0 := by rw [H.out.1, HM.out.1]; omega
      have hrl := refList7 A L m cp H.out.1 (by have := HM.out; omega) w1 ((H.out.2.1.below H1.out.2.1).more H1.out.2.1.size)
      have HR := Lib.hid (And.intro hrl hm4)
      clear hrl hm4
      go_wp2_with fail
      refine HR.out.1.mono ?_
      rintro e w2 ⟨v2, rfl, hv2, hb2⟩
      obtain ⟨A2, c2, rfl, _, hi2⟩ := InsOwn.at_ hv2 (listL_ok L)
      obtain ⟨k, ek⟩ : ∃ k, (listL L).length = k := ⟨_, rfl⟩
      rw [ek]
      have hk : k ≤ 140 := by rw [← ek, listL_length, H.out.1]; have := HM.out; omega
      have H2 := Lib.hid (And.intro (H1.out.1.below hb2) (And.intro (H1.out.2.1.trans (hb2.mono H1.out.2.1.size)) (And.intro (H1.out.2.2.below hb2) (And.intro hi2 ek))))
      clear hv2 hb2 hi2 ek
      obtain ⟨f1, f2, ef⟩ : ∃ f1 f2, checkL (listL L) = (f1, f2) := ⟨_, _, rfl⟩
      have hrc := refCheck7 A2 (listL L) k c2 H2.out.2.2.2.2 (by omega) w2 H2.out.2.2.2.1
      rw [ef] at hrc
      have HRC := Lib.hid (And.intro hrc ef)
      clear hrc ef
      go_wp2_with fail
      refine HRC.out.1.mono ?_
      rintro e w3 ⟨rfl, hb3⟩
      have H3 := Lib.hid (And.intro (H2.out.1.below hb3) (And.intro (H2.out.2.1.trans (hb3.mono H2.out.2.1.size)) (And.intro (H2.out.2.2.1.below hb3) (H2.out.2.2.2.1.below hb3))))
      clear hb3
      by_cases h0 : f1 = 0
      · obtain ⟨e0, e1⟩ := decF_ok HR.out.2 (by rw [HRC.out.2]; exact h0)
        have hc := H3.out.1
        rw [e0] at hc
        obtain rfl : u1 = .nilIface := hc
        subst h0
        have hi := H3.out.2.2.1
        rw [e1] at hi
        have hsm := lawSame A1 A2 (listL L) (listL L) k k c1 c2 H2.out.2.2.2.2 H2.out.2.2.2.2 (by omega) (by omega) w3 hi H3.out.2.2.2
        rw [decide_eq_true rfl] at hsm
        have HS := Lib.hid hsm
        have hlen : (decL L).length = k := by rw [e1]; exact H2.out.2.2.2.2
        rw [hlen]
        clear hsm e0 e1 hi hlen
        go_wp2_with (first
          | (go_at_call 12; refine HS.out.mono ?_; rintro e w8 ⟨rfl, hb8⟩; have hz8 := H3.out.2.1.trans (hb8.mono H3.out.2.1.size))
          | (go_at_call 8; refine (codeAwake _ (H.out.2.2.below hz8)).mono ?_; rintro e w9 ⟨rfl, hb9⟩)
          | fail)
        go_ret
        exact ⟨rfl, hz8.trans (hb9.mono hz8.size)⟩
      · obtain ⟨e0, e1⟩ := decF_bad HR.out.2 HRC.out.2 h0
        obtain ⟨g, eg⟩ : ∃ g, 4 * f2 = g := ⟨_, rfl⟩
        rw [eg] at e0
        have hf2 : f2 ≤ k := by have := (checkL_le (listL L)).2; rw [HRC.out.2, H2.out.2.2.2.2] at this; exact this
        have hgm : 4 * (f2 : Int) = (g : Int) := by omega
        have hgw : IntKind.i64.wrap (g : Int) = (g : Int) := IntWalk.i64_in _ (by omega)
        have hc := H3.out.1
        rw [e0] at hc
        rw [e1]
        have hlen : ([] : List Ins).length = 0 := rfl
        rw [hlen]
        have hfb : ((f1 : Int) == 0) = false := by rw [beq_eq_false_iff_ne]; omega
        have hf0 : ¬ (f1 : Int) = 0 := by omega
        have hco := fun W (h : Below w3.heap.size w3 W) => fCode (hc.below h) (H.out.2.2.below (H3.out.2.1.trans (h.mono H3.out.2.1.size)))
        have eco : codeOf [((f1 : Int), (g : Int)), ((f1 : Int), (f2 : Int))] = (f1 : Int) := rfl
        rw [eco] at hco
        have HC7 := Lib.hid (And.intro hc hco)
        clear e0 e1 hc hco eco eg hf2 hlen
        go_wp2_with (first
          | (go_at_call 14; refine (fPath HC7.out.1 (H.out.2.2.below H3.out.2.1) (by simp)).mono ?_; rintro e wa ⟨Aa, ca, rfl, hva, hba⟩; obtain ⟨ba, oa, rfl, hla, hga⟩ := hva (by simp [zv, chAt]); have da : ∀ W, Below wa.heap.size wa W → W.cell? ⟨ba, oa, none⟩ = some (.int .i64 (g : Int)) := (fun W h => (h.cell (p := ⟨ba, oa, none⟩) hla).trans (hga 0 _ rfl)); have da1 : ∀ W, Below wa.heap.size wa W → W.cell? ⟨ba, oa + 1, none⟩ = some (.int .i64 (f2 : Int)) := (fun W h => (h.cell (p := ⟨ba, oa + 1, none⟩) hla).trans (hga 1 _ rfl)); have hza := Lib.hid hba; clear hga hva hba)
          | (go_at_call 13; refine (HC7.out.2 _ hza.out).mono ?_; rintro e w8 ⟨rfl, hb8⟩; have hz8 := Lib.hid (hza.out.trans (hb8.mono hza.out.size)))
          | (go_at_call 8; refine (codeAwake _ (H.out.2.2.below (H3.out.2.1.trans (hz8.out.mono H3.out.2.1.size)))).mono ?_; rintro e wb ⟨rfl, hbb⟩)
          | fail)
        go_ret
        exact ⟨rfl, H3.out.2.1.trans ((hz8.out.trans (hbb.mono hz8.out.size)).mono H3.out.2.1.size)⟩
    · have hrb : ((r : Int) != 0) = true := by simp [bne]; omega
      have hr0i : ¬ (r : Int) = 0 := by omega
      obtain ⟨e0, e1⟩ := decF_odd (b := L) (by rw [H.out.1, HM.out.1]; omega)
      have eq : L.length / 4 = q := by rw [H.out.1, HM.out.1]; omega
      rw [eq] at e0
      have hc := H1.out.1
      rw [e0] at hc
      rw [e1]
      have hlen : ([] : List Ins).length = 0 := rfl
      rw [hlen]
      have hco := fCode hc (H.out.2.2.below H1.out.2.1)
      have eco : codeOf [((2 : Int), (q : Int))] = 2 := rfl
      rw [eco] at hco
      have HC7 := Lib.hid (And.intro hc hco)
      clear e0 e1 hc hco eco eq hlen
      go_wp2_with (first
        | (go_at_call 13; refine HC7.out.2.mono ?_; rintro e w8 ⟨rfl, hb8⟩; have hz8 := Lib.hid (H1.out.2.1.trans (hb8.mono H1.out.2.1.size)); have hc8 := Lib.hid (HC7.out.1.below hb8); clear hb8)
        | (go_at_call 14; have hguard := hz9; clear hguard; refine (fPath hc9.out (H.out.2.2.below hz9.out) (by simp)).mono ?_; rintro e wa ⟨Aa, ca, rfl, hva, hba⟩; obtain ⟨ba, oa, rfl, hla, hga⟩ := hva (by simp [zv, chAt]); have da : wa.cell? ⟨ba, oa, none⟩ = some (.int .i64 (q : Int)) := (hga 0 _ rfl); have hza := Lib.hid (hz9.out.trans (hba.mono hz9.out.size)); clear hga hla hva hba)
        | (go_at_call 14; refine (fPath hc8.out (H.out.2.2.below hz8.out) (by simp)).mono ?_; rintro e w9 ⟨A9, c9, rfl, _, hb9⟩; have hz9 := Lib.hid (hz8.out.trans (hb9.mono hz8.out.size)); have hc9 := Lib.hid (hc8.out.below hb9); clear hb9)
        | (go_at_call 8; refine (codeAwake _ (H.out.2.2.below hza.out)).mono ?_; rintro e wb ⟨rfl, hbb⟩)
        | fail)
      go_ret
      exact ⟨rfl, hza.out.trans (hbb.mono hza.out.size)⟩
end Go.Proofs.YtbpmmklnjbkmlaaDoor
