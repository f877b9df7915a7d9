/-
  CodeGoesOn: whatever the instructions, the call answers true. Conditions: that they can be read; errors.errorType is laid.
-/
import Derived.Test.YtbpmmklnjbkmlaaDoorCodeLaw2
namespace Go.Proofs.YtbpmmklnjbkmlaaDoor
open Go.RowKit

theorem natV_get {l : List Nat} {j : Nat} (h : j < l.length) : (natV l)[j]? = some (.int .i64 ((l.getD j 0 : Nat) : Int)) := by simp [natV, zv, List.getD, h]
theorem bcs_get {l : List Bool} {j : Nat} (h : j < l.length) : (bcs l)[j]? = some (.bool (l.getD j false)) := by simp [bcs, List.getD, h]
/-- a loop that only reads -/
def LoopAt (w : World) (t : Nat) (u : Value) (wz : World) : Prop := ∃ i : Nat, i ≤ t ∧ u = .int .i64 (i : Int) ∧ wz = w
theorem bcs_length (l : List Bool) : (bcs l).length = l.length := by simp [bcs]

set_option maxRecDepth 100000 in
set_option maxHeartbeats 8000000 in
set_option linter.unusedSimpArgs false in
theorem codeGoesOn_calls (A : Option Addr) (l : List Ins) (n cp : Nat) (at_ : Int) (hl : l.length = n) (hn : n ≤ 9223372036854775807) (hnc : n ≤ cp) (w : World) (hA : InsAt w A l) (ha1 : -9223372036854775808 ≤ at_) (ha2 : at_ ≤ 9223372036854775807) (hG : HasErr w) :
    Calls Tryd.prog 7 #[.slice A n cp, .int .i64 at_] w fun e w' => e = .returned (.bool true) ∧ Below w.heap.size w w' := by
  have hfew := lawFew A n cp hn hnc w
  obtain ⟨p, ep⟩ : ∃ p, min n 140 = p := ⟨_, rfl⟩
  have hp : p ≤ 140 := by omega
  have hpl : (l.take 140).length = p := by rw [List.length_take, hl, ← ep, Nat.min_comm]
  have hLA := hA.take 140
  obtain ⟨L, eL⟩ : ∃ L, l.take 140 = L := ⟨_, rfl⟩
  rw [eL] at hpl hLA
  rw [ep] at hfew
  have H := Lib.hid (And.intro hpl (And.intro hLA (And.intro hG hfew)))
  have HA := Lib.hid (And.intro ha1 ha2)
  clear hl hA hG hfew ep hpl hLA eL hn hnc ha1 ha2
  obtain ⟨f1, f2, ef⟩ : ∃ f1 f2, checkL L = (f1, f2) := ⟨_, _, rfl⟩
  have hck := coCheck A L p cp H.out.1 (by omega) w H.out.2.1
  rw [ef] at hck
  have HCK := Lib.hid (And.intro hck ef)
  clear hck ef
  go_enter Tryd.func7, Tryd.ntmps7
  by_cases h0 : f1 = 0
  · have ec : faultC (f1, f2) = [] := by unfold faultC; rw [if_pos h0]
    obtain ⟨h1p, _, _, _⟩ := prog_facts (l := L) (by rw [HCK.out.2]; exact h0)
    rw [H.out.1] at h1p
    have HEC := Lib.hid (And.intro ec (by rw [HCK.out.2]; exact h0 : (checkL L).1 = 0))
    clear ec
    go_upto_if 15 with (first
      | (go_at_call 9; refine H.out.2.2.2.mono ?_; rintro e w0 ⟨rfl, rfl⟩)
      | (go_at_call 10; refine HCK.out.1.mono ?_; rintro e w1 ⟨v1, rfl, hc1, hb1⟩; rw [HEC.out.1] at hc1; obtain rfl : v1 = .nilIface := hc1)
      | fail)
    go_cut [1] from 14 to 18 (fun v wx => (∃ x : Nat, (x : Int) ≤ 9223372036854775807 ∧ v = .int .i64 (x : Int)) ∧ wx = w1)
    case first =>
      by_cases hneg : at_ < 0
      · have hw1 : IntKind.i64.wrap (at_ + 1) = at_ + 1 := IntWalk.i64_in _ (by have := HA.out; omega)
        have hw2 : IntKind.i64.wrap (-(at_ + 1)) = -(at_ + 1) := IntWalk.i64_in _ (by have := HA.out; omega)
        go_wp2_with fail
        go_meet
        case rel => exact ⟨⟨(-(at_ + 1)).toNat, by have := HA.out; omega, by congr 1; omega⟩, rfl⟩
      · have hneg2 : ¬ at_ < 0 := hneg
        go_wp2_with fail
        go_meet
        case rel => exact ⟨⟨at_.toNat, by have := HA.out; omega, by congr 1; omega⟩, rfl⟩
    case rest =>
      obtain ⟨⟨x, hx, rfl⟩, hwc⟩ := hcut
      have hwc := hwc.symm
      subst hwc
      obtain ⟨a, ea⟩ : ∃ a, x % p = a := ⟨_, rfl⟩
      have hap : a < p := by rw [← ea]; exact Nat.mod_lt _ (by omega)
      have hmod : Int.tmod (x : Int) (p : Int) = (a : Int) := by rw [Int.tmod_eq_emod_of_nonneg (by omega), ← ea]; rfl
      have hpn : ¬ (p : Int) = 0 := by omega
      have haw : IntKind.i64.wrap (a : Int) = (a : Int) := IntWalk.i64_in _ (by omega)
      have H1 := Lib.hid hb1
      clear hb1 ea
      have hnx := fun W (h : Below w.heap.size w W) => coNext A L p cp H.out.1 (by omega) W (H.out.2.1.below h) (a : Int) (by omega) (by omega)
      have hre := fun W (h : Below w.heap.size w W) => coReached A L p cp H.out.1 (by omega) W (H.out.2.1.below h)
      obtain ⟨g0, g1, g2, g3⟩ := next_facts (l := L) (a := a) HEC.out.2 (by rw [H.out.1]; exact hap)
      obtain ⟨N, eN⟩ : ∃ N, nextL L (a : Int) = N := ⟨_, rfl⟩
      rw [eN] at g0 g1 g2 g3
      obtain ⟨t, et⟩ : ∃ t, N.length = t := ⟨_, rfl⟩
      have hnx2 : ∀ W, Below w.heap.size w W → Calls Tryd.prog 18 #[.slice A p cp, .int .i64 (a : Int)] W (fun e w' => ∃ A c, e = .returned (.slice A t c) ∧ Vs w' w'.heap.size A (natV N) ∧ Below W.heap.size W w') := fun W h => by
        have := hnx W h
        unfold NextPost at this
        rw [eN, et] at this
        exact this
      have hre2 : ∀ W, Below w.heap.size w W → Calls Tryd.prog 19 #[.slice A p cp] W (fun e w' => ∃ A c R, e = .returned (.slice A p c) ∧ ReachOk L R ∧ Vs w' w'.heap.size A (bcs R) ∧ Below W.heap.size W w') := fun W h => by
        have := hre W h
        unfold ReachPost at this
        rw [H.out.1] at this
        exact this
      have HN := Lib.hid (And.intro hnx2 hre2)
      have HG := Lib.hid (And.intro g0 (And.intro g1 (And.intro g3 (And.intro eN et))))
      have ht2 : t ≤ 2 := et ▸ g2
      clear hnx hre hnx2 hre2 g0 g1 g2 g3 eN et
      go_wp2_with fail
      refine (HN.out.1 _ H1.out).mono ?_
      rintro e w2 ⟨A2, c2, rfl, hv2, hb2⟩
      have H2 := Lib.hid (And.intro (H1.out.trans (hb2.mono H1.out.size)) hv2)
      clear hb2 hv2
      go_wp2_with fail
      refine (HN.out.2 _ H2.out.1).mono ?_
      rintro e w3 ⟨A3, c3, R, rfl, hR, hv3, hb3⟩
      have H3 := Lib.hid (And.intro (H2.out.1.trans (hb3.mono H2.out.1.size)) (And.intro ((H2.out.2.below hb3).more hb3.size) (And.intro hv3 hR)))
      clear hb3 hv3 hR
      -- the cells that are read
      obtain ⟨b, o, op, xa, xb, xc, eA, hbl, eI, _, hce⟩ := H.out.2.1.at_ (j := a) (by rw [H.out.1]; exact hap)
      obtain ⟨d0, _, _, _⟩ := hce w3 H3.out.1
      have hRl : R.length = p := by rw [H3.out.2.2.2.len, H.out.1]
      obtain ⟨br, orr, eR, hrl, hrc⟩ := H3.out.2.2.1 (by rw [bcs_length, hRl]; omega)
      have r0 : w3.cell? ⟨br, orr, none⟩ = some (.bool true) := by
        have := hrc 0 _ (bcs_get (by rw [hRl]; omega))
        rw [H3.out.2.2.2.head (by rw [H.out.1]; omega)] at this
        exact this
      obtain ⟨ra, era⟩ : ∃ x, R.getD a false = x := ⟨_, rfl⟩
      have r1 : w3.cell? ⟨br, orr + a, none⟩ = some (.bool ra) := by rw [← era]; exact hrc a _ (bcs_get (by rw [hRl]; exact hap))
      have a0 : (0 : Int) ≤ (a : Int) := by omega
      have apI : (a : Int) < (p : Int) := by omega
      have p0I : (0 : Int) < (p : Int) := by omega
      have ht2I : ¬ (t : Int) > 2 := by omega
      have hpp : ((p : Int) != (p : Int)) = false := by simp
      have HI := Lib.hid (And.intro eI (And.intro hrc (And.intro era hRl)))
      subst eA eR
      clear hce eI hrc era hRl hmod
      by_cases hop : op = 0
      · have hN0 := HG.out.1 (by rw [HI.out.1]; exact hop)
        have ht0 : t = 0 := by rw [← HG.out.2.2.2.2, hN0]; rfl
        subst hop ht0
        go_wp2_with fail
        go_loopw [7] (fun u wz => u = .int .i64 0 ∧ wz = w3) (fun _ _ => 0)
        case atStart => exact ⟨rfl, rfl⟩
        case round =>
          obtain ⟨rfl, hwz⟩ := hrel
          have hwz := hwz.symm
          subst hwz
          have hnl : ¬ (0 : Int) < 0 := by omega
          go_wp2_with (first
            | (go_at_call 8; refine (codeAwake _ (H.out.2.2.1.below H3.out.1)).mono ?_; rintro e w9 ⟨rfl, hb9⟩)
            | fail)
          go_ret
          exact ⟨rfl, H3.out.1.trans (hb9.mono H3.out.1.size)⟩
      · have hopb : ((op : Int) == 0) = false := by rw [beq_eq_false_iff_ne]; omega
        have ht1 : 0 < t := by have := HG.out.2.1 (by rw [HI.out.1]; exact hop); rwa [HG.out.2.2.2.2] at this
        have ht0b : ((t : Int) == 0) = false := by rw [beq_eq_false_iff_ne]; omega
        obtain ⟨bn, on, eA2, hnl2, hnc2⟩ := H3.out.2.1 (by rw [natV_length, HG.out.2.2.2.2]; exact ht1)
        have HQ := Lib.hid hnc2
        subst eA2
        clear hnc2
        go_wp2_with fail
        go_loopw [7] (fun u wz => LoopAt w3 t u wz) (fun u _ => t - (intOf u).toNat)
        case atStart => exact ⟨0, by omega, rfl, rfl⟩
        case round =>
          obtain ⟨i, hit, rfl, hwz⟩ := hrel
          have hwz := hwz.symm
          subst hwz
          by_cases hlt : i < t
          · have hiI : (i : Int) < (t : Int) := by omega
            have hi0 : (0 : Int) ≤ (i : Int) := by omega
            have hmem : N.getD i 0 ∈ N := by simp [List.getD, show i < N.length by rw [HG.out.2.2.2.2]; exact hlt]
            obtain ⟨m, em⟩ : ∃ m, N.getD i 0 = m := ⟨_, rfl⟩
            have n0 := HQ.out i _ (natV_get (by rw [HG.out.2.2.2.2]; exact hlt))
            rw [em] at hmem n0
            obtain ⟨k1, k2⟩ := HG.out.2.2.1 m hmem
            rw [H.out.1] at k1
            rw [HI.out.1] at k2
            have r2 : w3.cell? ⟨br, orr + m, none⟩ = some (.bool (R.getD m false)) := HI.out.2.1 m _ (bcs_get (by rw [HI.out.2.2.2]; exact k1))
            have hnext := H3.out.2.2.2.next a
            rw [HI.out.2.2.1, HG.out.2.2.2.1] at hnext
            have m0 : ¬ (m : Int) < 0 := by omega
            have m0' : (0 : Int) ≤ (m : Int) := by omega
            have m1 : ¬ (m : Int) ≥ (p : Int) := by omega
            have m1' : (m : Int) < (p : Int) := by omega
            obtain ⟨rm, erm⟩ : ∃ x, R.getD m false = x := ⟨_, rfl⟩
            rw [erm] at r2
            have hra : ra = true → rm = true := fun h => by rw [← erm]; exact hnext h m hmem
            have HR7 := Lib.hid (And.intro hra k2)
            clear hra k2 hnext erm em hmem k1
            by_cases hma : m = a
            · have k3 := HR7.out.2 hma
              simp only at k3
              subst hma
              have hmm : ((m : Int) == (m : Int)) = true := by simp
              cases hrv : ra
              · subst hrv
                rcases k3 with rfl | rfl
                · go_wp2_with fail
                  go_roundw
                  all_goals first
                    | exact ⟨i + 1, by omega, by go_num, rfl⟩
                    | (simp only [intOf]; omega)
                    | exact ⟨⟨i + 1, by omega, by go_num, rfl⟩, by simp only [intOf]; omega⟩
                · go_wp2_with fail
                  go_roundw
                  all_goals first
                    | exact ⟨i + 1, by omega, by go_num, rfl⟩
                    | (simp only [intOf]; omega)
                    | exact ⟨⟨i + 1, by omega, by go_num, rfl⟩, by simp only [intOf]; omega⟩
              · subst hrv
                obtain rfl : rm = true := HR7.out.1 rfl
                rcases k3 with rfl | rfl
                · go_wp2_with fail
                  go_roundw
                  all_goals first
                    | exact ⟨i + 1, by omega, by go_num, rfl⟩
                    | (simp only [intOf]; omega)
                    | exact ⟨⟨i + 1, by omega, by go_num, rfl⟩, by simp only [intOf]; omega⟩
                · go_wp2_with fail
                  go_roundw
                  all_goals first
                    | exact ⟨i + 1, by omega, by go_num, rfl⟩
                    | (simp only [intOf]; omega)
                    | exact ⟨⟨i + 1, by omega, by go_num, rfl⟩, by simp only [intOf]; omega⟩
            · have hmb : ((m : Int) == (a : Int)) = false := by rw [beq_eq_false_iff_ne]; omega
              cases hrv : ra
              · subst hrv
                go_wp2_with fail
                go_roundw
                all_goals first
                  | exact ⟨i + 1, by omega, by go_num, rfl⟩
                  | (simp only [intOf]; omega)
                  | exact ⟨⟨i + 1, by omega, by go_num, rfl⟩, by simp only [intOf]; omega⟩
              · subst hrv
                obtain rfl : rm = true := HR7.out.1 rfl
                go_wp2_with fail
                go_roundw
                all_goals first
                  | exact ⟨i + 1, by omega, by go_num, rfl⟩
                  | (simp only [intOf]; omega)
                  | exact ⟨⟨i + 1, by omega, by go_num, rfl⟩, by simp only [intOf]; omega⟩
          · obtain rfl : i = t := by omega
            have hnl : ¬ (i : Int) < (i : Int) := by omega
            go_wp2_with (first
              | (go_at_call 8; refine (codeAwake _ (H.out.2.2.1.below H3.out.1)).mono ?_; rintro e w9 ⟨rfl, hb9⟩)
              | fail)
            go_ret
            exact ⟨rfl, H3.out.1.trans (hb9.mono H3.out.1.size)⟩
  · have ec : faultC (f1, f2) = [((f1 : Int), (f2 : Int))] := by unfold faultC; rw [if_neg h0]
    have HEC := Lib.hid ec
    clear ec
    go_wp2_with (first
      | (go_at_call 9; refine H.out.2.2.2.mono ?_; rintro e w0 ⟨rfl, rfl⟩)
      | (go_at_call 10; refine HCK.out.1.mono ?_; rintro e w1 ⟨v1, rfl, hc1, hb1⟩; rw [HEC.out] at hc1; obtain ⟨g1, u1, rfl, _, _⟩ := hc1; have H1 := Lib.hid hb1; clear hb1)
      | (go_at_call 8; refine (codeAwake _ (H.out.2.2.1.below H1.out)).mono ?_; rintro e w9 ⟨rfl, hb9⟩)
      | fail)
    go_ret
    exact ⟨rfl, H1.out.trans (hb9.mono H1.out.size)⟩
end Go.Proofs.YtbpmmklnjbkmlaaDoor
