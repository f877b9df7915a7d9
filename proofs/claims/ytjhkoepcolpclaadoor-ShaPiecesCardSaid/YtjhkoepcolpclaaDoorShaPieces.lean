/-
  ShaPieces: the law answers true and turns nothing that was there. Conditions: the tables read as the program's text lays them; the theorem's own premises.
-/
import Derived.Test.YtjhkoepcolpclaaDoorShaCopies
import Derived.Test.YtjhkoepcolpclaaDoorShaOpens
namespace Go.Proofs.YtjhkoepcolpclaaDoor
open Go.RowKit

/-- v is a slice of the call's own that reads as l; the Hash's block g lies below -/
theorem Own.far {w w' : World} {base g : Nat} {e : TypeId} {v : Value} {l : List UInt8} (h : Own w base e v l) (hw : w.grownBy w' (some g)) (hg : g < base) : Own w' base e v l :=
  World.ownsRow.kept h hw (.inr fun e => by have := (World.ownsRow.lt h g e).1; omega)

set_option maxRecDepth 100000 in
set_option maxHeartbeats 4000000 in
set_option linter.unusedSimpArgs false in
theorem shaPieces_calls (A : Option Addr) (n c : Nat) (w : World) (hp : Pieces w A n) (ht : Tabs w) :
    Calls Tryd.prog 6 #[.slice A n c] w fun ev w' => ev = .returned (.bool true) ∧ Below w.heap.size w w' := by
  obtain ⟨i0, hi0, hz0, hz1, hz2⟩ := info_parts u8info
  have HP := Lib.hid hp
  have HT := Lib.hid ht
  have hn : n ≤ 9223372036854775807 := hp.1
  clear hp ht
  go_enter Tryd.func6, Tryd.ntmps6
  go_wp2_with fail
  refine (new_any w HT.out).mono ?_
  rintro e w1 ⟨rfl, hh1, hw1⟩
  have h2 := HT.out.two
  obtain ⟨gh, egh⟩ : ∃ g, w.heap.size = g := ⟨_, rfl⟩
  rw [egh] at hh1 ⊢
  have hlt1 := hh1.lt
  have H1 := Lib.hid (And.intro hh1 (And.intro hw1 (And.intro (show w.heap.size = gh ∧ 2 ≤ gh from ⟨egh, by omega⟩) hlt1)))
  clear hh1 hw1 egh h2 hlt1
  go_wp2_with fail
  go_loopw [4, 5] (fun v iv wz => ∃ (i : Nat) (all : List UInt8), i ≤ 12 ∧ iv = .int .i64 (i : Int) ∧ Own wz w1.heap.size 5 v all ∧ all.length ≤ 2000 * i ∧ Has wz gh all ∧ Below w.heap.size w wz ∧ w1.heap.size ≤ wz.heap.size) (fun _ iv _ => 12 - (intOf iv).toNat)
  case atStart => exact ⟨0, [], by omega, rfl, Own.nil_ _ _ _, by simp, H1.out.1, H1.out.2.1, Nat.le_refl _⟩
  case round =>
    obtain ⟨i, all, hi12, rfl, hown, hal, hhas, hbel, hsz⟩ := hrel
    obtain ⟨Aa, ca, hv, hcap, _, hbsa, _⟩ := hown.slice_cap
    obtain ⟨na, ena⟩ : ∃ x, all.length = x := ⟨_, rfl⟩
    subst hv
    rw [ena] at hal hcap hown ⊢
    have HW := Lib.hid (And.intro hown (And.intro hhas (And.intro hbel (And.intro hsz (And.intro (HT.out.on hbel (Nat.le_refl _)) (And.intro ena (And.intro hcap hbsa)))))))
    clear hown hhas hbel hsz ena hcap hbsa
    by_cases h1 : i < n
    · by_cases h2 : i < 12
      · obtain ⟨bb, oo, rfl, hbb, hcs⟩ := HP.out.2 (by omega)
        obtain ⟨Ai, li, ci, hcell0, hbsi, hlc, hcm⟩ := hcs i h1
        obtain ⟨m, nm, ln, eln, em, hm2, hmc, hmb, hfew⟩ := few_pack Ai li ci w hbsi hlc (Nat.le_trans hlc hcm)
        have hcell : wr.cell? ⟨bb, oo + i, none⟩ = some (.slice Ai ln ci) := by rw [← eln]; exact (HW.out.2.2.1.cell hbb).trans hcell0
        have HM := Lib.hid (And.intro em (And.intro hm2 (And.intro hmc (And.intro hmb hfew))))
        have hi1 : (i : Int) < (n : Int) := by omega
        have hi2 : (i : Int) < 12 := by omega
        clear hcs hcell0 hbsi hlc hcm eln em hm2 hmc hmb hfew hbb
        go_wp2_with fail
        refine (HM.out.2.2.2.2 _).mono ?_
        rintro e w' ⟨rfl, rfl⟩
        clear hcell
        go_wp2_with fail
        have hgh2 := H1.out.2.2.1
        have hwr := write_any gh all m Ai ci w.heap.size wr HW.out.2.1 hgh2.2 HW.out.2.2.2.2.1 (fun w' hw' => (HM.out.2.2.2.1.below HW.out.2.2.1).grown hw' HW.out.2.2.1.size (fun g e => by cases e; exact Nat.le_of_eq hgh2.1)) (by rw [HM.out.1]; exact HM.out.2.2.1) (by have h1 := HM.out.1; have h2 := HM.out.2.1; have h3 := HW.out.2.2.2.2.2.1; omega)
        rw [HM.out.1] at hwr
        refine hwr.mono ?_
        rintro e w2 ⟨rfl, hh2, hg2⟩
        have hs2 := hg2.size
        have H2 := Lib.hid (And.intro (Own.far HW.out.1 hg2 H1.out.2.2.2) (And.intro hh2 (And.intro (HW.out.2.2.1.trans (only_below hg2 HW.out.2.2.1.size (fun g e => by cases e; exact Nat.le_of_eq hgh2.1))) (And.intro (HW.out.2.2.2.2.1.grown hg2 hgh2.2) (show w1.heap.size ≤ w2.heap.size from Nat.le_trans HW.out.2.2.2.1 hs2)))))
        clear hwr hh2 hg2 hs2 hgh2
        go_wp2_with (first
          | (at_builtin; refine wpList_append_bytes_n _ rfl (.tmp 26) (.tmp 27) 22 rfl w1.heap.size 5 i0 (.int .u8 0) Tryd.underlying22 hi0 hz0 hz1 hz2 rfl (.slice Aa na ca) all rfl H2.out.1 w.heap.size Ai ci nm m HM.out.1 rfl (HM.out.2.2.2.1.below H2.out.2.2.1) (by have h1 := HM.out.1; have h2 := HM.out.2.1; have h3 := HW.out.2.2.2.2.2.1; omega) H2.out.2.2.2.2 ?_; intro v3 w3 hown3 hg3 _; refine stopped ?_)
          | fail)
        refine go_on ?_
        have hne : (Value.slice Aa na ca).ownBlock ≠ some gh := fun e => by have h1 := (World.ownsRow.lt H2.out.1 gh e).1; have h2 := H1.out.2.2.2; omega
        have hh3 : Has w3 gh (all ++ m) := H2.out.2.1.grown hg3 (fun e => hne e.symm)
        have hb3 : Below w.heap.size w w3 := H2.out.2.2.1.trans (only_below hg3 H2.out.2.2.1.size (fun g hg => by have h1 := (World.ownsRow.lt H2.out.1 g hg).1; have h2 := H1.out.2.1.size; omega))
        have ht3 := HT.out.on hb3 (Nat.le_refl _)
        have hs3 : w1.heap.size ≤ w3.heap.size := Nat.le_trans H2.out.2.2.2.2 hg3.size
        obtain ⟨A3, c3, hv3, _, _, hbs3, _⟩ := hown3.slice_cap
        subst hv3
        obtain ⟨all3, eall3⟩ : ∃ x, all ++ m = x := ⟨_, rfl⟩
        have hl3 : all3.length ≤ 2000 * (i + 1) := by rw [← eall3, List.length_append]; have h1 := HM.out.1; have h2 := HM.out.2.1; have h3 := HW.out.2.2.2.2.2.1; omega
        rw [eall3] at hown3 hh3 hbs3 ⊢
        obtain ⟨n3, en3⟩ : ∃ x, all3.length = x := ⟨_, rfl⟩
        rw [en3] at hown3 hl3 ⊢
        have H3 := Lib.hid (And.intro hown3 (And.intro hh3 (And.intro hb3 (And.intro ht3 (And.intro hs3 (And.intro hbs3 (And.intro en3 hl3)))))))
        have hlen : ∀ w1, Has w1 gh all3 → Calls Tryd.prog 18 #[.pointer (some ⟨gh, 0, none⟩)] w1 fun e w' => e = .returned (.int .i64 (n3 : Int)) ∧ w1 = w' := fun w1 h => by rw [← en3]; exact len_any gh all3 w1 h
        have HLen := Lib.hid hlen
        clear hne hh3 hb3 ht3 hs3 hown3 hg3 hbs3 en3 eall3 hl3 hlen
        try simp only [Act.put, List.setIfInBounds_toArray, List.set_cons_zero, List.set_cons_succ]
        go_wp2_with fail
        refine (HLen.out _ H3.out.2.1).mono ?_
        rintro e w' ⟨rfl, rfl⟩
        by_cases hpar : i % 2 = 1
        · have p1 : (i : Int) % 2 = 1 := by omega
          have p2 : (i : Int).tmod 2 = 1 := by rw [Int.tmod_eq_emod_of_nonneg (by omega)]; exact p1
          go_wp2_with fail
          have hsum := hashSum_any gh all3 w3 H3.out.2.1 H3.out.2.2.2.1 (by have h1 := H3.out.2.2.2.2.2.2.1; have h2 := H3.out.2.2.2.2.2.2.2; omega)
          obtain ⟨U, eU⟩ : ∃ U, (bv (sha all3)).toArray = U := ⟨_, rfl⟩
          have hq := fun w => eq32 (sha all3) (sha_length _) w
          rw [eU] at hsum hq
          have HQ := Lib.hid (And.intro hq eU)
          clear hq eU
          refine hsum.mono ?_
          rintro e w4 ⟨rfl, hw4⟩
          have H4 := Lib.hid (And.intro (H3.out.1.below hw4) (And.intro (H3.out.2.1.below hw4 H3.out.2.1.lt) (And.intro (H3.out.2.2.1.trans (hw4.mono H3.out.2.2.1.size)) (And.intro (Nat.le_trans H3.out.2.2.2.2.1 hw4.size) ((H3.out.2.2.2.2.2.1.below hw4).more hw4.size)))))
          clear hsum hw4
          go_wp2_with fail
          have hrs := refSum_any A3 all3 n3 c3 w4 H3.out.2.2.2.2.2.2.1 H4.out.2.2.2.2 (by have h2 := H3.out.2.2.2.2.2.2.2; omega)
          rw [HQ.out.2] at hrs
          refine hrs.mono ?_
          rintro e w5 ⟨rfl, hw5⟩
          have H5 := Lib.hid (And.intro (H4.out.1.below hw5) (And.intro (H4.out.2.1.below hw5 H4.out.2.1.lt) (And.intro (H4.out.2.2.1.trans (hw5.mono H4.out.2.2.1.size)) (Nat.le_trans H4.out.2.2.2.1 hw5.size))))
          have hq := HQ.out.1
          have hg := eqg32
          clear hrs hw5
          go_wp2_with fail
          go_roundw
          case rel => exact ⟨i + 1, all3, by omega, by go_num, H5.out.1, by rw [H3.out.2.2.2.2.2.2.1]; exact H3.out.2.2.2.2.2.2.2, H5.out.2.1, H5.out.2.2.1, H5.out.2.2.2⟩
          case measure => simp [intOf]; omega
        · have p1 : ¬ (i : Int) % 2 = 1 := by omega
          have p2 : (i : Int) % 2 = 0 := by omega
          have p3 : (i : Int).tmod 2 = 0 := by rw [Int.tmod_eq_emod_of_nonneg (by omega)]; exact p2
          go_wp2_with fail
          go_roundw
          case rel => exact ⟨i + 1, all3, by omega, by go_num, H3.out.1, by rw [H3.out.2.2.2.2.2.2.1]; exact H3.out.2.2.2.2.2.2.2, H3.out.2.1, H3.out.2.2.1, H3.out.2.2.2.2.1⟩
          case measure => simp [intOf]; omega
      · obtain rfl : i = 12 := by omega
        go_wp2_with fail
        have hlim : all.length ≤ 24000 := by have h3 := HW.out.2.2.2.2.2.1; omega
        have hsum := hashSum_any gh all wr HW.out.2.1 HW.out.2.2.2.2.1 (by omega)
        obtain ⟨U, eU⟩ : ∃ U, (bv (sha all)).toArray = U := ⟨_, rfl⟩
        have hq := fun w => eq32 (sha all) (sha_length _) w
        rw [eU] at hsum hq
        have HQ := Lib.hid (And.intro hq (And.intro eU hlim))
        clear hq eU hlim
        refine hsum.mono ?_
        rintro e w4 ⟨rfl, hw4⟩
        have H4 := Lib.hid (And.intro (HW.out.2.1.below hw4 HW.out.2.1.lt) (And.intro (HW.out.2.2.1.trans (hw4.mono HW.out.2.2.1.size)) (And.intro (HW.out.2.2.2.2.1.on hw4 (Nat.le_refl _)) ((HW.out.2.2.2.2.2.2.2.below hw4).more hw4.size))))
        clear hsum hw4
        go_wp2_with fail
        have hrs := refSum_any Aa all na ca w4 HW.out.2.2.2.2.2.1 H4.out.2.2.2 (by have h1 := HQ.out.2.2; have h2 := HW.out.2.2.2.2.2.1; omega)
        rw [HQ.out.2.1] at hrs
        refine hrs.mono ?_
        rintro e w5 ⟨rfl, hw5⟩
        have H5 := Lib.hid (And.intro (H4.out.1.below hw5 H4.out.1.lt) (And.intro (H4.out.2.1.trans (hw5.mono H4.out.2.1.size)) (And.intro (H4.out.2.2.1.on hw5 (Nat.le_refl _)) ((H4.out.2.2.2.below hw5).more hw5.size))))
        have hq := HQ.out.1
        have hg := eqg32
        clear hrs hw5
        go_wp2_with fail
        have hsum2 := hashSum_any gh all w5 H5.out.1 H5.out.2.2.1 (by have h1 := HQ.out.2.2; omega)
        rw [HQ.out.2.1] at hsum2
        refine hsum2.mono ?_
        rintro e w6 ⟨rfl, hw6⟩
        have H6 := Lib.hid (And.intro (H5.out.2.1.trans (hw6.mono H5.out.2.1.size)) (And.intro (H5.out.2.2.1.on hw6 (Nat.le_refl _)) ((H5.out.2.2.2.below hw6).more hw6.size)))
        clear hsum2 hw6
        go_wp2_with fail
        have hsm := sum_any Aa all na ca w6 HW.out.2.2.2.2.2.1 H6.out.2.1 H6.out.2.2 HW.out.2.2.2.2.2.2.1 (by have h1 := HQ.out.2.2; have h2 := HW.out.2.2.2.2.2.1; omega)
        rw [HQ.out.2.1] at hsm
        refine hsm.mono ?_
        rintro e w7 ⟨rfl, hw7⟩
        have H7 := Lib.hid (And.intro (H6.out.1.trans (hw7.mono H6.out.1.size)) (H6.out.2.1.on hw7 (Nat.le_refl _)))
        clear hsm hw7
        go_wp2_with fail
        refine (shaAwake_true w7 H7.out.2).mono ?_
        rintro e w8 ⟨rfl, hw8⟩
        go_wp2_with fail
        go_ret
        exact ⟨rfl, H7.out.1.trans (hw8.mono H7.out.1.size)⟩
    · go_wp2_with fail
      have hlim : all.length ≤ 24000 := by have h3 := HW.out.2.2.2.2.2.1; omega
      have hsum := hashSum_any gh all wr HW.out.2.1 HW.out.2.2.2.2.1 (by omega)
      obtain ⟨U, eU⟩ : ∃ U, (bv (sha all)).toArray = U := ⟨_, rfl⟩
      have hq := fun w => eq32 (sha all) (sha_length _) w
      rw [eU] at hsum hq
      have HQ := Lib.hid (And.intro hq (And.intro eU hlim))
      clear hq eU hlim
      refine hsum.mono ?_
      rintro e w4 ⟨rfl, hw4⟩
      have H4 := Lib.hid (And.intro (HW.out.2.1.below hw4 HW.out.2.1.lt) (And.intro (HW.out.2.2.1.trans (hw4.mono HW.out.2.2.1.size)) (And.intro (HW.out.2.2.2.2.1.on hw4 (Nat.le_refl _)) ((HW.out.2.2.2.2.2.2.2.below hw4).more hw4.size))))
      clear hsum hw4
      go_wp2_with fail
      have hrs := refSum_any Aa all na ca w4 HW.out.2.2.2.2.2.1 H4.out.2.2.2 (by have h1 := HQ.out.2.2; have h2 := HW.out.2.2.2.2.2.1; omega)
      rw [HQ.out.2.1] at hrs
      refine hrs.mono ?_
      rintro e w5 ⟨rfl, hw5⟩
      have H5 := Lib.hid (And.intro (H4.out.1.below hw5 H4.out.1.lt) (And.intro (H4.out.2.1.trans (hw5.mono H4.out.2.1.size)) (And.intro (H4.out.2.2.1.on hw5 (Nat.le_refl _)) ((H4.out.2.2.2.below hw5).more hw5.size))))
      have hq := HQ.out.1
      have hg := eqg32
      clear hrs hw5
      go_wp2_with fail
      have hsum2 := hashSum_any gh all w5 H5.out.1 H5.out.2.2.1 (by have h1 := HQ.out.2.2; omega)
      rw [HQ.out.2.1] at hsum2
      refine hsum2.mono ?_
      rintro e w6 ⟨rfl, hw6⟩
      have H6 := Lib.hid (And.intro (H5.out.2.1.trans (hw6.mono H5.out.2.1.size)) (And.intro (H5.out.2.2.1.on hw6 (Nat.le_refl _)) ((H5.out.2.2.2.below hw6).more hw6.size)))
      clear hsum2 hw6
      go_wp2_with fail
      have hsm := sum_any Aa all na ca w6 HW.out.2.2.2.2.2.1 H6.out.2.1 H6.out.2.2 HW.out.2.2.2.2.2.2.1 (by have h1 := HQ.out.2.2; have h2 := HW.out.2.2.2.2.2.1; omega)
      rw [HQ.out.2.1] at hsm
      refine hsm.mono ?_
      rintro e w7 ⟨rfl, hw7⟩
      have H7 := Lib.hid (And.intro (H6.out.1.trans (hw7.mono H6.out.1.size)) (H6.out.2.1.on hw7 (Nat.le_refl _)))
      clear hsm hw7
      go_wp2_with fail
      refine (shaAwake_true w7 H7.out.2).mono ?_
      rintro e w8 ⟨rfl, hw8⟩
      go_wp2_with fail
      go_ret
      exact ⟨rfl, H7.out.1.trans (hw8.mono H7.out.1.size)⟩
end Go.Proofs.YtjhkoepcolpclaaDoor
