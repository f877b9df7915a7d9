/-
  Package gram's studyFit, studyName, Check, Vanishes and First, by their contracts. Conditions: each theorem's own premises.
-/
import Derived.Test.YthfbmihpdkkcjaaDoorGramStudy
import Derived.Test.YthfbmihpdkkcjaaDoorGramShape
import Derived.Test.YthfbmihpdkkcjaaDoorGramClash
import Derived.Test.YthfbmihpdkkcjaaDoorGramSet2
namespace Go.Proofs.YthfbmihpdkkcjaaDoor
open Go.RowKit

theorem gram_size : (Tryd.prog.info? 25).map (·.size) = some 2 := by kernel_rfl
/-- what studyFit answers -/
def FitPost (w : World) (G : Gm) (e : Ending) (w' : World) : Prop :=
  ∃ (r : Nat × Nat) (v p : Value), e = .returned (.tuple #[p, v]) ∧ CheckIs G r ∧ Chain w' v (if r.1 = 0 then [] else [((r.1 : Int), (r.2 : Int))]) ∧ Below w.heap.size w w' ∧
    (r.1 = 0 → ∃ (g : Nat) (F : Fc), p = .pointer (some ⟨g, 0, none⟩) ∧ w.heap.size ≤ g ∧ FcAt w' g F ∧ F.Ok ∧ Know G F ∧ F.RmLe 16000000)
set_option maxRecDepth 100000 in
set_option maxHeartbeats 4000000 in
set_option linter.unusedSimpArgs false in
theorem gfFit (w : World) (G : Gm) (A : Option Addr) (L : List FmV) (n c : Nat) (hA : GmAt w w.heap.size A L G) (hn : L.length = n) (hs : SmallG G) : Calls Tryd.prog 16 #[gmv G.k A n c] w (FitPost w G) := by
  have H := Lib.hid (And.intro hA (And.intro hn hs))
  have hsh := fun (W : World) (hW : Below w.heap.size w W) => gfShape W G A L n c ((hA.below hW).more hW.size) hn hs
  have hstu := fun (W : World) (hW : Below w.heap.size w W) (hG : GrOk G) => gfStudy W G hG A L n c ((hA.below hW).more hW.size) hn
  have hok := hA.ok
  unfold gmv at hsh hstu ⊢
  clear hA hn hs
  obtain ⟨K, eK⟩ : ∃ K, G.k = K := ⟨_, rfl⟩
  rw [eK] at hsh hstu ⊢
  obtain ⟨gv, egv⟩ : ∃ gv : List Value, [.int .i64 K, .slice A n c] = gv := ⟨_, rfl⟩
  have egv' : (#[.int .i64 K, .slice A n c] : Array Value) = gv.toArray := by rw [← egv]
  have hg2 : gv.length = 2 := by rw [← egv]; rfl
  rw [egv'] at hsh hstu ⊢
  have HC := Lib.hid (And.intro hsh (And.intro hstu (And.intro eK (And.intro egv hok))))
  clear hsh hstu eK egv egv' hok
  go_enter Tryd.func16, Tryd.ntmps16
  go_wp2_with (first
    | (refine wpList_box (o := ⟨some 1, _, _, _, _, _⟩) rfl 25 (.tmp 0) rfl gv.toArray rfl ?_; intro w1 hb1 hw1 hz1)
    | (with_reducible refine st_load 25 ?_; refine stopped ?_)
    | fail)
  refine go_on ?_
  refine wpList_load_at rfl 25 (.tmp 1) rfl w.heap.size 0 rfl gv.toArray _ (Blk.cells hb1) Tryd.underlying25 rfl (by rw [List.size_toArray, hg2]; exact gram_size) ?_
  simp only [Act.put, List.setIfInBounds_toArray, List.set_cons_zero, List.set_cons_succ]
  have HW := Lib.hid (And.intro hw1 hb1)
  clear hb1 hw1 hz1
  go_wp2_with (first
    | (go_at_call 27; refine stopped ?_)
    | fail)
  refine go_on ?_
  refine (HC.out.1 w1 HW.out.1).mono ?_
  rintro e w2 ⟨v2, rfl, hb2, hcase⟩
  have hbw2 := HW.out.1.trans (hb2.mono HW.out.1.size)
  have hm2 := HW.out.2.below hb2 HW.out.2.lt
  rcases hcase with ⟨rfl, hwell⟩ | ⟨i, hch, hci⟩
  · have hG := grOk_of hwell HC.out.2.2.2.2
    obtain ⟨κ, eκ⟩ : ∃ κ : Nat, K = (κ : Int) := ⟨K.toNat, by have := hG.k; rw [HC.out.2.2.1] at this; omega⟩
    have hκ : κ ≤ 16 := by have := hG.k; rw [HC.out.2.2.1] at this; omega
    have H2 := Lib.hid (And.intro hbw2 (And.intro hm2 (And.intro hwell (And.intro hG eκ))))
    clear hb2 hbw2 hm2 hwell hG eκ
    go_wp2_with (first
      | (with_reducible refine st_load 25 ?_; refine stopped ?_)
      | fail)
    refine go_on ?_
    refine wpList_load_at rfl 25 (.tmp 1) rfl w.heap.size 0 rfl gv.toArray _ (Blk.cells H2.out.2.1) Tryd.underlying25 rfl (by rw [List.size_toArray, hg2]; exact gram_size) ?_
    simp only [Act.put, List.setIfInBounds_toArray, List.set_cons_zero, List.set_cons_succ]
    go_wp2_with (first
      | (go_at_call 28; refine stopped ?_)
      | fail)
    refine go_on ?_
    refine (HC.out.2.1 w2 H2.out.1 H2.out.2.2.2.1).mono ?_
    rintro e w3 ⟨g, F, rfl, hgge, hf, hF, hkn, hrm, hb3⟩
    have hbw3 := H2.out.1.trans (hb3.mono H2.out.1.size)
    have hm3 := Blk.below H2.out.2.1 hb3 H2.out.2.1.lt
    have k0 : w3.cell? ⟨w.heap.size, 0, none⟩ = some (.int .i64 (κ : Int)) := by rw [Blk.cell hm3, ← HC.out.2.2.2.1, ← H2.out.2.2.2.2]; rfl
    have H3 := Lib.hid (And.intro hbw3 (And.intro hm3 (And.intro (Nat.le_trans H2.out.1.size hgge) (And.intro hf (And.intro hF (And.intro hkn hrm))))))
    have hkn' := HC.out.2.2.1
    clear hgge hf hF hkn hrm hb3 hbw3 hm3
    go_wp2_with fail
    clear k0
    go_loopw [17] (fun u wz => ∃ k : Nat, k ≤ κ ∧ u = .int .i64 (k : Int) ∧ Below w3.heap.size w3 wz ∧ ∀ Y : Nat, Y < k → Txt G (Y : Int)) (fun u _ => κ - (intOf u).toNat)
    case atStart => exact ⟨0, by omega, rfl, Below.refl _ _, fun Y hY => by omega⟩
    case round =>
      obtain ⟨k, hk, rfl, hbel, hall⟩ := hrel
      have hbw := H3.out.1.trans (hbel.mono H3.out.1.size)
      have HI := Lib.hid (And.intro hbel (And.intro hbw hall))
      clear hall
      by_cases hlt : k < κ
      · have hki : (k : Int) < (κ : Int) := by omega
        have hk0 : (0 : Int) ≤ (k : Int) := by omega
        have hcF := FcAt.cs (FcAt.below H3.out.2.2.2.1 hbel H3.out.2.2.2.1.lt) H3.out.2.2.2.2.1 (i := 0) (o := 0) (by decide) rfl
        have hh := fun W => gsHas (F.at 0) (H3.out.2.2.2.2.1.at 0) k (by omega) W
        have HH := Lib.hid (And.intro hcF hh)
        clear hcF hh
        go_wp2_with (first
          | (with_reducible refine st_load 56 ?_; refine stopped ?_)
          | fail)
        refine go_on ?_
        refine wpList_load_at rfl 56 (.tmp 22) rfl g 0 rfl (F.at 0).cells.toArray _ HH.out.1 Tryd.underlying56 rfl set_size ?_
        simp only [Act.put, List.setIfInBounds_toArray, List.set_cons_zero, List.set_cons_succ]
        go_wp2_with (first
          | (go_at_call 19; refine stopped ?_)
          | fail)
        refine go_on ?_
        refine (HH.out.2 _).mono ?_
        rintro e w4 ⟨rfl, hb4⟩
        obtain ⟨tv, etv⟩ : ∃ z, (F.at 0).has k = z := ⟨_, rfl⟩
        rw [etv]
        have hT := H3.out.2.2.2.2.2.1.t k (by omega)
        rw [etv] at hT
        have hb14 := HI.out.1.trans (hb4.mono HI.out.1.size)
        have HT := Lib.hid (And.intro hT (And.intro hb14 (H3.out.1.trans (hb14.mono H3.out.1.size))))
        clear hT hb4 etv hb14
        cases tv
        · go_wp2_with (first
            | (go_at_call 29; refine (fNew 90 (k : Int) _ (by decide)).mono ?_; rintro e w5 ⟨v5, rfl, hc5, hb5⟩)
            | fail)
          go_ret2
          exact ⟨(90, k), v5, _, rfl, .barren H2.out.2.2.1 (by rw [HC.out.2.2.1, H2.out.2.2.2.2]; exact hki) (fun h => by have h1 := HT.out.1.2 h; first | cases h1 | exact h1) HI.out.2.2, hc5, HT.out.2.2.trans (hb5.mono HT.out.2.2.size), fun h => by cases h⟩
        · go_wp2_with fail
          go_roundw
          case rel => exact ⟨k + 1, by omega, by go_num, HT.out.2.1, fun Y hY => by
            rcases Nat.lt_or_ge Y k with h8 | h8
            · exact HI.out.2.2 Y h8
            · obtain rfl : Y = k := by omega
              exact HT.out.1.1 (by first | rfl | trivial)⟩
          case measure => simp [intOf]; omega
      · obtain rfl : k = κ := by omega
        have hkk : ¬ (k : Int) < (k : Int) := by omega
        have k0 : wr.cell? ⟨w.heap.size, 0, none⟩ = some (.int .i64 (k : Int)) := by rw [hbel.cell (p := ⟨w.heap.size, 0, none⟩) H3.out.2.1.lt, Blk.cell H3.out.2.1, ← HC.out.2.2.2.1, ← H2.out.2.2.2.2]; rfl
        go_wp2_with fail
        clear k0
        go_loopw [33] (fun u wz => ∃ i : Nat, i ≤ k ∧ u = .int .i64 (i : Int) ∧ Below w3.heap.size w3 wz ∧ ∀ Y : Nat, Y < i → ¬ ClashG G (Y : Int)) (fun u _ => k - (intOf u).toNat)
        case atStart => exact ⟨0, by omega, rfl, hbel, fun Y hY => by omega⟩
        case round =>
          obtain ⟨i, hi, rfl, hbel2, hall2⟩ := hrel
          have hbw2 := H3.out.1.trans (hbel2.mono H3.out.1.size)
          have HJ := Lib.hid (And.intro hbel2 (And.intro hbw2 hall2))
          clear hall2
          by_cases hlt2 : i < k
          · have hii : (i : Int) < (k : Int) := by omega
            have hi0 : (0 : Int) ≤ (i : Int) := by omega
            have k1 : wr.cell? ⟨w.heap.size, 1, none⟩ = some (.slice A n c) := by rw [hbel2.cell (p := ⟨w.heap.size, 1, none⟩) H3.out.2.1.lt, Blk.cell H3.out.2.1, ← HC.out.2.2.2.1]; rfl
            have HL := Lib.hid (gfClash wr g F H3.out.2.2.2.2.1 (FcAt.below H3.out.2.2.2.1 hbel2 H3.out.2.2.2.1.lt) G H3.out.2.2.2.2.2.1 H2.out.2.2.2.1 A L n c ((H.out.1.below hbw2).more hbw2.size) H.out.2.1 i (by omega))
            go_wp2_with (first
              | (go_at_call 30; refine stopped ?_)
              | fail)
            refine go_on ?_
            refine HL.out.mono ?_
            rintro e w4 ⟨tv, rfl, hb4, hT⟩
            have hb14 := HJ.out.1.trans (hb4.mono HJ.out.1.size)
            have HT := Lib.hid (And.intro hT (And.intro hb14 (H3.out.1.trans (hb14.mono H3.out.1.size))))
            clear hT hb4 hb14 k1
            cases tv
            · go_wp2_with fail
              go_roundw
              case rel => exact ⟨i + 1, by omega, by go_num, HT.out.2.1, fun Y hY => by
                rcases Nat.lt_or_ge Y i with h8 | h8
                · exact HJ.out.2.2 Y h8
                · obtain rfl : Y = i := by omega
                  exact fun h => by have h1 := HT.out.1.2 h; first | cases h1 | exact h1⟩
              case measure => simp [intOf]; omega
            · go_wp2_with (first
                | (go_at_call 29; refine (fNew 91 (i : Int) _ (by decide)).mono ?_; rintro e w5 ⟨v5, rfl, hc5, hb5⟩)
                | fail)
              go_ret2
              exact ⟨(91, i), v5, _, rfl, .clash H2.out.2.2.1 (fun Y hY => HI.out.2.2 Y (by rw [HC.out.2.2.1, H2.out.2.2.2.2] at hY; omega)) (by rw [HC.out.2.2.1, H2.out.2.2.2.2]; exact hii) (HT.out.1.1 (by first | rfl | trivial)) HJ.out.2.2, hc5, HT.out.2.2.trans (hb5.mono HT.out.2.2.size), fun h => by cases h⟩
          · obtain rfl : i = k := by omega
            have hkk2 : ¬ (i : Int) < (i : Int) := by omega
            go_wp2_with fail
            go_ret2
            exact ⟨(0, 0), .nilIface, _, rfl, .fit H2.out.2.2.1 (fun Y hY => HI.out.2.2 Y (by rw [HC.out.2.2.1, H2.out.2.2.2.2] at hY; omega)) (fun Y hY => HJ.out.2.2 Y (by rw [HC.out.2.2.1, H2.out.2.2.2.2] at hY; omega)), rfl, HJ.out.2.1, fun _ => ⟨g, F, rfl, H3.out.2.2.1, FcAt.below H3.out.2.2.2.1 HJ.out.1 H3.out.2.2.2.1.lt, H3.out.2.2.2.2.1, H3.out.2.2.2.2.2.1, H3.out.2.2.2.2.2.2⟩⟩
  · have HZ := Lib.hid (And.intro hch (And.intro hci hbw2))
    obtain ⟨g9, u9, rfl, _, _⟩ := hch
    clear hci hbw2 hm2 hb2
    go_wp2_with fail
    go_ret2
    exact ⟨(1, i), _, _, rfl, HZ.out.2.1, HZ.out.1, HZ.out.2.2, fun h => by cases h⟩
end Go.Proofs.YthfbmihpdkkcjaaDoor
