/-
  ExtentConfined: whatever the number and the acts, the call answers true. Conditions: each theorem's own premises.
-/
import Derived.Test.YtdhaikcmgegfoaaExtCol
import Derived.Test.YtdhaikcmgegfoaaDiskArmed
namespace Go.Proofs.Ytdhaikcmgegfoaa
open Go.RowKit

theorem nine_zero : (Try.prog.info? 74).map (·.zero) = some (some (.agg (bv (List.replicate 9 0)).toArray)) := by kernel_rfl
theorem zeros_get (i : Nat) : (List.replicate 9 (0 : UInt8)).getD i 0 = 0 := by
  rw [List.getD, List.getElem?_replicate]
  split <;> rfl
/-- the blocks beside the disk -/
def confL (gd gp gq g1 n : Nat) (one two : List UInt8) : List (Nat × TypeId × Array Value) :=
  [(g1, 74, (bv one).toArray), (g1 + 1, 74, (bv two).toArray), (gq, 87, #[.int .i64 ((1 + n : Nat) : Int), .int .i64 3, .pointer (some ⟨gd, 0, none⟩)]), (gp, 87, #[.int .i64 1, .int .i64 (n : Int), .pointer (some ⟨gd, 0, none⟩)])]
section
variable {w wz : World} {gd gp gq g1 n : Nat} {F : Nat → Prop} {m : Dk} {one two : List UInt8}
theorem conf_one (h : ExS w wz gd F m (confL gd gp gq g1 n one two)) (hg : w.heap.size ≤ g1) (i : Nat) (f : UInt8) : ExS w (wz.setCell ⟨g1, i, none⟩ (.int .u8 (f.toNat : Int))) gd F m (confL gd gp gq g1 n (one.set i f) two) := by
  have b0 := h.nth 0 rfl
  have b1 := h.nth 1 rfl
  have b2 := h.nth 2 rfl
  have b3 := h.nth 3 rfl
  have f0 := (h.blk _ (List.mem_of_getElem? (i := 0) rfl)).2
  have f1 := (h.blk _ (List.mem_of_getElem? (i := 1) rfl)).2
  have f2 := (h.blk _ (List.mem_of_getElem? (i := 2) rfl)).2
  have f3 := (h.blk _ (List.mem_of_getElem? (i := 3) rfl)).2
  refine h.setAt g1 i _ hg f0 (fun p hp => ?_)
  simp only [confL, List.mem_cons, List.not_mem_nil, or_false] at hp
  rcases hp with rfl | rfl | rfl | rfl
  · exact ⟨b0.setAt i f, f0⟩
  · exact ⟨b1.far (by simp) _, f1⟩
  · exact ⟨b2.far (fun e => b2.apart b0 (show (87 : Nat) ≠ 74 by decide) e) _, f2⟩
  · exact ⟨b3.far (fun e => b3.apart b0 (show (87 : Nat) ≠ 74 by decide) e) _, f3⟩
theorem conf_two (h : ExS w wz gd F m (confL gd gp gq g1 n one two)) (hg : w.heap.size ≤ g1) (i : Nat) (f : UInt8) : ExS w (wz.setCell ⟨g1 + 1, i, none⟩ (.int .u8 (f.toNat : Int))) gd F m (confL gd gp gq g1 n one (two.set i f)) := by
  have b0 := h.nth 0 rfl
  have b1 := h.nth 1 rfl
  have b2 := h.nth 2 rfl
  have b3 := h.nth 3 rfl
  have f0 := (h.blk _ (List.mem_of_getElem? (i := 0) rfl)).2
  have f1 := (h.blk _ (List.mem_of_getElem? (i := 1) rfl)).2
  have f2 := (h.blk _ (List.mem_of_getElem? (i := 2) rfl)).2
  have f3 := (h.blk _ (List.mem_of_getElem? (i := 3) rfl)).2
  refine h.setAt (g1 + 1) i _ (by omega) f1 (fun p hp => ?_)
  simp only [confL, List.mem_cons, List.not_mem_nil, or_false] at hp
  rcases hp with rfl | rfl | rfl | rfl
  · exact ⟨b0.far (by simp) _, f0⟩
  · exact ⟨b1.setAt i f, f1⟩
  · exact ⟨b2.far (fun e => b2.apart b1 (show (87 : Nat) ≠ 74 by decide) e) _, f2⟩
  · exact ⟨b3.far (fun e => b3.apart b1 (show (87 : Nat) ≠ 74 by decide) e) _, f3⟩
end

set_option maxRecDepth 100000 in
set_option maxHeartbeats 4000000 in
set_option linter.unusedSimpArgs false in
theorem extentConfined_calls (cut : Int) (A : Option Addr) (na ca : Nat) (w : World) (hA : Acts w A na) (hna : na ≤ 9223372036854775807) :
    Calls Try.prog 6 #[.int .i64 cut, .slice A na ca] w fun e w' => e = .returned (.bool true) ∧ Below w.heap.size w w' := by
  obtain ⟨r, er⟩ : ∃ r : Nat, (r : Int) = if cut > 0 then Int.tmod cut 3 else 0 := by
    refine ⟨(if cut > 0 then Int.tmod cut 3 else 0).toNat, ?_⟩
    split
    · have := Int.tmod_nonneg 3 (show 0 ≤ cut by omega)
      omega
    · rfl
  have hr3 : r < 3 := by
    by_cases hp : cut > 0
    · rw [if_pos hp] at er
      have := Int.tmod_lt_of_pos cut (show (0 : Int) < 3 by decide)
      omega
    · rw [if_neg hp] at er
      omega
  obtain ⟨n, en⟩ : ∃ n, 1 + r = n := ⟨_, rfl⟩
  have hn : 1 ≤ n ∧ n ≤ 3 := by omega
  have HR := Lib.hid (And.intro er (And.intro en hr3))
  have HAr := Lib.hid (And.intro hA hna)
  have HN := Lib.hid hn
  clear er en hr3 hA hna
  go_enter Try.func6, Try.ntmps6
  go_wp2_with fail
  refine (dkNew_yes w 9 (by decide) (by decide)).mono ?_
  rintro e w3 ⟨gd, F, rfl, hd3, hb3, hF3⟩
  have h3 : ExS w w3 gd F (Dk.new 9) [] := ⟨hd3, hF3, hb3, by simp⟩
  have H3 := Lib.hid h3
  clear hd3 hb3 hF3 h3
  go_upto_if 34 with fail
  go_cut [7] from 33 to 37 (fun l wx => l = .int .i64 (n : Int) ∧ wx = w3)
  case first =>
    by_cases hp : cut > 0
    · have htm : Int.tmod cut 3 = (r : Int) := by rw [HR.out.1, if_pos hp]
      have hwr : IntKind.i64.wrap (r : Int) = (r : Int) := IntWalk.i64_in _ (by have := HR.out.2.2; omega)
      have hwn : IntKind.i64.wrap (1 + (r : Int)) = (n : Int) := by rw [← HR.out.2.1]; exact IntWalk.i64_in _ (by have := HR.out.2.2; omega)
      go_wp2_with fail
      go_meet
      case rel => exact ⟨by first | rfl | rw [htm, hwr, hwn] | rw [htm, hwn], rfl⟩
    · have hrn : n = 1 := by
        have h1 := HR.out.1
        rw [if_neg hp] at h1
        have := HR.out.2.1
        omega
      subst hrn
      go_wp2_with fail
      go_meet
      case rel => exact ⟨rfl, rfl⟩
  case rest =>
    obtain ⟨rfl, hwc⟩ := hcut
    have hwc := hwc.symm
    subst hwc
    have hwn : IntKind.i64.wrap (1 + (n : Int)) = ((1 + n : Nat) : Int) := IntWalk.i64_in _ (by have := HN.out.2; omega)
    go_wp2_with fail
    have hw := exNew w3 gd F (Dk.new 9) H3.out.d 1 n (by decide) (by have := HN.out.2; constructor <;> omega)
    rw [show (((Dk.new 9).has.length : Nat) : Int) = 9 from rfl, show liesB 1 n 9 = true by have := HN.out; simp only [liesB, decide_eq_true_eq]; omega] at hw
    unfold extV at hw
    refine hw.mono ?_
    intro e w4 hp
    obtain ⟨gp, rfl, h4⟩ := hp.yes H3.out
    have H4 := Lib.hid h4
    clear hw hp h4
    go_wp2_with fail
    have hw := exNew w4 gd F (Dk.new 9) H4.out.d (1 + n : Nat) 3 (by have := HN.out.2; constructor <;> omega) (by decide)
    rw [show (((Dk.new 9).has.length : Nat) : Int) = 9 from rfl, show liesB (1 + n : Nat) 3 9 = true by have := HN.out; simp only [liesB, decide_eq_true_eq]; omega] at hw
    unfold extV at hw
    refine hw.mono ?_
    intro e w5 hp
    obtain ⟨gq, rfl, h5⟩ := hp.yes H4.out
    have H5 := Lib.hid h5
    clear hw hp h5
    go_wp2_with (first | (with_reducible refine st_alloc 74 ?_; refine stopped ?_) | fail)
    refine go_on ?_
    refine wpList_alloc rfl 74 rfl _ nine_zero ?_
    intro w6 hb6 hw6 hz6
    refine wpList_alloc rfl 74 rfl _ nine_zero ?_
    intro w7 hb7 hw7 hz7
    obtain ⟨g1, eg1⟩ : ∃ g, w5.heap.size = g := ⟨_, rfl⟩
    have eg2 : w6.heap.size = g1 + 1 := by omega
    simp only [Act.put, List.setIfInBounds_toArray, List.set_cons_zero, List.set_cons_succ]
    obtain ⟨z9, ez9⟩ : ∃ l : List UInt8, List.replicate 9 0 = l := ⟨_, rfl⟩
    have h7 : ExS w w7 gd F (Dk.new 9) (confL gd gp gq g1 n z9 z9) := by
      have h6 := H5.out.below hw6
      have h7 := h6.below hw7
      have hlt : g1 ≤ w6.heap.size := by omega
      rw [eg1] at hb6
      rw [eg2] at hb7
      rw [ez9] at hb6 hb7
      have a := h7.add (g := g1 + 1) hb7 (fun hf => by have := h6.d.lt _ hf; omega)
      exact a.add (g := g1) (hb6.below hw7 (by omega)) (fun hf => by have := H5.out.d.lt _ hf; omega)
    have hgw : w.heap.size ≤ g1 := by have := H5.out.bel.size; omega
    have hz9 : z9.length = 9 := by rw [← ez9]; rfl
    have hcf : Conf (Dk.new 9) 0 (colOf n z9 z9) := by
      rw [col_zero n z9 z9 (by intro i; rw [← ez9]; exact zeros_get i) (by intro i; rw [← ez9]; exact zeros_get i)]
      exact Conf.new
    rw [eg1, eg2]
    have H7 := Lib.hid (And.intro h7 (And.intro hgw (And.intro hz9 hcf)))
    clear hb6 hw6 hz6 hb7 hw7 hz7 eg1 eg2 ez9 h7 hgw hz9 hcf H4 H5
    go_wp2_with fail
    go_loopw [14] (fun i wz => ∃ (k : Nat) (F : Nat → Prop) (m : Dk) (one two : List UInt8), k ≤ na ∧ k ≤ 40 ∧ i = .int .i64 (k : Int) ∧ one.length = 9 ∧ two.length = 9 ∧ Conf m k (colOf n one two) ∧ ExS w wz gd F m (confL gd gp gq g1 n one two)) (fun i _ => 40 - (intOf i).toNat)
    case atStart => exact ⟨0, F, Dk.new 9, z9, z9, by omega, by omega, rfl, H7.out.2.2.1, H7.out.2.2.1, H7.out.2.2.2, H7.out.1⟩
    case round =>
      obtain ⟨k, F, m, one, two, hkn, hk40, rfl, ho, ht, hc, hx⟩ := hrel
      have HX := Lib.hid (And.intro ho (And.intro ht (And.intro hc hx)))
      clear ho ht hc hx
      by_cases hlt : k < na
      · have hki : (k : Int) < (na : Int) := by omega
        by_cases hlt2 : k < 40
        · have hki2 : (k : Int) < 40 := by omega
          have hk0 : (0 : Int) ≤ (k : Int) := by omega
          obtain ⟨b, o, eA, hbA, hAi⟩ := (HAr.out.1.below HX.out.2.2.2.bel) (by omega)
          obtain ⟨a, Sa, cka, haok, hcells, _⟩ := hAi k hlt
          obtain ⟨X, eX⟩ : ∃ X, actCells a Sa cka = X := ⟨_, rfl⟩
          rw [eX] at hcells
          have HXa := Lib.hid (And.intro eX (And.intro hcells eA))
          have hXl : X.length = 5 := by rw [← eX]; rfl
          have hX1 : ∀ v ∈ X, v.oneCell' = true := by rw [← eX]; exact actCells_one a Sa cka
          have HX1 := Lib.hid (And.intro hXl hX1)
          subst eA
          clear eX hcells hAi hbA hXl hX1
          go_wp2_with (first | (with_reducible refine st_load 54 ?_; refine stopped ?_) | fail)
          refine go_on ?_
          refine wpList_load_at rfl 54 (.tmp 71) rfl b (o + k * 5) rfl X.toArray _ HXa.out.2.1 Try.underlying54 rfl (by rw [List.size_toArray, HX1.out.1]; exact act6_size) ?_
          refine wpList_alloc rfl 54 rfl _ act6_zero ?_
          intro w4 hb4 hw4 hz4
          obtain ⟨gl, egl⟩ : ∃ g, wr.heap.size = g := ⟨_, rfl⟩
          rw [egl] at hb4 ⊢
          refine wpList_store_whole rfl 54 (.tmp 15) (.tmp 72) rfl gl X rfl rfl 54 (actCells act0 none 0) hb4 (by rw [HX1.out.1]; exact act6_size) (by rw [HX1.out.1]; rfl) HX1.out.2 ?_
          intro w5 hb5 hg5
          simp only [Act.put, List.setIfInBounds_toArray, List.set_cons_zero, List.set_cons_succ]
          have hbel5 : Below wr.heap.size wr w5 := hw4.trans (only_below hg5 (by omega) (fun g e => by cases e; omega))
          have hx5 : ExS w w5 gd F m ((gl, 54, X.toArray) :: confL gd gp gq g1 n one two) := (HX.out.2.2.2.below hbel5).add hb5 (fun hf => by have := HX.out.2.2.2.d.lt _ hf; omega)
          have hXd : X.toArray[0]? = some (.int .i64 a.do_) := by rw [← HXa.out.1]; rfl
          have hXa : X.toArray[1]? = some (.int .i64 a.at_) := by rw [← HXa.out.1]; rfl
          have hXf : X.toArray[3]? = some (.int .u8 (a.fill.toNat : Int)) := by rw [← HXa.out.1]; rfl
          have HXc := Lib.hid (And.intro hXd (And.intro hXa hXf))
          have H5 := Lib.hid (And.intro hx5 haok)
          have hcf : w5.cell? ⟨gl, 3, none⟩ = some (.int .u8 (a.fill.toNat : Int)) := by rw [hb5.cell]; exact hXf
          obtain ⟨fl, efl⟩ : ∃ x, a.fill.toNat = x := ⟨_, rfl⟩
          rw [efl] at hcf
          clear hb4 hw4 hz4 hg5 hbel5 hx5 hb5 hXd hXa hXf egl haok
          have hB : (List.replicate 64 a.fill).length = 64 := by simp
          have hsec : ∀ w : World, Calls Try.prog 19 #[.int .u8 (fl : Int), .int .i64 0] w (OwnPost w (List.replicate 64 a.fill)) := fun w => by
            rw [← efl]
            exact sector_any w a.fill 0
          obtain ⟨B, eB⟩ : ∃ x, List.replicate 64 a.fill = x := ⟨_, rfl⟩
          rw [eB] at hB hsec
          have HSec := Lib.hid (And.intro hsec (And.intro hB (And.intro efl eB)))
          clear hsec hB eB efl
          go_wp2_with fail
          refine (HSec.out.1 _).mono ?_
          rintro e w8 ⟨v8, rfl, hown8, hb8⟩
          obtain ⟨A8, c8, rfl, ht8⟩ := H5.out.1.t.own hown8 hb8
          rw [HSec.out.2.1]
          have H8 := Lib.hid ht8
          have hcd : w8.cell? ⟨gl, 0, none⟩ = some (.int .i64 a.do_) := by rw [(ht8.s.nth 0 rfl).cell]; exact HXc.out.1
          have hca : w8.cell? ⟨gl, 1, none⟩ = some (.int .i64 a.at_) := by rw [(ht8.s.nth 0 rfl).cell]; exact HXc.out.2.1
          obtain ⟨pd, epd⟩ : ∃ x, a.do_ = x := ⟨_, rfl⟩
          rw [epd] at hcd
          have hw1 := HX.out.2.2.1.one HN.out.2 a.at_ a.fill HX.out.1
          have hw2 := HX.out.2.2.1.two HN.out.2 a.at_ a.fill HX.out.2.1
          rw [HSec.out.2.2.2] at hw1 hw2
          have hp := ptWrite w8 gp gd 1 n F m (ht8.s.nth 4 rfl) ht8.s.d (by have := HX.out.2.2.1.few; omega) (by decide) (by have := HN.out.2; constructor <;> omega) a.at_ H5.out.2.at1 A8 B c8 (ht8.nth 0 rfl)
          have hq := ptWrite w8 gq gd (1 + n : Nat) 3 F m (ht8.s.nth 3 rfl) ht8.s.d (by have := HX.out.2.2.1.few; omega) (by have := HN.out.2; constructor <;> omega) (by decide) a.at_ H5.out.2.at1 A8 B c8 (ht8.nth 0 rfl)
          rw [HSec.out.2.1] at hp hq
          have HP := Lib.hid (And.intro hp hq)
          clear ht8 hown8 hb8 epd hcf H5 hp hq
          obtain ⟨pa, epa⟩ : ∃ x, a.at_ = x := ⟨_, rfl⟩
          rw [epa] at hca hw1 hw2
          have HP2 := HP.out
          rw [epa] at HP2
          have HXc2 := HXc.out
          rw [epa] at HXc2
          have HXc2 := Lib.hid HXc2
          have HP2 := Lib.hid HP2
          clear epa HP HXc
          by_cases hpd : Int.tmod pd 2 = 0
          · clear hw2
            rcases hw1 with ⟨i, m', rfl, hin, e1, hc'⟩ | ⟨hno, e1⟩
            · have hp := HP2.out.1
              rw [e1] at hp
              have HC' := Lib.hid (And.intro hc' e1)
              clear hc' e1
              have hi0 : ¬ (i : Int) < 0 := by omega
              have hi1 : ¬ (i : Int) ≥ n := by omega
              have hi2 : (0 : Int) ≤ (i : Int) := by omega
              have hi3 : (i : Int) < 9 := by have := HN.out.2; omega
              have hi4 : i < 9 := by have := HN.out.2; omega
              go_wp2_with fail
              refine hp.mono ?_
              rintro e w9 ⟨rfl, F9, h9, hk9, hs9⟩
              have ht9 := H8.out.on (m' := m') h9 hk9 hs9
              have H9 := Lib.hid ht9.s
              clear hp h9 hk9 hs9
              have hca9 : w9.cell? ⟨gl, 1, none⟩ = some (.int .i64 (i : Int)) := by rw [(ht9.s.nth 0 rfl).cell]; exact HXc2.out.2.1
              have hcf9 : w9.cell? ⟨gl, 3, none⟩ = some (.int .u8 (fl : Int)) := by rw [(ht9.s.nth 0 rfl).cell, ← HSec.out.2.2.1]; exact HXc2.out.2.2
              have hco9 := (ht9.s.nth 1 rfl).getAt (i := i) (by rw [HX.out.1]; exact hi4)
              have hfz9 : w9.frozen? ⟨g1, i, none⟩ = false := (ht9.s.nth 1 rfl).frozen i
              clear ht9 hca hcd
              go_wp2_with fail
              go_roundw
              case rel =>
                refine ⟨k + 1, F9, m', one.set i a.fill, two, by omega, by omega, by go_num, by simp [HX.out.1], by simp [HX.out.2.1], HC'.out.1, ?_⟩
                rw [← HSec.out.2.2.1]
                exact conf_one H9.out.tail H7.out.2.1 i a.fill
              case measure => simp [intOf]; omega
            · have hp := HP2.out.1
              rw [e1] at hp
              clear e1
              go_wp2_with fail
              refine hp.mono ?_
              rintro e w9 ⟨rfl, F9, h9, hk9, hs9⟩
              have ht9 := H8.out.on (m' := m) h9 hk9 hs9
              have H9 := Lib.hid ht9.s
              clear hp h9 hk9 hs9 ht9
              go_wp2_with fail
              go_roundw
              case rel => exact ⟨k + 1, F9, m, one, two, by omega, by omega, by go_num, HX.out.1, HX.out.2.1, HX.out.2.2.1.more (by omega), H9.out.tail⟩
              case measure => simp [intOf]; omega
          · clear hw1
            rcases hw2 with ⟨i, m', rfl, hin, e1, hc'⟩ | ⟨hno, e1⟩
            · have hp := HP2.out.2
              rw [e1] at hp
              have HC' := Lib.hid (And.intro hc' e1)
              clear hc' e1
              have hi0 : ¬ (i : Int) < 0 := by omega
              have hi1 : ¬ (i : Int) ≥ 3 := by omega
              have hi2 : (0 : Int) ≤ (i : Int) := by omega
              have hi3 : (i : Int) < 9 := by have := HN.out.2; omega
              have hi4 : i < 9 := by have := HN.out.2; omega
              go_wp2_with fail
              refine hp.mono ?_
              rintro e w9 ⟨rfl, F9, h9, hk9, hs9⟩
              have ht9 := H8.out.on (m' := m') h9 hk9 hs9
              have H9 := Lib.hid ht9.s
              clear hp h9 hk9 hs9
              have hca9 : w9.cell? ⟨gl, 1, none⟩ = some (.int .i64 (i : Int)) := by rw [(ht9.s.nth 0 rfl).cell]; exact HXc2.out.2.1
              have hcf9 : w9.cell? ⟨gl, 3, none⟩ = some (.int .u8 (fl : Int)) := by rw [(ht9.s.nth 0 rfl).cell, ← HSec.out.2.2.1]; exact HXc2.out.2.2
              have hco9 := (ht9.s.nth 2 rfl).getAt (i := i) (by rw [HX.out.2.1]; exact hi4)
              have hfz9 : w9.frozen? ⟨g1 + 1, i, none⟩ = false := (ht9.s.nth 2 rfl).frozen i
              clear ht9 hca hcd
              go_wp2_with fail
              go_roundw
              case rel =>
                refine ⟨k + 1, F9, m', one, two.set i a.fill, by omega, by omega, by go_num, by simp [HX.out.1], by simp [HX.out.2.1], HC'.out.1, ?_⟩
                rw [← HSec.out.2.2.1]
                exact conf_two H9.out.tail H7.out.2.1 i a.fill
              case measure => simp [intOf]; omega
            · have hp := HP2.out.2
              rw [e1] at hp
              clear e1
              go_wp2_with fail
              refine hp.mono ?_
              rintro e w9 ⟨rfl, F9, h9, hk9, hs9⟩
              have ht9 := H8.out.on (m' := m) h9 hk9 hs9
              have H9 := Lib.hid ht9.s
              clear hp h9 hk9 hs9 ht9
              go_wp2_with fail
              go_roundw
              case rel => exact ⟨k + 1, F9, m, one, two, by omega, by omega, by go_num, HX.out.1, HX.out.2.1, HX.out.2.2.1.more (by omega), H9.out.tail⟩
              case measure => simp [intOf]; omega
        · have hki2 : ¬ (k : Int) < 40 := by omega
          go_wp2_with fail
          go_loopw [17] (fun i wz => ∃ j : Nat, j ≤ n ∧ i = .int .i64 (j : Int) ∧ ExS w wz gd F m (confL gd gp gq g1 n one two)) (fun i _ => n - (intOf i).toNat)
          case atStart => exact ⟨0, by omega, rfl, HX.out.2.2.2⟩
          case round =>
            obtain ⟨j, hj, rfl, hx⟩ := hrel
            have HJ17 := Lib.hid hx
            clear hx
            by_cases hlt3 : j < n
            · have hji : (j : Int) < (n : Int) := by omega
              have hj0 : (0 : Int) ≤ (j : Int) := by omega
              have hj9 : (j : Int) < 9 := by have := HN.out.2; omega
              have hp := ptRead wr gp gd 1 n F m (HJ17.out.nth 3 rfl) HJ17.out.d (by have := HX.out.2.2.1.few; omega) (by have := HN.out.2; constructor <;> omega) (by have := HN.out.2; constructor <;> omega) j (by constructor <;> omega)
              rw [HX.out.2.2.1.rone HN.out.2 j hlt3] at hp
              obtain ⟨f, ef⟩ : ∃ f, one.getD j 0 = f := ⟨_, rfl⟩
              have hsec : ∀ w : World, Calls Try.prog 19 #[.int .u8 (f.toNat : Int), .int .i64 0] w (OwnPost w (List.replicate 64 f)) := fun w => sector_any w f 0
              have hB : (List.replicate 64 f).length = 64 := by simp
              rw [ef] at hp
              obtain ⟨B, eB⟩ : ∃ x, List.replicate 64 f = x := ⟨_, rfl⟩
              rw [eB] at hp hsec hB
              obtain ⟨fl, efl⟩ : ∃ x, f.toNat = x := ⟨_, rfl⟩
              rw [efl] at hsec
              have HSec := Lib.hid (And.intro hsec (And.intro ef (And.intro efl hp)))
              clear eB hsec ef efl hp
              go_wp2_with fail
              refine HSec.out.2.2.2.mono ?_
              rintro e w4 ⟨v4, rfl, hown4, hb4⟩
              obtain ⟨A4, c4, rfl, ht4⟩ := HJ17.out.t.own hown4 hb4
              simp only [hB]
              have ht4d := ht4.below ((Below.refl w4.heap.size w4).drew)
              simp only at ht4d
              have H4 := Lib.hid ht4d
              obtain ⟨sB, esB⟩ : ∃ x : ByteArray, (⟨B.toArray⟩ : ByteArray) = x := ⟨_, rfl⟩
              obtain ⟨S1, eS1⟩ : ∃ S, S = ExH w gd (confL gd gp gq g1 n one two) [(A4, B)] := ⟨_, rfl⟩
              have hcell : ∀ w', S1 w' → w'.cell? ⟨g1, j, none⟩ = some (.int .u8 (fl : Int)) := fun w' h => by
                rw [eS1] at h
                obtain ⟨_, _, h⟩ := h
                rw [← HSec.out.2.2.1, ← HSec.out.2.1]
                exact (h.s.nth 0 rfl).getAt (by rw [HX.out.1]; omega)
              have hc4 : ∀ w', S1 w' → (convert 57 9 (.slice A4 64 c4)).run Try.prog w' = .ok (.string sB) w' := fun w' h => by
                rw [eS1] at h
                obtain ⟨_, _, h⟩ := h
                rw [← esB]
                exact h.str 0 rfl hB Try.underlying57 Try.underlying5 c4 Try.underlying9
              have hS : S1 w4.drew := by rw [eS1]; exact ⟨_, _, ht4d⟩
              clear hown4 hb4 ht4 ht4d
              go_wp2_with fail
              refine wp_region_held_drew (S := S1) (by kernel_rfl) hS (fun hHeld => ?_)
              refine wpAnyH_take (i := 0) (v := ?_) (List.getElem?_toArray.trans (List.getElem?_cons_zero)) (by kernel_rfl) (by kernel_rfl) (by kernel_rfl) (fun _ _ _ h => h) (Or.inl ⟨by rfl, ?_⟩) (by assumption) ?_
              rotate_left
              · intro w' hSw; (try dsimp only at hSw); go_simp; try with_reducible rfl
              try simp only [Act.put, List.setIfInBounds_toArray, List.set_cons_zero, List.set_cons_succ]
              refine wpAnyH_take (i := 1) (v := ?_) (List.getElem?_toArray.trans (List.getElem?_cons_succ.trans (List.getElem?_cons_zero))) (by kernel_rfl) (by kernel_rfl) (by kernel_rfl) (fun _ _ _ h => h) (Or.inl ⟨by rfl, ?_⟩) (by assumption) ?_
              rotate_left
              · intro w' hSw; go_simp; rw [hc4 w' hSw]; rfl
              try simp only [Act.put, List.setIfInBounds_toArray, List.set_cons_zero, List.set_cons_succ]
              refine wpAnyH_take (i := 2) (v := ?_) (List.getElem?_toArray.trans (List.getElem?_cons_succ.trans (List.getElem?_cons_succ.trans (List.getElem?_cons_zero)))) (by kernel_rfl) (by kernel_rfl) (by kernel_rfl) (fun _ _ _ h => h) (Or.inl ⟨by rfl, ?_⟩) (by assumption) ?_
              rotate_left
              · intro w' hSw; (try dsimp only at hSw); go_simp; try with_reducible rfl
              try simp only [Act.put, List.setIfInBounds_toArray, List.set_cons_zero, List.set_cons_succ]
              refine wpAnyH_take (i := 3) (v := ?_) (List.getElem?_toArray.trans (List.getElem?_cons_succ.trans (List.getElem?_cons_succ.trans (List.getElem?_cons_succ.trans (List.getElem?_cons_zero))))) (by kernel_rfl) (by kernel_rfl) (by kernel_rfl) (fun _ _ _ h => h) (Or.inl ⟨by rfl, ?_⟩) (by assumption) ?_
              rotate_left
              · intro w' hSw; (try dsimp only at hSw); go_simp; try with_reducible rfl
              try simp only [Act.put, List.setIfInBounds_toArray, List.set_cons_zero, List.set_cons_succ]
              refine wpAnyH_take (i := 4) (v := ?_) (List.getElem?_toArray.trans (List.getElem?_cons_succ.trans (List.getElem?_cons_succ.trans (List.getElem?_cons_succ.trans (List.getElem?_cons_succ.trans (List.getElem?_cons_zero)))))) (by kernel_rfl) (by kernel_rfl) (by kernel_rfl) (fun _ _ _ h => h) (Or.inl ⟨by rfl, ?_⟩) (by assumption) ?_
              rotate_left
              · intro w' hSw; have hld := hcell w' hSw; go_simp; try with_reducible rfl
              try simp only [Act.put, List.setIfInBounds_toArray, List.set_cons_zero, List.set_cons_succ]
              refine wpAnyH_ready (rs := [5]) (by kernel_rfl) (by simp) ?_
              refine AllReadyH.cons (List.getElem?_toArray.trans (List.getElem?_cons_succ.trans (List.getElem?_cons_succ.trans (List.getElem?_cons_succ.trans (List.getElem?_cons_succ.trans (List.getElem?_cons_succ.trans (List.getElem?_cons_zero))))))) (fun K hK => ?_) AllReadyH.nil
              go_simp
              refine (HSec.out.1 _).mono ?_
              rintro e w5 ⟨v5, rfl, hown5, hb5⟩
              obtain ⟨A5, c5, rfl, ht5⟩ := H4.out.own hown5 hb5
              rw [hB]
              have hS5 : S1 w5 := by rw [eS1]; exact ⟨_, _, ht5.drop⟩
              obtain ⟨S2, eS2⟩ : ∃ S, S = ExH w gd (confL gd gp gq g1 n one two) [(A5, B), (A4, B)] := ⟨_, rfl⟩
              have hs21 : ∀ w', S2 w' → S1 w' := fun w' h => by
                rw [eS2] at h
                obtain ⟨_, _, h⟩ := h
                rw [eS1]
                exact ⟨_, _, h.drop⟩
              have hc5 : ∀ w', S2 w' → (convert 57 9 (.slice A5 64 c5)).run Try.prog w' = .ok (.string sB) w' := fun w' h => by
                rw [eS2] at h
                obtain ⟨_, _, h⟩ := h
                rw [← esB]
                exact h.str 0 rfl hB Try.underlying57 Try.underlying5 c5 Try.underlying9
              have hS2 : S2 w5 := by rw [eS2]; exact ⟨_, _, ht5⟩
              have H5 := Lib.hid ht5.s
              clear hown5 hb5 ht5
              refine hK.out _ _ hS5 (fun hHeld => ?_)
              clear hK K
              try simp only [Act.put, List.setIfInBounds_toArray, List.set_cons_zero, List.set_cons_succ]
              refine wpAnyH_swap (S' := S2) (hs21) _ _ _ _ ?_
              refine wpAnyH_take (i := 6) (v := ?_) (List.getElem?_toArray.trans (List.getElem?_cons_succ.trans (List.getElem?_cons_succ.trans (List.getElem?_cons_succ.trans (List.getElem?_cons_succ.trans (List.getElem?_cons_succ.trans (List.getElem?_cons_succ.trans (List.getElem?_cons_zero)))))))) (by kernel_rfl) (by kernel_rfl) (by kernel_rfl) (fun _ _ _ h => h) (Or.inl ⟨by rfl, ?_⟩) (by assumption) ?_
              rotate_left
              · intro w' hSw; go_simp; rw [hc5 w' hSw]; rfl
              try simp only [Act.put, List.setIfInBounds_toArray, List.set_cons_zero, List.set_cons_succ]
              refine wpAnyH_take (i := 7) (v := ?_) (List.getElem?_toArray.trans (List.getElem?_cons_succ.trans (List.getElem?_cons_succ.trans (List.getElem?_cons_succ.trans (List.getElem?_cons_succ.trans (List.getElem?_cons_succ.trans (List.getElem?_cons_succ.trans (List.getElem?_cons_succ.trans (List.getElem?_cons_zero))))))))) (by kernel_rfl) (by kernel_rfl) (by kernel_rfl) (fun _ _ _ h => h) (Or.inl ⟨by rfl, ?_⟩) (by assumption) ?_
              rotate_left
              · intro w' hSw; (try dsimp only at hSw); go_simp; try with_reducible rfl
              try simp only [Act.put, List.setIfInBounds_toArray, List.set_cons_zero, List.set_cons_succ]
              refine wpAnyH_done (by kernel_rfl) ?_ _
              clear hcell hc4 hc5 hs21 hS hS5 hS2 hHeld
              go_wp2_with fail
              go_roundw
              case rel => exact ⟨j + 1, by omega, by go_num, H5.out⟩
              case measure => simp [intOf]; omega
            · have hji : ¬ (j : Int) < (n : Int) := by omega
              go_wp2_with fail
              go_loopw [20] (fun i wz => ∃ j : Nat, j ≤ 3 ∧ i = .int .i64 (j : Int) ∧ ExS w wz gd F m (confL gd gp gq g1 n one two)) (fun i _ => 3 - (intOf i).toNat)
              case atStart => exact ⟨0, by omega, rfl, HJ17.out⟩
              case round =>
                obtain ⟨j, hj, rfl, hx⟩ := hrel
                have HJ20 := Lib.hid hx
                clear hx
                by_cases hlt3 : j < 3
                · have hji : (j : Int) < 3 := by omega
                  have hj0 : (0 : Int) ≤ (j : Int) := by omega
                  have hj9 : (j : Int) < 9 := by have := HN.out.2; omega
                  have hp := ptRead wr gq gd (1 + n : Nat) 3 F m (HJ20.out.nth 2 rfl) HJ20.out.d (by have := HX.out.2.2.1.few; omega) (by have := HN.out.2; constructor <;> omega) (by have := HN.out.2; constructor <;> omega) j (by constructor <;> omega)
                  rw [HX.out.2.2.1.rtwo HN.out.2 j hlt3] at hp
                  obtain ⟨f, ef⟩ : ∃ f, two.getD j 0 = f := ⟨_, rfl⟩
                  have hsec : ∀ w : World, Calls Try.prog 19 #[.int .u8 (f.toNat : Int), .int .i64 0] w (OwnPost w (List.replicate 64 f)) := fun w => sector_any w f 0
                  have hB : (List.replicate 64 f).length = 64 := by simp
                  rw [ef] at hp
                  obtain ⟨B, eB⟩ : ∃ x, List.replicate 64 f = x := ⟨_, rfl⟩
                  rw [eB] at hp hsec hB
                  obtain ⟨fl, efl⟩ : ∃ x, f.toNat = x := ⟨_, rfl⟩
                  rw [efl] at hsec
                  have HSec := Lib.hid (And.intro hsec (And.intro ef (And.intro efl hp)))
                  clear eB hsec ef efl hp
                  go_wp2_with fail
                  refine HSec.out.2.2.2.mono ?_
                  rintro e w4 ⟨v4, rfl, hown4, hb4⟩
                  obtain ⟨A4, c4, rfl, ht4⟩ := HJ20.out.t.own hown4 hb4
                  simp only [hB]
                  have ht4d := ht4.below ((Below.refl w4.heap.size w4).drew)
                  simp only at ht4d
                  have H4 := Lib.hid ht4d
                  obtain ⟨sB, esB⟩ : ∃ x : ByteArray, (⟨B.toArray⟩ : ByteArray) = x := ⟨_, rfl⟩
                  obtain ⟨S1, eS1⟩ : ∃ S, S = ExH w gd (confL gd gp gq g1 n one two) [(A4, B)] := ⟨_, rfl⟩
                  have hcell : ∀ w', S1 w' → w'.cell? ⟨(g1 + 1), j, none⟩ = some (.int .u8 (fl : Int)) := fun w' h => by
                    rw [eS1] at h
                    obtain ⟨_, _, h⟩ := h
                    rw [← HSec.out.2.2.1, ← HSec.out.2.1]
                    exact (h.s.nth 1 rfl).getAt (by rw [HX.out.2.1]; omega)
                  have hc4 : ∀ w', S1 w' → (convert 57 9 (.slice A4 64 c4)).run Try.prog w' = .ok (.string sB) w' := fun w' h => by
                    rw [eS1] at h
                    obtain ⟨_, _, h⟩ := h
                    rw [← esB]
                    exact h.str 0 rfl hB Try.underlying57 Try.underlying5 c4 Try.underlying9
                  have hS : S1 w4.drew := by rw [eS1]; exact ⟨_, _, ht4d⟩
                  clear hown4 hb4 ht4 ht4d
                  go_wp2_with fail
                  refine wp_region_held_drew (S := S1) (by kernel_rfl) hS (fun hHeld => ?_)
                  refine wpAnyH_take (i := 0) (v := ?_) (List.getElem?_toArray.trans (List.getElem?_cons_zero)) (by kernel_rfl) (by kernel_rfl) (by kernel_rfl) (fun _ _ _ h => h) (Or.inl ⟨by rfl, ?_⟩) (by assumption) ?_
                  rotate_left
                  · intro w' hSw; (try dsimp only at hSw); go_simp; try with_reducible rfl
                  try simp only [Act.put, List.setIfInBounds_toArray, List.set_cons_zero, List.set_cons_succ]
                  refine wpAnyH_take (i := 1) (v := ?_) (List.getElem?_toArray.trans (List.getElem?_cons_succ.trans (List.getElem?_cons_zero))) (by kernel_rfl) (by kernel_rfl) (by kernel_rfl) (fun _ _ _ h => h) (Or.inl ⟨by rfl, ?_⟩) (by assumption) ?_
                  rotate_left
                  · intro w' hSw; go_simp; rw [hc4 w' hSw]; rfl
                  try simp only [Act.put, List.setIfInBounds_toArray, List.set_cons_zero, List.set_cons_succ]
                  refine wpAnyH_take (i := 2) (v := ?_) (List.getElem?_toArray.trans (List.getElem?_cons_succ.trans (List.getElem?_cons_succ.trans (List.getElem?_cons_zero)))) (by kernel_rfl) (by kernel_rfl) (by kernel_rfl) (fun _ _ _ h => h) (Or.inl ⟨by rfl, ?_⟩) (by assumption) ?_
                  rotate_left
                  · intro w' hSw; (try dsimp only at hSw); go_simp; try with_reducible rfl
                  try simp only [Act.put, List.setIfInBounds_toArray, List.set_cons_zero, List.set_cons_succ]
                  refine wpAnyH_take (i := 3) (v := ?_) (List.getElem?_toArray.trans (List.getElem?_cons_succ.trans (List.getElem?_cons_succ.trans (List.getElem?_cons_succ.trans (List.getElem?_cons_zero))))) (by kernel_rfl) (by kernel_rfl) (by kernel_rfl) (fun _ _ _ h => h) (Or.inl ⟨by rfl, ?_⟩) (by assumption) ?_
                  rotate_left
                  · intro w' hSw; (try dsimp only at hSw); go_simp; try with_reducible rfl
                  try simp only [Act.put, List.setIfInBounds_toArray, List.set_cons_zero, List.set_cons_succ]
                  refine wpAnyH_take (i := 4) (v := ?_) (List.getElem?_toArray.trans (List.getElem?_cons_succ.trans (List.getElem?_cons_succ.trans (List.getElem?_cons_succ.trans (List.getElem?_cons_succ.trans (List.getElem?_cons_zero)))))) (by kernel_rfl) (by kernel_rfl) (by kernel_rfl) (fun _ _ _ h => h) (Or.inl ⟨by rfl, ?_⟩) (by assumption) ?_
                  rotate_left
                  · intro w' hSw; have hld := hcell w' hSw; go_simp; try with_reducible rfl
                  try simp only [Act.put, List.setIfInBounds_toArray, List.set_cons_zero, List.set_cons_succ]
                  refine wpAnyH_ready (rs := [5]) (by kernel_rfl) (by simp) ?_
                  refine AllReadyH.cons (List.getElem?_toArray.trans (List.getElem?_cons_succ.trans (List.getElem?_cons_succ.trans (List.getElem?_cons_succ.trans (List.getElem?_cons_succ.trans (List.getElem?_cons_succ.trans (List.getElem?_cons_zero))))))) (fun K hK => ?_) AllReadyH.nil
                  go_simp
                  refine (HSec.out.1 _).mono ?_
                  rintro e w5 ⟨v5, rfl, hown5, hb5⟩
                  obtain ⟨A5, c5, rfl, ht5⟩ := H4.out.own hown5 hb5
                  rw [hB]
                  have hS5 : S1 w5 := by rw [eS1]; exact ⟨_, _, ht5.drop⟩
                  obtain ⟨S2, eS2⟩ : ∃ S, S = ExH w gd (confL gd gp gq g1 n one two) [(A5, B), (A4, B)] := ⟨_, rfl⟩
                  have hs21 : ∀ w', S2 w' → S1 w' := fun w' h => by
                    rw [eS2] at h
                    obtain ⟨_, _, h⟩ := h
                    rw [eS1]
                    exact ⟨_, _, h.drop⟩
                  have hc5 : ∀ w', S2 w' → (convert 57 9 (.slice A5 64 c5)).run Try.prog w' = .ok (.string sB) w' := fun w' h => by
                    rw [eS2] at h
                    obtain ⟨_, _, h⟩ := h
                    rw [← esB]
                    exact h.str 0 rfl hB Try.underlying57 Try.underlying5 c5 Try.underlying9
                  have hS2 : S2 w5 := by rw [eS2]; exact ⟨_, _, ht5⟩
                  have H5 := Lib.hid ht5.s
                  clear hown5 hb5 ht5
                  refine hK.out _ _ hS5 (fun hHeld => ?_)
                  clear hK K
                  try simp only [Act.put, List.setIfInBounds_toArray, List.set_cons_zero, List.set_cons_succ]
                  refine wpAnyH_swap (S' := S2) (hs21) _ _ _ _ ?_
                  refine wpAnyH_take (i := 6) (v := ?_) (List.getElem?_toArray.trans (List.getElem?_cons_succ.trans (List.getElem?_cons_succ.trans (List.getElem?_cons_succ.trans (List.getElem?_cons_succ.trans (List.getElem?_cons_succ.trans (List.getElem?_cons_succ.trans (List.getElem?_cons_zero)))))))) (by kernel_rfl) (by kernel_rfl) (by kernel_rfl) (fun _ _ _ h => h) (Or.inl ⟨by rfl, ?_⟩) (by assumption) ?_
                  rotate_left
                  · intro w' hSw; go_simp; rw [hc5 w' hSw]; rfl
                  try simp only [Act.put, List.setIfInBounds_toArray, List.set_cons_zero, List.set_cons_succ]
                  refine wpAnyH_take (i := 7) (v := ?_) (List.getElem?_toArray.trans (List.getElem?_cons_succ.trans (List.getElem?_cons_succ.trans (List.getElem?_cons_succ.trans (List.getElem?_cons_succ.trans (List.getElem?_cons_succ.trans (List.getElem?_cons_succ.trans (List.getElem?_cons_succ.trans (List.getElem?_cons_zero))))))))) (by kernel_rfl) (by kernel_rfl) (by kernel_rfl) (fun _ _ _ h => h) (Or.inl ⟨by rfl, ?_⟩) (by assumption) ?_
                  rotate_left
                  · intro w' hSw; (try dsimp only at hSw); go_simp; try with_reducible rfl
                  try simp only [Act.put, List.setIfInBounds_toArray, List.set_cons_zero, List.set_cons_succ]
                  refine wpAnyH_done (by kernel_rfl) ?_ _
                  clear hcell hc4 hc5 hs21 hS hS5 hS2 hHeld
                  go_wp2_with fail
                  go_roundw
                  case rel => exact ⟨j + 1, by omega, by go_num, H5.out⟩
                  case measure => simp [intOf]; omega
                · have hji : ¬ (j : Int) < 3 := by omega
                  have he := HX.out.2.2.1.edge HN.out.2
                  obtain ⟨N, eN⟩ : ∃ N, nought = N := ⟨_, rfl⟩
                  have hN : N.length = 64 := by rw [← eN]; exact nought_length
                  obtain ⟨sN, esN⟩ : ∃ x : ByteArray, (⟨N.toArray⟩ : ByteArray) = x := ⟨_, rfl⟩
                  have sn : ∀ w : World, Calls Try.prog 35 #[] w fun e w' => e = .returned (.string sN) ∧ Below w.heap.size w w' := fun w => by
                    rw [← esN, ← eN]
                    exact noughts_any w
                  rw [eN] at he
                  have h0 := fun w h => dkRead w gd F m h (by have := HX.out.2.2.1.few; omega) 0
                  have h8 := fun w h => dkRead w gd F m h (by have := HX.out.2.2.1.few; omega) 8
                  rw [he.1] at h0
                  rw [he.2] at h8
                  have HE := Lib.hid (And.intro h0 (And.intro h8 sn))
                  clear he h0 h8 sn eN
                  go_wp2_with fail
                  refine (HE.out.1 wr HJ20.out.d).mono ?_
                  rintro e w4 ⟨v4, rfl, hown4, hb4⟩
                  obtain ⟨A4, c4, rfl, ht4⟩ := HJ20.out.t.own hown4 hb4
                  simp only [hN]
                  have H4 := Lib.hid ht4
                  clear hown4 hb4 ht4
                  go_wp2_with fail
                  refine (HE.out.2.1 w4 H4.out.s.d).mono ?_
                  rintro e w5 ⟨v5, rfl, hown5, hb5⟩
                  obtain ⟨A5, c5, rfl, ht5⟩ := H4.out.own hown5 hb5
                  simp only [hN]
                  have ht5d := ht5.below ((Below.refl w5.heap.size w5).drew)
                  simp only at ht5d
                  have H5 := Lib.hid ht5d
                  obtain ⟨S1, eS1⟩ : ∃ S, S = ExH w gd (confL gd gp gq g1 n one two) [(A5, N), (A4, N)] := ⟨_, rfl⟩
                  have hc4 : ∀ w', S1 w' → (convert 57 9 (.slice A4 64 c4)).run Try.prog w' = .ok (.string sN) w' := fun w' h => by
                    rw [eS1] at h
                    obtain ⟨_, _, h⟩ := h
                    rw [← esN]
                    exact h.str 1 rfl hN Try.underlying57 Try.underlying5 c4 Try.underlying9
                  have hc5 : ∀ w', S1 w' → (convert 57 9 (.slice A5 64 c5)).run Try.prog w' = .ok (.string sN) w' := fun w' h => by
                    rw [eS1] at h
                    obtain ⟨_, _, h⟩ := h
                    rw [← esN]
                    exact h.str 0 rfl hN Try.underlying57 Try.underlying5 c5 Try.underlying9
                  have hS : S1 w5.drew := by rw [eS1]; exact ⟨_, _, ht5d⟩
                  clear hown5 hb5 ht5 ht5d
                  go_wp2_with fail
                  refine wp_region_held_drew (S := S1) (by kernel_rfl) hS (fun hHeld => ?_)
                  refine wpAnyH_take (i := 0) (v := ?_) (List.getElem?_toArray.trans (List.getElem?_cons_zero)) (by kernel_rfl) (by kernel_rfl) (by kernel_rfl) (fun _ _ _ h => h) (Or.inl ⟨by rfl, ?_⟩) (by assumption) ?_
                  rotate_left
                  · intro w' hSw; (try dsimp only at hSw); go_simp; try with_reducible rfl
                  try simp only [Act.put, List.setIfInBounds_toArray, List.set_cons_zero, List.set_cons_succ]
                  refine wpAnyH_take (i := 1) (v := ?_) (List.getElem?_toArray.trans (List.getElem?_cons_succ.trans (List.getElem?_cons_zero))) (by kernel_rfl) (by kernel_rfl) (by kernel_rfl) (fun _ _ _ h => h) (Or.inl ⟨by rfl, ?_⟩) (by assumption) ?_
                  rotate_left
                  · intro w' hSw; go_simp; rw [hc4 w' hSw]; rfl
                  try simp only [Act.put, List.setIfInBounds_toArray, List.set_cons_zero, List.set_cons_succ]
                  refine wpAnyH_ready (rs := [2]) (by kernel_rfl) (by simp) ?_
                  refine AllReadyH.cons (List.getElem?_toArray.trans (List.getElem?_cons_succ.trans (List.getElem?_cons_succ.trans (List.getElem?_cons_zero)))) (fun K hK => ?_) AllReadyH.nil
                  go_simp
                  refine (HE.out.2.2 _).mono ?_
                  rintro e w6 ⟨rfl, hb6⟩
                  have H6 := Lib.hid (H5.out.below hb6)
                  have hS6 : S1 w6 := by rw [eS1]; exact ⟨_, _, H6.out⟩
                  clear hb6
                  refine hK.out _ _ hS6 (fun hHeld => ?_)
                  clear hK K
                  try simp only [Act.put, List.setIfInBounds_toArray, List.set_cons_zero, List.set_cons_succ]
                  refine wpAnyH_take (i := 3) (v := ?_) (List.getElem?_toArray.trans (List.getElem?_cons_succ.trans (List.getElem?_cons_succ.trans (List.getElem?_cons_succ.trans (List.getElem?_cons_zero))))) (by kernel_rfl) (by kernel_rfl) (by kernel_rfl) (fun _ _ _ h => h) (Or.inl ⟨by rfl, ?_⟩) (by assumption) ?_
                  rotate_left
                  · intro w' hSw; (try dsimp only at hSw); go_simp; try with_reducible rfl
                  try simp only [Act.put, List.setIfInBounds_toArray, List.set_cons_zero, List.set_cons_succ]
                  refine wpAnyH_take (i := 4) (v := ?_) (List.getElem?_toArray.trans (List.getElem?_cons_succ.trans (List.getElem?_cons_succ.trans (List.getElem?_cons_succ.trans (List.getElem?_cons_succ.trans (List.getElem?_cons_zero)))))) (by kernel_rfl) (by kernel_rfl) (by kernel_rfl) (fun _ _ _ h => h) (Or.inl ⟨by rfl, ?_⟩) (by assumption) ?_
                  rotate_left
                  · intro w' hSw; (try dsimp only at hSw); go_simp; try with_reducible rfl
                  try simp only [Act.put, List.setIfInBounds_toArray, List.set_cons_zero, List.set_cons_succ]
                  refine wpAnyH_take (i := 5) (v := ?_) (List.getElem?_toArray.trans (List.getElem?_cons_succ.trans (List.getElem?_cons_succ.trans (List.getElem?_cons_succ.trans (List.getElem?_cons_succ.trans (List.getElem?_cons_succ.trans (List.getElem?_cons_zero))))))) (by kernel_rfl) (by kernel_rfl) (by kernel_rfl) (fun _ _ _ h => h) (Or.inl ⟨by rfl, ?_⟩) (by assumption) ?_
                  rotate_left
                  · intro w' hSw; (try dsimp only at hSw); go_simp; try with_reducible rfl
                  try simp only [Act.put, List.setIfInBounds_toArray, List.set_cons_zero, List.set_cons_succ]
                  refine wpAnyH_take (i := 6) (v := ?_) (List.getElem?_toArray.trans (List.getElem?_cons_succ.trans (List.getElem?_cons_succ.trans (List.getElem?_cons_succ.trans (List.getElem?_cons_succ.trans (List.getElem?_cons_succ.trans (List.getElem?_cons_succ.trans (List.getElem?_cons_zero)))))))) (by kernel_rfl) (by kernel_rfl) (by kernel_rfl) (fun _ _ _ h => h) (Or.inl ⟨by rfl, ?_⟩) (by assumption) ?_
                  rotate_left
                  · intro w' hSw; go_simp; rw [hc5 w' hSw]; rfl
                  try simp only [Act.put, List.setIfInBounds_toArray, List.set_cons_zero, List.set_cons_succ]
                  refine wpAnyH_ready (rs := [7]) (by kernel_rfl) (by simp) ?_
                  refine AllReadyH.cons (List.getElem?_toArray.trans (List.getElem?_cons_succ.trans (List.getElem?_cons_succ.trans (List.getElem?_cons_succ.trans (List.getElem?_cons_succ.trans (List.getElem?_cons_succ.trans (List.getElem?_cons_succ.trans (List.getElem?_cons_succ.trans (List.getElem?_cons_zero))))))))) (fun K hK => ?_) AllReadyH.nil
                  go_simp
                  refine (HE.out.2.2 _).mono ?_
                  rintro e w7 ⟨rfl, hb7⟩
                  have H7' := Lib.hid (H6.out.below hb7)
                  have hS7 : S1 w7 := by rw [eS1]; exact ⟨_, _, H7'.out⟩
                  clear hb7
                  refine hK.out _ _ hS7 (fun hHeld => ?_)
                  clear hK K
                  try simp only [Act.put, List.setIfInBounds_toArray, List.set_cons_zero, List.set_cons_succ]
                  refine wpAnyH_take (i := 8) (v := ?_) (List.getElem?_toArray.trans (List.getElem?_cons_succ.trans (List.getElem?_cons_succ.trans (List.getElem?_cons_succ.trans (List.getElem?_cons_succ.trans (List.getElem?_cons_succ.trans (List.getElem?_cons_succ.trans (List.getElem?_cons_succ.trans (List.getElem?_cons_succ.trans (List.getElem?_cons_zero)))))))))) (by kernel_rfl) (by kernel_rfl) (by kernel_rfl) (fun _ _ _ h => h) (Or.inl ⟨by rfl, ?_⟩) (by assumption) ?_
                  rotate_left
                  · intro w' hSw; (try dsimp only at hSw); go_simp; try with_reducible rfl
                  try simp only [Act.put, List.setIfInBounds_toArray, List.set_cons_zero, List.set_cons_succ]
                  refine wpAnyH_take (i := 9) (v := ?_) (List.getElem?_toArray.trans (List.getElem?_cons_succ.trans (List.getElem?_cons_succ.trans (List.getElem?_cons_succ.trans (List.getElem?_cons_succ.trans (List.getElem?_cons_succ.trans (List.getElem?_cons_succ.trans (List.getElem?_cons_succ.trans (List.getElem?_cons_succ.trans (List.getElem?_cons_succ.trans (List.getElem?_cons_zero))))))))))) (by kernel_rfl) (by kernel_rfl) (by kernel_rfl) (fun _ _ _ h => h) (Or.inl ⟨by rfl, ?_⟩) (by assumption) ?_
                  rotate_left
                  · intro w' hSw; (try dsimp only at hSw); go_simp; try with_reducible rfl
                  try simp only [Act.put, List.setIfInBounds_toArray, List.set_cons_zero, List.set_cons_succ]
                  refine wpAnyH_take (i := 10) (v := ?_) (List.getElem?_toArray.trans (List.getElem?_cons_succ.trans (List.getElem?_cons_succ.trans (List.getElem?_cons_succ.trans (List.getElem?_cons_succ.trans (List.getElem?_cons_succ.trans (List.getElem?_cons_succ.trans (List.getElem?_cons_succ.trans (List.getElem?_cons_succ.trans (List.getElem?_cons_succ.trans (List.getElem?_cons_succ.trans (List.getElem?_cons_zero)))))))))))) (by kernel_rfl) (by kernel_rfl) (by kernel_rfl) (fun _ _ _ h => h) (Or.inl ⟨by rfl, ?_⟩) (by assumption) ?_
                  rotate_left
                  · intro w' hSw; (try dsimp only at hSw); go_simp; try with_reducible rfl
                  try simp only [Act.put, List.setIfInBounds_toArray, List.set_cons_zero, List.set_cons_succ]
                  refine wpAnyH_ready (rs := [11]) (by kernel_rfl) (by simp) ?_
                  refine AllReadyH.cons (List.getElem?_toArray.trans (List.getElem?_cons_succ.trans (List.getElem?_cons_succ.trans (List.getElem?_cons_succ.trans (List.getElem?_cons_succ.trans (List.getElem?_cons_succ.trans (List.getElem?_cons_succ.trans (List.getElem?_cons_succ.trans (List.getElem?_cons_succ.trans (List.getElem?_cons_succ.trans (List.getElem?_cons_succ.trans (List.getElem?_cons_succ.trans (List.getElem?_cons_zero))))))))))))) (fun K hK => ?_) AllReadyH.nil
                  go_simp
                  refine (extAwake _).mono ?_
                  rintro e w8 ⟨rfl, hb8⟩
                  have H8 := Lib.hid (H7'.out.below hb8)
                  have hS8 : S1 w8 := by rw [eS1]; exact ⟨_, _, H8.out⟩
                  clear hb8
                  refine hK.out _ _ hS8 (fun hHeld => ?_)
                  clear hK K
                  try simp only [Act.put, List.setIfInBounds_toArray, List.set_cons_zero, List.set_cons_succ]
                  refine wpAnyH_take (i := 12) (v := ?_) (List.getElem?_toArray.trans (List.getElem?_cons_succ.trans (List.getElem?_cons_succ.trans (List.getElem?_cons_succ.trans (List.getElem?_cons_succ.trans (List.getElem?_cons_succ.trans (List.getElem?_cons_succ.trans (List.getElem?_cons_succ.trans (List.getElem?_cons_succ.trans (List.getElem?_cons_succ.trans (List.getElem?_cons_succ.trans (List.getElem?_cons_succ.trans (List.getElem?_cons_succ.trans (List.getElem?_cons_zero)))))))))))))) (by kernel_rfl) (by kernel_rfl) (by kernel_rfl) (fun _ _ _ h => h) (Or.inl ⟨by rfl, ?_⟩) (by assumption) ?_
                  rotate_left
                  · intro w' hSw; (try dsimp only at hSw); go_simp; try with_reducible rfl
                  try simp only [Act.put, List.setIfInBounds_toArray, List.set_cons_zero, List.set_cons_succ]
                  refine wpAnyH_take (i := 13) (v := ?_) (List.getElem?_toArray.trans (List.getElem?_cons_succ.trans (List.getElem?_cons_succ.trans (List.getElem?_cons_succ.trans (List.getElem?_cons_succ.trans (List.getElem?_cons_succ.trans (List.getElem?_cons_succ.trans (List.getElem?_cons_succ.trans (List.getElem?_cons_succ.trans (List.getElem?_cons_succ.trans (List.getElem?_cons_succ.trans (List.getElem?_cons_succ.trans (List.getElem?_cons_succ.trans (List.getElem?_cons_succ.trans (List.getElem?_cons_zero))))))))))))))) (by kernel_rfl) (by kernel_rfl) (by kernel_rfl) (fun _ _ _ h => h) (Or.inl ⟨by rfl, ?_⟩) (by assumption) ?_
                  rotate_left
                  · intro w' hSw; (try dsimp only at hSw); go_simp; try with_reducible rfl
                  try simp only [Act.put, List.setIfInBounds_toArray, List.set_cons_zero, List.set_cons_succ]
                  refine wpAnyH_done (by kernel_rfl) ?_ _
                  go_wp2_with fail
                  go_ret
                  exact ⟨rfl, H8.out.s.bel⟩
      · have hki : ¬ (k : Int) < (na : Int) := by omega
        go_wp2_with fail
        go_loopw [17] (fun i wz => ∃ j : Nat, j ≤ n ∧ i = .int .i64 (j : Int) ∧ ExS w wz gd F m (confL gd gp gq g1 n one two)) (fun i _ => n - (intOf i).toNat)
        case atStart => exact ⟨0, by omega, rfl, HX.out.2.2.2⟩
        case round =>
          obtain ⟨j, hj, rfl, hx⟩ := hrel
          have HJ17 := Lib.hid hx
          clear hx
          by_cases hlt3 : j < n
          · have hji : (j : Int) < (n : Int) := by omega
            have hj0 : (0 : Int) ≤ (j : Int) := by omega
            have hj9 : (j : Int) < 9 := by have := HN.out.2; omega
            have hp := ptRead wr gp gd 1 n F m (HJ17.out.nth 3 rfl) HJ17.out.d (by have := HX.out.2.2.1.few; omega) (by have := HN.out.2; constructor <;> omega) (by have := HN.out.2; constructor <;> omega) j (by constructor <;> omega)
            rw [HX.out.2.2.1.rone HN.out.2 j hlt3] at hp
            obtain ⟨f, ef⟩ : ∃ f, one.getD j 0 = f := ⟨_, rfl⟩
            have hsec : ∀ w : World, Calls Try.prog 19 #[.int .u8 (f.toNat : Int), .int .i64 0] w (OwnPost w (List.replicate 64 f)) := fun w => sector_any w f 0
            have hB : (List.replicate 64 f).length = 64 := by simp
            rw [ef] at hp
            obtain ⟨B, eB⟩ : ∃ x, List.replicate 64 f = x := ⟨_, rfl⟩
            rw [eB] at hp hsec hB
            obtain ⟨fl, efl⟩ : ∃ x, f.toNat = x := ⟨_, rfl⟩
            rw [efl] at hsec
            have HSec := Lib.hid (And.intro hsec (And.intro ef (And.intro efl hp)))
            clear eB hsec ef efl hp
            go_wp2_with fail
            refine HSec.out.2.2.2.mono ?_
            rintro e w4 ⟨v4, rfl, hown4, hb4⟩
            obtain ⟨A4, c4, rfl, ht4⟩ := HJ17.out.t.own hown4 hb4
            simp only [hB]
            have ht4d := ht4.below ((Below.refl w4.heap.size w4).drew)
            simp only at ht4d
            have H4 := Lib.hid ht4d
            obtain ⟨sB, esB⟩ : ∃ x : ByteArray, (⟨B.toArray⟩ : ByteArray) = x := ⟨_, rfl⟩
            obtain ⟨S1, eS1⟩ : ∃ S, S = ExH w gd (confL gd gp gq g1 n one two) [(A4, B)] := ⟨_, rfl⟩
            have hcell : ∀ w', S1 w' → w'.cell? ⟨g1, j, none⟩ = some (.int .u8 (fl : Int)) := fun w' h => by
              rw [eS1] at h
              obtain ⟨_, _, h⟩ := h
              rw [← HSec.out.2.2.1, ← HSec.out.2.1]
              exact (h.s.nth 0 rfl).getAt (by rw [HX.out.1]; omega)
            have hc4 : ∀ w', S1 w' → (convert 57 9 (.slice A4 64 c4)).run Try.prog w' = .ok (.string sB) w' := fun w' h => by
              rw [eS1] at h
              obtain ⟨_, _, h⟩ := h
              rw [← esB]
              exact h.str 0 rfl hB Try.underlying57 Try.underlying5 c4 Try.underlying9
            have hS : S1 w4.drew := by rw [eS1]; exact ⟨_, _, ht4d⟩
            clear hown4 hb4 ht4 ht4d
            go_wp2_with fail
            refine wp_region_held_drew (S := S1) (by kernel_rfl) hS (fun hHeld => ?_)
            refine wpAnyH_take (i := 0) (v := ?_) (List.getElem?_toArray.trans (List.getElem?_cons_zero)) (by kernel_rfl) (by kernel_rfl) (by kernel_rfl) (fun _ _ _ h => h) (Or.inl ⟨by rfl, ?_⟩) (by assumption) ?_
            rotate_left
            · intro w' hSw; (try dsimp only at hSw); go_simp; try with_reducible rfl
            try simp only [Act.put, List.setIfInBounds_toArray, List.set_cons_zero, List.set_cons_succ]
            refine wpAnyH_take (i := 1) (v := ?_) (List.getElem?_toArray.trans (List.getElem?_cons_succ.trans (List.getElem?_cons_zero))) (by kernel_rfl) (by kernel_rfl) (by kernel_rfl) (fun _ _ _ h => h) (Or.inl ⟨by rfl, ?_⟩) (by assumption) ?_
            rotate_left
            · intro w' hSw; go_simp; rw [hc4 w' hSw]; rfl
            try simp only [Act.put, List.setIfInBounds_toArray, List.set_cons_zero, List.set_cons_succ]
            refine wpAnyH_take (i := 2) (v := ?_) (List.getElem?_toArray.trans (List.getElem?_cons_succ.trans (List.getElem?_cons_succ.trans (List.getElem?_cons_zero)))) (by kernel_rfl) (by kernel_rfl) (by kernel_rfl) (fun _ _ _ h => h) (Or.inl ⟨by rfl, ?_⟩) (by assumption) ?_
            rotate_left
            · intro w' hSw; (try dsimp only at hSw); go_simp; try with_reducible rfl
            try simp only [Act.put, List.setIfInBounds_toArray, List.set_cons_zero, List.set_cons_succ]
            refine wpAnyH_take (i := 3) (v := ?_) (List.getElem?_toArray.trans (List.getElem?_cons_succ.trans (List.getElem?_cons_succ.trans (List.getElem?_cons_succ.trans (List.getElem?_cons_zero))))) (by kernel_rfl) (by kernel_rfl) (by kernel_rfl) (fun _ _ _ h => h) (Or.inl ⟨by rfl, ?_⟩) (by assumption) ?_
            rotate_left
            · intro w' hSw; (try dsimp only at hSw); go_simp; try with_reducible rfl
            try simp only [Act.put, List.setIfInBounds_toArray, List.set_cons_zero, List.set_cons_succ]
            refine wpAnyH_take (i := 4) (v := ?_) (List.getElem?_toArray.trans (List.getElem?_cons_succ.trans (List.getElem?_cons_succ.trans (List.getElem?_cons_succ.trans (List.getElem?_cons_succ.trans (List.getElem?_cons_zero)))))) (by kernel_rfl) (by kernel_rfl) (by kernel_rfl) (fun _ _ _ h => h) (Or.inl ⟨by rfl, ?_⟩) (by assumption) ?_
            rotate_left
            · intro w' hSw; have hld := hcell w' hSw; go_simp; try with_reducible rfl
            try simp only [Act.put, List.setIfInBounds_toArray, List.set_cons_zero, List.set_cons_succ]
            refine wpAnyH_ready (rs := [5]) (by kernel_rfl) (by simp) ?_
            refine AllReadyH.cons (List.getElem?_toArray.trans (List.getElem?_cons_succ.trans (List.getElem?_cons_succ.trans (List.getElem?_cons_succ.trans (List.getElem?_cons_succ.trans (List.getElem?_cons_succ.trans (List.getElem?_cons_zero))))))) (fun K hK => ?_) AllReadyH.nil
            go_simp
            refine (HSec.out.1 _).mono ?_
            rintro e w5 ⟨v5, rfl, hown5, hb5⟩
            obtain ⟨A5, c5, rfl, ht5⟩ := H4.out.own hown5 hb5
            rw [hB]
            have hS5 : S1 w5 := by rw [eS1]; exact ⟨_, _, ht5.drop⟩
            obtain ⟨S2, eS2⟩ : ∃ S, S = ExH w gd (confL gd gp gq g1 n one two) [(A5, B), (A4, B)] := ⟨_, rfl⟩
            have hs21 : ∀ w', S2 w' → S1 w' := fun w' h => by
              rw [eS2] at h
              obtain ⟨_, _, h⟩ := h
              rw [eS1]
              exact ⟨_, _, h.drop⟩
            have hc5 : ∀ w', S2 w' → (convert 57 9 (.slice A5 64 c5)).run Try.prog w' = .ok (.string sB) w' := fun w' h => by
              rw [eS2] at h
              obtain ⟨_, _, h⟩ := h
              rw [← esB]
              exact h.str 0 rfl hB Try.underlying57 Try.underlying5 c5 Try.underlying9
            have hS2 : S2 w5 := by rw [eS2]; exact ⟨_, _, ht5⟩
            have H5 := Lib.hid ht5.s
            clear hown5 hb5 ht5
            refine hK.out _ _ hS5 (fun hHeld => ?_)
            clear hK K
            try simp only [Act.put, List.setIfInBounds_toArray, List.set_cons_zero, List.set_cons_succ]
            refine wpAnyH_swap (S' := S2) (hs21) _ _ _ _ ?_
            refine wpAnyH_take (i := 6) (v := ?_) (List.getElem?_toArray.trans (List.getElem?_cons_succ.trans (List.getElem?_cons_succ.trans (List.getElem?_cons_succ.trans (List.getElem?_cons_succ.trans (List.getElem?_cons_succ.trans (List.getElem?_cons_succ.trans (List.getElem?_cons_zero)))))))) (by kernel_rfl) (by kernel_rfl) (by kernel_rfl) (fun _ _ _ h => h) (Or.inl ⟨by rfl, ?_⟩) (by assumption) ?_
            rotate_left
            · intro w' hSw; go_simp; rw [hc5 w' hSw]; rfl
            try simp only [Act.put, List.setIfInBounds_toArray, List.set_cons_zero, List.set_cons_succ]
            refine wpAnyH_take (i := 7) (v := ?_) (List.getElem?_toArray.trans (List.getElem?_cons_succ.trans (List.getElem?_cons_succ.trans (List.getElem?_cons_succ.trans (List.getElem?_cons_succ.trans (List.getElem?_cons_succ.trans (List.getElem?_cons_succ.trans (List.getElem?_cons_succ.trans (List.getElem?_cons_zero))))))))) (by kernel_rfl) (by kernel_rfl) (by kernel_rfl) (fun _ _ _ h => h) (Or.inl ⟨by rfl, ?_⟩) (by assumption) ?_
            rotate_left
            · intro w' hSw; (try dsimp only at hSw); go_simp; try with_reducible rfl
            try simp only [Act.put, List.setIfInBounds_toArray, List.set_cons_zero, List.set_cons_succ]
            refine wpAnyH_done (by kernel_rfl) ?_ _
            clear hcell hc4 hc5 hs21 hS hS5 hS2 hHeld
            go_wp2_with fail
            go_roundw
            case rel => exact ⟨j + 1, by omega, by go_num, H5.out⟩
            case measure => simp [intOf]; omega
          · have hji : ¬ (j : Int) < (n : Int) := by omega
            go_wp2_with fail
            go_loopw [20] (fun i wz => ∃ j : Nat, j ≤ 3 ∧ i = .int .i64 (j : Int) ∧ ExS w wz gd F m (confL gd gp gq g1 n one two)) (fun i _ => 3 - (intOf i).toNat)
            case atStart => exact ⟨0, by omega, rfl, HJ17.out⟩
            case round =>
              obtain ⟨j, hj, rfl, hx⟩ := hrel
              have HJ20 := Lib.hid hx
              clear hx
              by_cases hlt3 : j < 3
              · have hji : (j : Int) < 3 := by omega
                have hj0 : (0 : Int) ≤ (j : Int) := by omega
                have hj9 : (j : Int) < 9 := by have := HN.out.2; omega
                have hp := ptRead wr gq gd (1 + n : Nat) 3 F m (HJ20.out.nth 2 rfl) HJ20.out.d (by have := HX.out.2.2.1.few; omega) (by have := HN.out.2; constructor <;> omega) (by have := HN.out.2; constructor <;> omega) j (by constructor <;> omega)
                rw [HX.out.2.2.1.rtwo HN.out.2 j hlt3] at hp
                obtain ⟨f, ef⟩ : ∃ f, two.getD j 0 = f := ⟨_, rfl⟩
                have hsec : ∀ w : World, Calls Try.prog 19 #[.int .u8 (f.toNat : Int), .int .i64 0] w (OwnPost w (List.replicate 64 f)) := fun w => sector_any w f 0
                have hB : (List.replicate 64 f).length = 64 := by simp
                rw [ef] at hp
                obtain ⟨B, eB⟩ : ∃ x, List.replicate 64 f = x := ⟨_, rfl⟩
                rw [eB] at hp hsec hB
                obtain ⟨fl, efl⟩ : ∃ x, f.toNat = x := ⟨_, rfl⟩
                rw [efl] at hsec
                have HSec := Lib.hid (And.intro hsec (And.intro ef (And.intro efl hp)))
                clear eB hsec ef efl hp
                go_wp2_with fail
                refine HSec.out.2.2.2.mono ?_
                rintro e w4 ⟨v4, rfl, hown4, hb4⟩
                obtain ⟨A4, c4, rfl, ht4⟩ := HJ20.out.t.own hown4 hb4
                simp only [hB]
                have ht4d := ht4.below ((Below.refl w4.heap.size w4).drew)
                simp only at ht4d
                have H4 := Lib.hid ht4d
                obtain ⟨sB, esB⟩ : ∃ x : ByteArray, (⟨B.toArray⟩ : ByteArray) = x := ⟨_, rfl⟩
                obtain ⟨S1, eS1⟩ : ∃ S, S = ExH w gd (confL gd gp gq g1 n one two) [(A4, B)] := ⟨_, rfl⟩
                have hcell : ∀ w', S1 w' → w'.cell? ⟨(g1 + 1), j, none⟩ = some (.int .u8 (fl : Int)) := fun w' h => by
                  rw [eS1] at h
                  obtain ⟨_, _, h⟩ := h
                  rw [← HSec.out.2.2.1, ← HSec.out.2.1]
                  exact (h.s.nth 1 rfl).getAt (by rw [HX.out.2.1]; omega)
                have hc4 : ∀ w', S1 w' → (convert 57 9 (.slice A4 64 c4)).run Try.prog w' = .ok (.string sB) w' := fun w' h => by
                  rw [eS1] at h
                  obtain ⟨_, _, h⟩ := h
                  rw [← esB]
                  exact h.str 0 rfl hB Try.underlying57 Try.underlying5 c4 Try.underlying9
                have hS : S1 w4.drew := by rw [eS1]; exact ⟨_, _, ht4d⟩
                clear hown4 hb4 ht4 ht4d
                go_wp2_with fail
                refine wp_region_held_drew (S := S1) (by kernel_rfl) hS (fun hHeld => ?_)
                refine wpAnyH_take (i := 0) (v := ?_) (List.getElem?_toArray.trans (List.getElem?_cons_zero)) (by kernel_rfl) (by kernel_rfl) (by kernel_rfl) (fun _ _ _ h => h) (Or.inl ⟨by rfl, ?_⟩) (by assumption) ?_
                rotate_left
                · intro w' hSw; (try dsimp only at hSw); go_simp; try with_reducible rfl
                try simp only [Act.put, List.setIfInBounds_toArray, List.set_cons_zero, List.set_cons_succ]
                refine wpAnyH_take (i := 1) (v := ?_) (List.getElem?_toArray.trans (List.getElem?_cons_succ.trans (List.getElem?_cons_zero))) (by kernel_rfl) (by kernel_rfl) (by kernel_rfl) (fun _ _ _ h => h) (Or.inl ⟨by rfl, ?_⟩) (by assumption) ?_
                rotate_left
                · intro w' hSw; go_simp; rw [hc4 w' hSw]; rfl
                try simp only [Act.put, List.setIfInBounds_toArray, List.set_cons_zero, List.set_cons_succ]
                refine wpAnyH_take (i := 2) (v := ?_) (List.getElem?_toArray.trans (List.getElem?_cons_succ.trans (List.getElem?_cons_succ.trans (List.getElem?_cons_zero)))) (by kernel_rfl) (by kernel_rfl) (by kernel_rfl) (fun _ _ _ h => h) (Or.inl ⟨by rfl, ?_⟩) (by assumption) ?_
                rotate_left
                · intro w' hSw; (try dsimp only at hSw); go_simp; try with_reducible rfl
                try simp only [Act.put, List.setIfInBounds_toArray, List.set_cons_zero, List.set_cons_succ]
                refine wpAnyH_take (i := 3) (v := ?_) (List.getElem?_toArray.trans (List.getElem?_cons_succ.trans (List.getElem?_cons_succ.trans (List.getElem?_cons_succ.trans (List.getElem?_cons_zero))))) (by kernel_rfl) (by kernel_rfl) (by kernel_rfl) (fun _ _ _ h => h) (Or.inl ⟨by rfl, ?_⟩) (by assumption) ?_
                rotate_left
                · intro w' hSw; (try dsimp only at hSw); go_simp; try with_reducible rfl
                try simp only [Act.put, List.setIfInBounds_toArray, List.set_cons_zero, List.set_cons_succ]
                refine wpAnyH_take (i := 4) (v := ?_) (List.getElem?_toArray.trans (List.getElem?_cons_succ.trans (List.getElem?_cons_succ.trans (List.getElem?_cons_succ.trans (List.getElem?_cons_succ.trans (List.getElem?_cons_zero)))))) (by kernel_rfl) (by kernel_rfl) (by kernel_rfl) (fun _ _ _ h => h) (Or.inl ⟨by rfl, ?_⟩) (by assumption) ?_
                rotate_left
                · intro w' hSw; have hld := hcell w' hSw; go_simp; try with_reducible rfl
                try simp only [Act.put, List.setIfInBounds_toArray, List.set_cons_zero, List.set_cons_succ]
                refine wpAnyH_ready (rs := [5]) (by kernel_rfl) (by simp) ?_
                refine AllReadyH.cons (List.getElem?_toArray.trans (List.getElem?_cons_succ.trans (List.getElem?_cons_succ.trans (List.getElem?_cons_succ.trans (List.getElem?_cons_succ.trans (List.getElem?_cons_succ.trans (List.getElem?_cons_zero))))))) (fun K hK => ?_) AllReadyH.nil
                go_simp
                refine (HSec.out.1 _).mono ?_
                rintro e w5 ⟨v5, rfl, hown5, hb5⟩
                obtain ⟨A5, c5, rfl, ht5⟩ := H4.out.own hown5 hb5
                rw [hB]
                have hS5 : S1 w5 := by rw [eS1]; exact ⟨_, _, ht5.drop⟩
                obtain ⟨S2, eS2⟩ : ∃ S, S = ExH w gd (confL gd gp gq g1 n one two) [(A5, B), (A4, B)] := ⟨_, rfl⟩
                have hs21 : ∀ w', S2 w' → S1 w' := fun w' h => by
                  rw [eS2] at h
                  obtain ⟨_, _, h⟩ := h
                  rw [eS1]
                  exact ⟨_, _, h.drop⟩
                have hc5 : ∀ w', S2 w' → (convert 57 9 (.slice A5 64 c5)).run Try.prog w' = .ok (.string sB) w' := fun w' h => by
                  rw [eS2] at h
                  obtain ⟨_, _, h⟩ := h
                  rw [← esB]
                  exact h.str 0 rfl hB Try.underlying57 Try.underlying5 c5 Try.underlying9
                have hS2 : S2 w5 := by rw [eS2]; exact ⟨_, _, ht5⟩
                have H5 := Lib.hid ht5.s
                clear hown5 hb5 ht5
                refine hK.out _ _ hS5 (fun hHeld => ?_)
                clear hK K
                try simp only [Act.put, List.setIfInBounds_toArray, List.set_cons_zero, List.set_cons_succ]
                refine wpAnyH_swap (S' := S2) (hs21) _ _ _ _ ?_
                refine wpAnyH_take (i := 6) (v := ?_) (List.getElem?_toArray.trans (List.getElem?_cons_succ.trans (List.getElem?_cons_succ.trans (List.getElem?_cons_succ.trans (List.getElem?_cons_succ.trans (List.getElem?_cons_succ.trans (List.getElem?_cons_succ.trans (List.getElem?_cons_zero)))))))) (by kernel_rfl) (by kernel_rfl) (by kernel_rfl) (fun _ _ _ h => h) (Or.inl ⟨by rfl, ?_⟩) (by assumption) ?_
                rotate_left
                · intro w' hSw; go_simp; rw [hc5 w' hSw]; rfl
                try simp only [Act.put, List.setIfInBounds_toArray, List.set_cons_zero, List.set_cons_succ]
                refine wpAnyH_take (i := 7) (v := ?_) (List.getElem?_toArray.trans (List.getElem?_cons_succ.trans (List.getElem?_cons_succ.trans (List.getElem?_cons_succ.trans (List.getElem?_cons_succ.trans (List.getElem?_cons_succ.trans (List.getElem?_cons_succ.trans (List.getElem?_cons_succ.trans (List.getElem?_cons_zero))))))))) (by kernel_rfl) (by kernel_rfl) (by kernel_rfl) (fun _ _ _ h => h) (Or.inl ⟨by rfl, ?_⟩) (by assumption) ?_
                rotate_left
                · intro w' hSw; (try dsimp only at hSw); go_simp; try with_reducible rfl
                try simp only [Act.put, List.setIfInBounds_toArray, List.set_cons_zero, List.set_cons_succ]
                refine wpAnyH_done (by kernel_rfl) ?_ _
                clear hcell hc4 hc5 hs21 hS hS5 hS2 hHeld
                go_wp2_with fail
                go_roundw
                case rel => exact ⟨j + 1, by omega, by go_num, H5.out⟩
                case measure => simp [intOf]; omega
              · have hji : ¬ (j : Int) < 3 := by omega
                have he := HX.out.2.2.1.edge HN.out.2
                obtain ⟨N, eN⟩ : ∃ N, nought = N := ⟨_, rfl⟩
                have hN : N.length = 64 := by rw [← eN]; exact nought_length
                obtain ⟨sN, esN⟩ : ∃ x : ByteArray, (⟨N.toArray⟩ : ByteArray) = x := ⟨_, rfl⟩
                have sn : ∀ w : World, Calls Try.prog 35 #[] w fun e w' => e = .returned (.string sN) ∧ Below w.heap.size w w' := fun w => by
                  rw [← esN, ← eN]
                  exact noughts_any w
                rw [eN] at he
                have h0 := fun w h => dkRead w gd F m h (by have := HX.out.2.2.1.few; omega) 0
                have h8 := fun w h => dkRead w gd F m h (by have := HX.out.2.2.1.few; omega) 8
                rw [he.1] at h0
                rw [he.2] at h8
                have HE := Lib.hid (And.intro h0 (And.intro h8 sn))
                clear he h0 h8 sn eN
                go_wp2_with fail
                refine (HE.out.1 wr HJ20.out.d).mono ?_
                rintro e w4 ⟨v4, rfl, hown4, hb4⟩
                obtain ⟨A4, c4, rfl, ht4⟩ := HJ20.out.t.own hown4 hb4
                simp only [hN]
                have H4 := Lib.hid ht4
                clear hown4 hb4 ht4
                go_wp2_with fail
                refine (HE.out.2.1 w4 H4.out.s.d).mono ?_
                rintro e w5 ⟨v5, rfl, hown5, hb5⟩
                obtain ⟨A5, c5, rfl, ht5⟩ := H4.out.own hown5 hb5
                simp only [hN]
                have ht5d := ht5.below ((Below.refl w5.heap.size w5).drew)
                simp only at ht5d
                have H5 := Lib.hid ht5d
                obtain ⟨S1, eS1⟩ : ∃ S, S = ExH w gd (confL gd gp gq g1 n one two) [(A5, N), (A4, N)] := ⟨_, rfl⟩
                have hc4 : ∀ w', S1 w' → (convert 57 9 (.slice A4 64 c4)).run Try.prog w' = .ok (.string sN) w' := fun w' h => by
                  rw [eS1] at h
                  obtain ⟨_, _, h⟩ := h
                  rw [← esN]
                  exact h.str 1 rfl hN Try.underlying57 Try.underlying5 c4 Try.underlying9
                have hc5 : ∀ w', S1 w' → (convert 57 9 (.slice A5 64 c5)).run Try.prog w' = .ok (.string sN) w' := fun w' h => by
                  rw [eS1] at h
                  obtain ⟨_, _, h⟩ := h
                  rw [← esN]
                  exact h.str 0 rfl hN Try.underlying57 Try.underlying5 c5 Try.underlying9
                have hS : S1 w5.drew := by rw [eS1]; exact ⟨_, _, ht5d⟩
                clear hown5 hb5 ht5 ht5d
                go_wp2_with fail
                refine wp_region_held_drew (S := S1) (by kernel_rfl) hS (fun hHeld => ?_)
                refine wpAnyH_take (i := 0) (v := ?_) (List.getElem?_toArray.trans (List.getElem?_cons_zero)) (by kernel_rfl) (by kernel_rfl) (by kernel_rfl) (fun _ _ _ h => h) (Or.inl ⟨by rfl, ?_⟩) (by assumption) ?_
                rotate_left
                · intro w' hSw; (try dsimp only at hSw); go_simp; try with_reducible rfl
                try simp only [Act.put, List.setIfInBounds_toArray, List.set_cons_zero, List.set_cons_succ]
                refine wpAnyH_take (i := 1) (v := ?_) (List.getElem?_toArray.trans (List.getElem?_cons_succ.trans (List.getElem?_cons_zero))) (by kernel_rfl) (by kernel_rfl) (by kernel_rfl) (fun _ _ _ h => h) (Or.inl ⟨by rfl, ?_⟩) (by assumption) ?_
                rotate_left
                · intro w' hSw; go_simp; rw [hc4 w' hSw]; rfl
                try simp only [Act.put, List.setIfInBounds_toArray, List.set_cons_zero, List.set_cons_succ]
                refine wpAnyH_ready (rs := [2]) (by kernel_rfl) (by simp) ?_
                refine AllReadyH.cons (List.getElem?_toArray.trans (List.getElem?_cons_succ.trans (List.getElem?_cons_succ.trans (List.getElem?_cons_zero)))) (fun K hK => ?_) AllReadyH.nil
                go_simp
                refine (HE.out.2.2 _).mono ?_
                rintro e w6 ⟨rfl, hb6⟩
                have H6 := Lib.hid (H5.out.below hb6)
                have hS6 : S1 w6 := by rw [eS1]; exact ⟨_, _, H6.out⟩
                clear hb6
                refine hK.out _ _ hS6 (fun hHeld => ?_)
                clear hK K
                try simp only [Act.put, List.setIfInBounds_toArray, List.set_cons_zero, List.set_cons_succ]
                refine wpAnyH_take (i := 3) (v := ?_) (List.getElem?_toArray.trans (List.getElem?_cons_succ.trans (List.getElem?_cons_succ.trans (List.getElem?_cons_succ.trans (List.getElem?_cons_zero))))) (by kernel_rfl) (by kernel_rfl) (by kernel_rfl) (fun _ _ _ h => h) (Or.inl ⟨by rfl, ?_⟩) (by assumption) ?_
                rotate_left
                · intro w' hSw; (try dsimp only at hSw); go_simp; try with_reducible rfl
                try simp only [Act.put, List.setIfInBounds_toArray, List.set_cons_zero, List.set_cons_succ]
                refine wpAnyH_take (i := 4) (v := ?_) (List.getElem?_toArray.trans (List.getElem?_cons_succ.trans (List.getElem?_cons_succ.trans (List.getElem?_cons_succ.trans (List.getElem?_cons_succ.trans (List.getElem?_cons_zero)))))) (by kernel_rfl) (by kernel_rfl) (by kernel_rfl) (fun _ _ _ h => h) (Or.inl ⟨by rfl, ?_⟩) (by assumption) ?_
                rotate_left
                · intro w' hSw; (try dsimp only at hSw); go_simp; try with_reducible rfl
                try simp only [Act.put, List.setIfInBounds_toArray, List.set_cons_zero, List.set_cons_succ]
                refine wpAnyH_take (i := 5) (v := ?_) (List.getElem?_toArray.trans (List.getElem?_cons_succ.trans (List.getElem?_cons_succ.trans (List.getElem?_cons_succ.trans (List.getElem?_cons_succ.trans (List.getElem?_cons_succ.trans (List.getElem?_cons_zero))))))) (by kernel_rfl) (by kernel_rfl) (by kernel_rfl) (fun _ _ _ h => h) (Or.inl ⟨by rfl, ?_⟩) (by assumption) ?_
                rotate_left
                · intro w' hSw; (try dsimp only at hSw); go_simp; try with_reducible rfl
                try simp only [Act.put, List.setIfInBounds_toArray, List.set_cons_zero, List.set_cons_succ]
                refine wpAnyH_take (i := 6) (v := ?_) (List.getElem?_toArray.trans (List.getElem?_cons_succ.trans (List.getElem?_cons_succ.trans (List.getElem?_cons_succ.trans (List.getElem?_cons_succ.trans (List.getElem?_cons_succ.trans (List.getElem?_cons_succ.trans (List.getElem?_cons_zero)))))))) (by kernel_rfl) (by kernel_rfl) (by kernel_rfl) (fun _ _ _ h => h) (Or.inl ⟨by rfl, ?_⟩) (by assumption) ?_
                rotate_left
                · intro w' hSw; go_simp; rw [hc5 w' hSw]; rfl
                try simp only [Act.put, List.setIfInBounds_toArray, List.set_cons_zero, List.set_cons_succ]
                refine wpAnyH_ready (rs := [7]) (by kernel_rfl) (by simp) ?_
                refine AllReadyH.cons (List.getElem?_toArray.trans (List.getElem?_cons_succ.trans (List.getElem?_cons_succ.trans (List.getElem?_cons_succ.trans (List.getElem?_cons_succ.trans (List.getElem?_cons_succ.trans (List.getElem?_cons_succ.trans (List.getElem?_cons_succ.trans (List.getElem?_cons_zero))))))))) (fun K hK => ?_) AllReadyH.nil
                go_simp
                refine (HE.out.2.2 _).mono ?_
                rintro e w7 ⟨rfl, hb7⟩
                have H7' := Lib.hid (H6.out.below hb7)
                have hS7 : S1 w7 := by rw [eS1]; exact ⟨_, _, H7'.out⟩
                clear hb7
                refine hK.out _ _ hS7 (fun hHeld => ?_)
                clear hK K
                try simp only [Act.put, List.setIfInBounds_toArray, List.set_cons_zero, List.set_cons_succ]
                refine wpAnyH_take (i := 8) (v := ?_) (List.getElem?_toArray.trans (List.getElem?_cons_succ.trans (List.getElem?_cons_succ.trans (List.getElem?_cons_succ.trans (List.getElem?_cons_succ.trans (List.getElem?_cons_succ.trans (List.getElem?_cons_succ.trans (List.getElem?_cons_succ.trans (List.getElem?_cons_succ.trans (List.getElem?_cons_zero)))))))))) (by kernel_rfl) (by kernel_rfl) (by kernel_rfl) (fun _ _ _ h => h) (Or.inl ⟨by rfl, ?_⟩) (by assumption) ?_
                rotate_left
                · intro w' hSw; (try dsimp only at hSw); go_simp; try with_reducible rfl
                try simp only [Act.put, List.setIfInBounds_toArray, List.set_cons_zero, List.set_cons_succ]
                refine wpAnyH_take (i := 9) (v := ?_) (List.getElem?_toArray.trans (List.getElem?_cons_succ.trans (List.getElem?_cons_succ.trans (List.getElem?_cons_succ.trans (List.getElem?_cons_succ.trans (List.getElem?_cons_succ.trans (List.getElem?_cons_succ.trans (List.getElem?_cons_succ.trans (List.getElem?_cons_succ.trans (List.getElem?_cons_succ.trans (List.getElem?_cons_zero))))))))))) (by kernel_rfl) (by kernel_rfl) (by kernel_rfl) (fun _ _ _ h => h) (Or.inl ⟨by rfl, ?_⟩) (by assumption) ?_
                rotate_left
                · intro w' hSw; (try dsimp only at hSw); go_simp; try with_reducible rfl
                try simp only [Act.put, List.setIfInBounds_toArray, List.set_cons_zero, List.set_cons_succ]
                refine wpAnyH_take (i := 10) (v := ?_) (List.getElem?_toArray.trans (List.getElem?_cons_succ.trans (List.getElem?_cons_succ.trans (List.getElem?_cons_succ.trans (List.getElem?_cons_succ.trans (List.getElem?_cons_succ.trans (List.getElem?_cons_succ.trans (List.getElem?_cons_succ.trans (List.getElem?_cons_succ.trans (List.getElem?_cons_succ.trans (List.getElem?_cons_succ.trans (List.getElem?_cons_zero)))))))))))) (by kernel_rfl) (by kernel_rfl) (by kernel_rfl) (fun _ _ _ h => h) (Or.inl ⟨by rfl, ?_⟩) (by assumption) ?_
                rotate_left
                · intro w' hSw; (try dsimp only at hSw); go_simp; try with_reducible rfl
                try simp only [Act.put, List.setIfInBounds_toArray, List.set_cons_zero, List.set_cons_succ]
                refine wpAnyH_ready (rs := [11]) (by kernel_rfl) (by simp) ?_
                refine AllReadyH.cons (List.getElem?_toArray.trans (List.getElem?_cons_succ.trans (List.getElem?_cons_succ.trans (List.getElem?_cons_succ.trans (List.getElem?_cons_succ.trans (List.getElem?_cons_succ.trans (List.getElem?_cons_succ.trans (List.getElem?_cons_succ.trans (List.getElem?_cons_succ.trans (List.getElem?_cons_succ.trans (List.getElem?_cons_succ.trans (List.getElem?_cons_succ.trans (List.getElem?_cons_zero))))))))))))) (fun K hK => ?_) AllReadyH.nil
                go_simp
                refine (extAwake _).mono ?_
                rintro e w8 ⟨rfl, hb8⟩
                have H8 := Lib.hid (H7'.out.below hb8)
                have hS8 : S1 w8 := by rw [eS1]; exact ⟨_, _, H8.out⟩
                clear hb8
                refine hK.out _ _ hS8 (fun hHeld => ?_)
                clear hK K
                try simp only [Act.put, List.setIfInBounds_toArray, List.set_cons_zero, List.set_cons_succ]
                refine wpAnyH_take (i := 12) (v := ?_) (List.getElem?_toArray.trans (List.getElem?_cons_succ.trans (List.getElem?_cons_succ.trans (List.getElem?_cons_succ.trans (List.getElem?_cons_succ.trans (List.getElem?_cons_succ.trans (List.getElem?_cons_succ.trans (List.getElem?_cons_succ.trans (List.getElem?_cons_succ.trans (List.getElem?_cons_succ.trans (List.getElem?_cons_succ.trans (List.getElem?_cons_succ.trans (List.getElem?_cons_succ.trans (List.getElem?_cons_zero)))))))))))))) (by kernel_rfl) (by kernel_rfl) (by kernel_rfl) (fun _ _ _ h => h) (Or.inl ⟨by rfl, ?_⟩) (by assumption) ?_
                rotate_left
                · intro w' hSw; (try dsimp only at hSw); go_simp; try with_reducible rfl
                try simp only [Act.put, List.setIfInBounds_toArray, List.set_cons_zero, List.set_cons_succ]
                refine wpAnyH_take (i := 13) (v := ?_) (List.getElem?_toArray.trans (List.getElem?_cons_succ.trans (List.getElem?_cons_succ.trans (List.getElem?_cons_succ.trans (List.getElem?_cons_succ.trans (List.getElem?_cons_succ.trans (List.getElem?_cons_succ.trans (List.getElem?_cons_succ.trans (List.getElem?_cons_succ.trans (List.getElem?_cons_succ.trans (List.getElem?_cons_succ.trans (List.getElem?_cons_succ.trans (List.getElem?_cons_succ.trans (List.getElem?_cons_succ.trans (List.getElem?_cons_zero))))))))))))))) (by kernel_rfl) (by kernel_rfl) (by kernel_rfl) (fun _ _ _ h => h) (Or.inl ⟨by rfl, ?_⟩) (by assumption) ?_
                rotate_left
                · intro w' hSw; (try dsimp only at hSw); go_simp; try with_reducible rfl
                try simp only [Act.put, List.setIfInBounds_toArray, List.set_cons_zero, List.set_cons_succ]
                refine wpAnyH_done (by kernel_rfl) ?_ _
                go_wp2_with fail
                go_ret
                exact ⟨rfl, H8.out.s.bel⟩
end Go.Proofs.Ytdhaikcmgegfoaa
