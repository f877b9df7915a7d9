/-
  ExtentPlays: whatever the extent and the acts, the call answers true. Conditions: each theorem's own premises.
-/
import Derived.Test.YtdhaikcmgegfoaaExtPlay0
import Derived.Test.YtdhaikcmgegfoaaExtAwake
import Derived.Deep.CutBlock
namespace Go.Proofs.Ytdhaikcmgegfoaa
open Go.RowKit

set_option maxRecDepth 100000 in
set_option maxHeartbeats 4000000 in
set_option linter.unusedSimpArgs false in
theorem extentPlays_calls (xf xc : Int) (hxf : isI xf) (hxc : isI xc) (A : Option Addr) (na ca : Nat) (w : World) (hA : Acts w A na) (hna : na ≤ 9223372036854775807) :
    Calls Try.prog 5 #[.agg #[.int .i64 xf, .int .i64 xc], .slice A na ca] w fun e w' => e = .returned (.bool true) ∧ Below w.heap.size w w' := by
  have HI := Lib.hid (And.intro hxf hxc)
  have HAr := Lib.hid (And.intro hA hna)
  clear hxf hxc hA hna
  go_enter Try.func5, Try.ntmps5
  go_wp2_with (first | (with_reducible refine st_box 25 ?_; refine stopped ?_) | fail)
  refine go_on ?_
  refine wpList_box rfl 25 (.tmp 0) rfl #[.int .i64 xf, .int .i64 xc] rfl ?_
  intro w1 hb1 hw1 hz1
  obtain ⟨g2, e2⟩ : ∃ g, w.heap.size = g := ⟨_, rfl⟩
  rw [e2] at hb1 hw1 ⊢
  simp only [Act.put, List.setIfInBounds_toArray, List.set_cons_zero, List.set_cons_succ]
  have HB := Lib.hid (And.intro hb1 (And.intro hw1 (And.intro e2 (show w1.heap.size = g2 + 1 by omega))))
  clear hb1 hw1 hz1 e2
  go_wp2_with fail
  refine (dkNew_yes w1 9 (by decide) (by decide)).mono ?_
  rintro e w3 ⟨gd, F, rfl, hd3, hb3, hF3⟩
  have h3 : ExS w w3 gd F (Dk.new 9) [(g2, 25, #[.int .i64 xf, .int .i64 xc])] := by
    have h4 := HB.out.2.2.2
    have h5 := HB.out.2.2.1
    refine ⟨hd3, fun g hg => by have := hF3 g hg; omega, by rw [h5]; exact HB.out.2.1.trans (hb3.mono (by omega)), fun p hp => ?_⟩
    simp only [List.mem_cons, List.not_mem_nil, or_false] at hp
    subst hp
    exact ⟨HB.out.1.below hb3 (by omega), fun hf => by have := hF3 _ hf; omega⟩
  have H3 := Lib.hid h3
  clear hd3 hb3 hF3 h3
  go_wp2_with fail
  refine (refNew_yes 9 (by decide) (by decide) w3).mono ?_
  rintro e w4 ⟨cs, rfl, hR4, hb4, A0, c0, ecs, hnew⟩
  have hfar0 : ∀ g, F g → RefFar cs (Dk.new 9) g := fun g hg => by
    have hlt := H3.out.d.lt g hg
    rw [ecs]
    refine ref_far ⟨fun _ b o e e2 => ?_, fun h => by simp [Dk.new] at h, fun h => by simp [Dk.new] at h⟩
    have := hnew b o e
    omega
  have H4 := Lib.hid (And.intro hR4 (And.intro hb4 (And.intro hfar0 hR4.shape6)))
  clear ecs hnew hfar0 hR4 hb4
  go_wp2_with (first | (with_reducible refine st_alloc 45 ?_; refine stopped ?_) | fail)
  refine go_on ?_
  refine wpList_alloc rfl 45 rfl _ rdisk_zero ?_
  intro w5 hb5 hw5 hz5
  obtain ⟨g7, e7⟩ : ∃ g, w4.heap.size = g := ⟨_, rfl⟩
  rw [e7] at hb5 ⊢
  refine wpList_store_whole rfl 45 (.tmp 7) (.tmp 33) rfl g7 cs rfl rfl 45 rzero hb5 (rsize6 H4.out.2.2.2.1) (by rw [H4.out.2.2.2.1]; rfl) H4.out.2.2.2.2 ?_
  intro w6 hb6 hg6
  simp only [Act.put, List.setIfInBounds_toArray, List.set_cons_zero, List.set_cons_succ]
  have h6 : ExR w w6 gd g7 F (Dk.new 9) cs (Dk.new 9) [(g2, 25, #[.int .i64 xf, .int .i64 xc])] := by
    have hbel : Below w4.heap.size w4 w6 := hw5.trans (only_below hg6 (by omega) (fun g e => by cases e; omega))
    have k1 := H4.out.2.1.size
    have k2 := H3.out.bel.size
    have hs6 := (H3.out.below H4.out.2.1).below hbel
    have hg2 := (H3.out.nth 0 rfl).lt
    simp only at hg2
    refine ⟨hs6, (H4.out.1.below hbel).more hbel.size, H4.out.2.2.1, H4.out.1.beyond (by omega), hb6, fun hf => by have := H3.out.d.lt _ hf; omega, by omega, fun p hp => ?_⟩
    simp only [List.mem_cons, List.not_mem_nil, or_false] at hp
    subst hp
    simp only
    omega
  have H6 := Lib.hid h6
  clear hb5 hw5 hz5 hb6 hg6 h6 e7
  have cx0 : w6.cell? ⟨g2, 0, none⟩ = some (.int .i64 xf) := by rw [(H6.out.s.nth 0 rfl).cell]; rfl
  have cx1 : w6.cell? ⟨g2, 1, none⟩ = some (.int .i64 xc) := by rw [(H6.out.s.nth 0 rfl).cell]; rfl
  go_wp2_with fail
  have hn := exNew w6 gd F (Dk.new 9) H6.out.s.d xf xc HI.out.1 HI.out.2
  rw [show (((Dk.new 9).has.length : Nat) : Int) = 9 from rfl] at hn
  unfold extV at hn
  have hl := fun w => refLies_any xf xc 9 HI.out.1 HI.out.2 (by decide) w
  cases hx : liesB xf xc 9 with
  | false =>
    rw [hx] at hn hl
    refine hn.mono ?_
    intro e w7 hp
    obtain ⟨rfl, hb7⟩ := hp.no
    have H7 := Lib.hid (H6.out.below hb7)
    have HL := Lib.hid hl
    clear hn hp hb7 hx cx0 cx1 hl
    have cx0 : w7.cell? ⟨g2, 0, none⟩ = some (.int .i64 xf) := by rw [(H7.out.s.nth 0 rfl).cell]; rfl
    have cx1 : w7.cell? ⟨g2, 1, none⟩ = some (.int .i64 xc) := by rw [(H7.out.s.nth 0 rfl).cell]; rfl
    go_wp2_with (first
      | (go_at_call 16; refine (HL.out _).mono ?_; rintro e w8 ⟨rfl, rfl⟩)
      | (go_at_call 10; refine (extAwake _).mono ?_; rintro e w9 ⟨rfl, hb9⟩)
      | fail)
    go_ret
    have hb := H7.out.s.bel
    exact ⟨rfl, hb.trans (hb9.mono hb.size)⟩
  | true =>
    rw [hx] at hn hl
    refine hn.mono ?_
    intro e w7 hp
    have hx' := hx
    simp only [liesB, decide_eq_true_eq] at hx'
    obtain ⟨xn, rfl⟩ : ∃ n : Nat, xf = n := ⟨xf.toNat, by omega⟩
    obtain ⟨xm, rfl⟩ : ∃ n : Nat, xc = n := ⟨xc.toNat, by omega⟩
    have hxx : xn + xm ≤ 9 := by omega
    have h7 : ∃ gp, e = .returned (.tuple #[.pointer (some ⟨gp, 0, none⟩), .int .i64 0]) ∧ ExR w w7 gd g7 F (Dk.new 9) cs (Dk.new 9) [(gp, 87, #[.int .i64 (xn : Int), .int .i64 (xm : Int), .pointer (some ⟨gd, 0, none⟩)]), (g2, 25, #[.int .i64 (xn : Int), .int .i64 (xm : Int)])] := by
      obtain ⟨hb, ⟨_, gp, he, hp, hn⟩ | ⟨hn, _⟩⟩ := hp
      · exact ⟨gp, he, (H6.out.below hb).add hp (fun hf => by have := H6.out.s.d.lt gp hf; omega) (by have := H6.out.b7.lt; omega)⟩
      · cases hn
    obtain ⟨gp, rfl, h7⟩ := h7
    obtain ⟨L, eL⟩ : ∃ L : List (Nat × TypeId × Array Value), L = [(gp, 87, #[.int .i64 (xn : Int), .int .i64 (xm : Int), .pointer (some ⟨gd, 0, none⟩)]), (g2, 25, #[.int .i64 (xn : Int), .int .i64 (xm : Int)])] := ⟨_, rfl⟩
    rw [← eL] at h7
    have hL0 : L[0]? = some (gp, 87, #[.int .i64 (xn : Int), .int .i64 (xm : Int), .pointer (some ⟨gd, 0, none⟩)]) := by rw [eL]; rfl
    have hL1 : L[1]? = some (g2, 25, #[.int .i64 (xn : Int), .int .i64 (xm : Int)]) := by rw [eL]; rfl
    have H7 := Lib.hid h7
    have HLL := Lib.hid (And.intro hL0 hL1)
    have HL := Lib.hid hl
    clear hn hp hx hx' cx0 cx1 hl h7 hL0 hL1 eL H3 H4 H6
    have cx0 : w7.cell? ⟨g2, 0, none⟩ = some (.int .i64 (xn : Int)) := by rw [(H7.out.s.nth 1 HLL.out.2).cell]; rfl
    have cx1 : w7.cell? ⟨g2, 1, none⟩ = some (.int .i64 (xm : Int)) := by rw [(H7.out.s.nth 1 HLL.out.2).cell]; rfl
    go_wp2_with (first
      | (go_at_call 16; refine (HL.out _).mono ?_; rintro e w8 ⟨rfl, rfl⟩)
      | fail)
    have hS7 : (fun w' : World => w'.cell? ⟨g2, 1, none⟩ = some (.int .i64 (xm : Int))) w7.drew := cx1
    refine wp_region_held_drew (S := fun w' : World => w'.cell? ⟨g2, 1, none⟩ = some (.int .i64 (xm : Int))) (by kernel_rfl) hS7 (fun hHeld => ?_)
    refine wpAnyH_take (i := 0) (v := ?_) (List.getElem?_toArray.trans (List.getElem?_cons_zero)) (by kernel_rfl) (by kernel_rfl) (by kernel_rfl) (fun _ _ _ h => h) (Or.inl ⟨by rfl, ?_⟩) (by assumption) ?_
    rotate_left
    · intro w' hSw; (try dsimp only at hSw); go_simp; try with_reducible rfl
    try simp only [Act.put, List.setIfInBounds_toArray, List.set_cons_zero, List.set_cons_succ]
    refine wpAnyH_take (i := 1) (v := ?_) (List.getElem?_toArray.trans (List.getElem?_cons_succ.trans (List.getElem?_cons_zero))) (by kernel_rfl) (by kernel_rfl) (by kernel_rfl) (fun _ _ _ h => h) (Or.inl ⟨by rfl, ?_⟩) (by assumption) ?_
    rotate_left
    · intro w' hSw; (try dsimp only at hSw); go_simp; try with_reducible rfl
    try simp only [Act.put, List.setIfInBounds_toArray, List.set_cons_zero, List.set_cons_succ]
    refine wpAnyH_take (i := 2) (v := ?_) (List.getElem?_toArray.trans (List.getElem?_cons_succ.trans (List.getElem?_cons_succ.trans (List.getElem?_cons_zero)))) (by kernel_rfl) (by kernel_rfl) (by kernel_rfl) (fun _ _ _ h => h) (Or.inl ⟨by rfl, ?_⟩) (by assumption) ?_
    rotate_left
    · intro w' hSw; (try dsimp only at hSw); go_simp; try with_reducible rfl
    try simp only [Act.put, List.setIfInBounds_toArray, List.set_cons_zero, List.set_cons_succ]
    refine wpAnyH_take (i := 3) (v := ?_) (List.getElem?_toArray.trans (List.getElem?_cons_succ.trans (List.getElem?_cons_succ.trans (List.getElem?_cons_succ.trans (List.getElem?_cons_zero))))) (by kernel_rfl) (by kernel_rfl) (by kernel_rfl) (fun _ _ _ h => h) (Or.inl ⟨by rfl, ?_⟩) (by assumption) ?_
    rotate_left
    · intro w' hSw; (try dsimp only at hSw); go_simp; try with_reducible rfl
    try simp only [Act.put, List.setIfInBounds_toArray, List.set_cons_zero, List.set_cons_succ]
    refine wpAnyH_take (i := 5) (v := ?_) (List.getElem?_toArray.trans (List.getElem?_cons_succ.trans (List.getElem?_cons_succ.trans (List.getElem?_cons_succ.trans (List.getElem?_cons_succ.trans (List.getElem?_cons_succ.trans (List.getElem?_cons_zero))))))) (by kernel_rfl) (by kernel_rfl) (by kernel_rfl) (fun _ _ _ h => h) (Or.inl ⟨by rfl, ?_⟩) (by assumption) ?_
    rotate_left
    · intro w' hSw; (try dsimp only at hSw); go_simp; try with_reducible rfl
    try simp only [Act.put, List.setIfInBounds_toArray, List.set_cons_zero, List.set_cons_succ]
    refine wpAnyH_take (i := 6) (v := ?_) (List.getElem?_toArray.trans (List.getElem?_cons_succ.trans (List.getElem?_cons_succ.trans (List.getElem?_cons_succ.trans (List.getElem?_cons_succ.trans (List.getElem?_cons_succ.trans (List.getElem?_cons_succ.trans (List.getElem?_cons_zero)))))))) (by kernel_rfl) (by kernel_rfl) (by kernel_rfl) (fun _ _ _ h => h) (Or.inl ⟨by rfl, ?_⟩) (by assumption) ?_
    rotate_left
    · intro w' hSw; (try dsimp only at hSw); go_simp; try with_reducible rfl
    try simp only [Act.put, List.setIfInBounds_toArray, List.set_cons_zero, List.set_cons_succ]
    refine wpAnyH_ready (rs := [4]) (by kernel_rfl) (by simp) ?_
    refine AllReadyH.cons (List.getElem?_toArray.trans (List.getElem?_cons_succ.trans (List.getElem?_cons_succ.trans (List.getElem?_cons_succ.trans (List.getElem?_cons_succ.trans (List.getElem?_cons_zero)))))) (fun K hK => ?_) AllReadyH.nil
    go_simp
    have h7d := H7.out.below ((Below.refl w7.heap.size w7).drew)
    refine (ptSize _ gp gd xn xm (h7d.s.nth 0 HLL.out.1)).mono ?_
    rintro e w8 ⟨rfl, hb8⟩
    have H8 := Lib.hid (h7d.below hb8)
    have hS8 : (fun w' : World => w'.cell? ⟨g2, 1, none⟩ = some (.int .i64 (xm : Int))) w8 := by
      show w8.cell? ⟨g2, 1, none⟩ = _
      rw [(H8.out.s.nth 1 HLL.out.2).cell]; rfl
    clear hb8 h7d
    refine hK.out _ _ hS8 (fun hHeld => ?_)
    clear hK K
    try simp only [Act.put, List.setIfInBounds_toArray, List.set_cons_zero, List.set_cons_succ]
    refine wpAnyH_take (i := 7) (v := ?_) (List.getElem?_toArray.trans (List.getElem?_cons_succ.trans (List.getElem?_cons_succ.trans (List.getElem?_cons_succ.trans (List.getElem?_cons_succ.trans (List.getElem?_cons_succ.trans (List.getElem?_cons_succ.trans (List.getElem?_cons_succ.trans (List.getElem?_cons_zero))))))))) (by kernel_rfl) (by kernel_rfl) (by kernel_rfl) (fun _ _ _ h => h) (Or.inl ⟨by rfl, ?_⟩) (by assumption) ?_
    rotate_left
    · intro w' hSw; (try dsimp only at hSw); go_simp; try with_reducible rfl
    try simp only [Act.put, List.setIfInBounds_toArray, List.set_cons_zero, List.set_cons_succ]
    refine wpAnyH_take (i := 8) (v := ?_) (List.getElem?_toArray.trans (List.getElem?_cons_succ.trans (List.getElem?_cons_succ.trans (List.getElem?_cons_succ.trans (List.getElem?_cons_succ.trans (List.getElem?_cons_succ.trans (List.getElem?_cons_succ.trans (List.getElem?_cons_succ.trans (List.getElem?_cons_succ.trans (List.getElem?_cons_zero)))))))))) (by kernel_rfl) (by kernel_rfl) (by kernel_rfl) (fun _ _ _ h => h) (Or.inl ⟨by rfl, ?_⟩) (by assumption) ?_
    rotate_left
    · intro w' hSw; (try dsimp only at hSw); go_simp; try with_reducible rfl
    try simp only [Act.put, List.setIfInBounds_toArray, List.set_cons_zero, List.set_cons_succ]
    refine wpAnyH_done (by kernel_rfl) ?_ _
    clear hS7 hHeld cx0 cx1
    have hfar : ∀ (S : Option Addr) (l : List Bool), Vs w w.heap.size S (bvs l) → ∀ g, w.heap.size ≤ g → Far S l.length g := fun S l hS g hg h0 b o e e2 => by
      obtain ⟨b', o', e', hb, _⟩ := hS (by rw [bvs_length]; exact h0)
      rw [e] at e'
      injection e' with e'
      injection e' with e1
      omega
    have HFarAll := Lib.hid hfar
    clear hfar
    go_wp2_with fail
    go_loopw [11] (fun i wz => ∃ (k : Nat) (F : Nat → Prop) (m : Dk) (cs : List Value), k ≤ na ∧ k ≤ 50 ∧ i = .int .i64 (k : Int) ∧ m.waits.length ≤ k ∧ m.has.length = 9 ∧ ExR w wz gd g7 F m cs m L) (fun i _ => 50 - (intOf i).toNat)
    case atStart => exact ⟨0, F, _, cs, by omega, by omega, rfl, by simp [Dk.new], rfl, H8.out⟩
    case round =>
      obtain ⟨k, F, m, cs, hkn, hk50, rfl, hmw, hmh, hx⟩ := hrel
      have HX := Lib.hid (And.intro hx (And.intro hmw (And.intro hmh hx.ref.shape6)))
      clear hx hmw hmh
      by_cases hlt : k < na
      · have hki : (k : Int) < (na : Int) := by omega
        by_cases hlt2 : k < 50
        · have hki2 : (k : Int) < 50 := by omega
          have hk0 : (0 : Int) ≤ (k : Int) := by omega
          obtain ⟨b, o, eA, hbA, hAi⟩ := HAr.out.1 (by omega)
          obtain ⟨a, Sa, cka, haok, hcells0, hSa⟩ := hAi k hlt
          obtain ⟨X, eX⟩ : ∃ X, actCells a Sa cka = X := ⟨_, rfl⟩
          rw [eX] at hcells0
          have hcells : Cells wr b (o + k * 5) X.toArray := fun j v hv => (HX.out.1.s.bel.cell (p := ⟨b, o + k * 5 + j, none⟩) hbA).trans (hcells0 j v hv)
          have HXa := Lib.hid (And.intro eX (And.intro hcells (And.intro eA hSa)))
          have hXl : X.length = 5 := by rw [← eX]; rfl
          have hX1 : ∀ v ∈ X, v.oneCell' = true := by rw [← eX]; exact actCells_one a Sa cka
          have HX1 := Lib.hid (And.intro hXl hX1)
          subst eA
          clear eX hcells hcells0 hAi hbA hXl hX1 hSa
          go_wp2_with (first | (with_reducible refine st_load 54 ?_; refine stopped ?_) | fail)
          refine go_on ?_
          refine wpList_load_at rfl 54 (.tmp 79) rfl b (o + k * 5) rfl X.toArray _ HXa.out.2.1 Try.underlying54 rfl (by rw [List.size_toArray, HX1.out.1]; exact act6_size) ?_
          refine wpList_alloc rfl 54 rfl _ act6_zero ?_
          intro w4 hb4 hw4 hz4
          obtain ⟨gl, egl⟩ : ∃ g, wr.heap.size = g := ⟨_, rfl⟩
          rw [egl] at hb4 ⊢
          refine wpList_store_whole rfl 54 (.tmp 12) (.tmp 80) rfl gl X rfl rfl 54 (actCells act0 none 0) hb4 (by rw [HX1.out.1]; exact act6_size) (by rw [HX1.out.1]; rfl) HX1.out.2 ?_
          intro w5 hb5 hg5
          simp only [Act.put, List.setIfInBounds_toArray, List.set_cons_zero, List.set_cons_succ]
          have hbel5 : Below wr.heap.size wr w5 := hw4.trans (only_below hg5 (by omega) (fun g e => by cases e; omega))
          have hx5 : ExR w w5 gd g7 F m cs m ((gl, 54, X.toArray) :: L) := (HX.out.1.below hbel5).add hb5 (fun hf => by have := HX.out.1.s.d.lt _ hf; omega) (by have := HX.out.1.b7.lt; omega)
          obtain ⟨L', eL'⟩ : ∃ L', (gl, 54, X.toArray) :: L = L' := ⟨_, rfl⟩
          have hLa : L'[0]? = some (gl, 54, X.toArray) := by rw [← eL']; rfl
          have hLp : L'[1]? = some (gp, 87, #[.int .i64 (xn : Int), .int .i64 (xm : Int), .pointer (some ⟨gd, 0, none⟩)]) := by rw [← eL']; exact HLL.out.1
          have hLx : L'[2]? = some (g2, 25, #[.int .i64 (xn : Int), .int .i64 (xm : Int)]) := by rw [← eL']; exact HLL.out.2
          have hLt : ∀ (wz : World) (F : Nat → Prop) (m : Dk) (cs : List Value) (d : Dk), ExR w wz gd g7 F m cs d L' → ExR w wz gd g7 F m cs d L := fun _ _ _ _ _ h => by rw [← eL'] at h; exact h.tail
          rw [eL'] at hx5
          have HL' := Lib.hid (And.intro hLa (And.intro hLp (And.intro hLx hLt)))
          have hXd : X.toArray[0]? = some (.int .i64 a.do_) := by rw [← HXa.out.1]; rfl
          have hXa : X.toArray[1]? = some (.int .i64 a.at_) := by rw [← HXa.out.1]; rfl
          have hXo : X.toArray[2]? = some (.int .i64 a.off) := by rw [← HXa.out.1]; rfl
          have hXf : X.toArray[3]? = some (.int .u8 (a.fill.toNat : Int)) := by rw [← HXa.out.1]; rfl
          have hXk : X.toArray[4]? = some (.slice Sa a.keep.length cka) := by rw [← HXa.out.1]; rfl
          obtain ⟨pd, epd⟩ : ∃ x, a.do_ = x := ⟨_, rfl⟩
          obtain ⟨pa, epa⟩ : ∃ x, a.at_ = x := ⟨_, rfl⟩
          obtain ⟨po, epo⟩ : ∃ x, a.off = x := ⟨_, rfl⟩
          obtain ⟨fl, efl⟩ : ∃ x, a.fill.toNat = x := ⟨_, rfl⟩
          have hpa : isI pa := by rw [← epa]; exact haok.at1
          rw [epd] at hXd
          rw [epa] at hXa
          rw [epo] at hXo
          rw [efl] at hXf
          have HXc := Lib.hid (And.intro hXd (And.intro hXa (And.intro hXo (And.intro hXf hXk))))
          have HAt := Lib.hid (And.intro epo (And.intro efl (And.intro haok hpa)))
          have H5 := Lib.hid hx5
          have hbl := hx5.s.nth 0 hLa
          have hcd : w5.cell? ⟨gl, 0, none⟩ = some (.int .i64 pd) := by rw [hbl.cell]; exact hXd
          have hca : w5.cell? ⟨gl, 1, none⟩ = some (.int .i64 pa) := by rw [hbl.cell]; exact hXa
          have hco : w5.cell? ⟨gl, 2, none⟩ = some (.int .i64 po) := by rw [hbl.cell]; exact hXo
          have hcf : w5.cell? ⟨gl, 3, none⟩ = some (.int .u8 (fl : Int)) := by rw [hbl.cell]; exact hXf
          have hck : w5.cell? ⟨gl, 4, none⟩ = some (.slice Sa a.keep.length cka) := by rw [hbl.cell]; exact hXk
          have cx0 : w5.cell? ⟨g2, 0, none⟩ = some (.int .i64 (xn : Int)) := by rw [(hx5.s.nth 2 hLx).cell]; rfl
          have cx1 : w5.cell? ⟨g2, 1, none⟩ = some (.int .i64 (xm : Int)) := by rw [(hx5.s.nth 2 hLx).cell]; rfl
          clear hb4 hw4 hz4 hg5 hbel5 hx5 hb5 hXd hXa hXo hXf hXk egl haok epd epa epo efl hpa hbl hLa hLp hLx hLt eL'
          have hpl := refPlace_any xn xm pa (by constructor <;> omega) (by constructor <;> omega) HAt.out.2.2.2 w5
          obtain ⟨pr, epr⟩ : ∃ x, placeR xn xm pa = x := ⟨_, rfl⟩
          rw [epr] at hpl
          obtain ⟨z, okb⟩ := pr
          go_wp2_with fail
          refine hpl.mono ?_
          rintro e w' ⟨rfl, rfl⟩
          clear hpl
          go_upto_block 2 with fail
          go_cut [15, 16, 17, 18, 19, 20, 21, 22, 23, 24, 25, 26] from 67 to 213 (fun _ _ _ _ _ _ _ _ _ _ _ _ wx => ∃ (F : Nat → Prop) (m : Dk) (cs : List Value), m.waits.length ≤ k + 1 ∧ m.has.length = 9 ∧ ExR w wx gd g7 F m cs m L')
          case first =>
            by_cases h0 : pd = 0
            · subst h0
              have hk0 := HX.out.2.1
              obtain ⟨nb, enb⟩ : ∃ x, secN a.off = x := ⟨_, rfl⟩
              obtain ⟨B, eB⟩ : ∃ x, List.replicate (secN a.off) a.fill = x := ⟨_, rfl⟩
              have hB : B.length = nb := by rw [← eB, enb]; simp
              clear enb
              have hsec : Calls Try.prog 19 #[.int .u8 (fl : Int), .int .i64 po] w5 (OwnPost w5 B) := by
                rw [← HAt.out.2.1, ← eB, ← HAt.out.1]
                exact sector_any w5 a.fill _
              have HSec := Lib.hid hsec
              clear hsec eB
              go_wp2_with fail
              refine HSec.out.mono ?_
              rintro e w6 ⟨v6, rfl, hown6, hb6⟩
              obtain ⟨A6, c6, rfl, _, hH6⟩ := Held.own (F := fun g => F g ∨ g = g7) hown6 (fun g hg => hg.elim (H5.out.s.d.lt g) (fun e => e ▸ H5.out.b7.lt))
              rw [hB]
              have H6 := Lib.hid (H5.out.below hb6)
              have hca6 : w6.cell? ⟨gl, 1, none⟩ = some (.int .i64 pa) := by rw [(H6.out.s.nth 0 HL'.out.1).cell]; exact HXc.out.2.1
              obtain ⟨sB, esB⟩ : ∃ x : ByteArray, (⟨B.toArray⟩ : ByteArray) = x := ⟨_, rfl⟩
              have hconv : (convert 57 9 (.slice A6 nb c6)).run Try.prog w6 = .ok (.string sB) w6 := by
                rw [← esB]
                exact hH6.conv hB Try.underlying57 Try.underlying5 c6 Try.underlying9 w6 (Below.refl _ _)
              have HL := Lib.hid (And.intro hH6 (And.intro hB esB))
              clear hH6 hown6 hb6 hcd hca hco hcf hck
              cases hpo : placeO (xn : Int) xm pa with
              | none =>
                obtain ⟨rfl, rfl⟩ : z = 0 ∧ okb = false := by
                  unfold placeR at epr
                  rw [hpo] at epr
                  injection epr with h1 h2
                  exact ⟨h1.symm, h2.symm⟩
                have hwc := ptWrite w6 gp gd xn xm F m (H6.out.s.nth 1 HL'.out.2.1) H6.out.s.d (by omega) (by constructor <;> omega) (by constructor <;> omega) pa HAt.out.2.2.2 A6 B c6 ⟨HL.out.1.1, fun g hg => HL.out.1.2 g (.inl hg)⟩
                rw [show partWrite m xn xm pa B = (m, 4) by unfold partWrite; rw [hpo], HL.out.2.1] at hwc
                have HP := Lib.hid hwc
                clear hwc
                go_wp2_with fail
                refine HP.out.mono ?_
                rintro e w11 ⟨rfl, F11, h11, hk11, hs11⟩
                have H11 := Lib.hid (H6.out.onCode (m' := m) h11 hk11 hs11)
                clear h11 hk11 hs11 hca6
                go_wp2_with fail
                go_meet
                case rel => exact ⟨F11, m, cs, by omega, HX.out.2.2.1, H11.out⟩
              | some zz =>
                obtain ⟨rfl, rfl⟩ : z = zz ∧ okb = true := by
                  unfold placeR at epr
                  rw [hpo] at epr
                  injection epr with h1 h2
                  exact ⟨h1.symm, h2.symm⟩
                go_wp2_with (first | (with_reducible refine st_load 45 ?_; refine stopped ?_) | fail)
                refine go_on ?_
                refine wpList_load_at rfl 45 (.tmp 7) rfl g7 0 rfl cs.toArray _ (Blk.cells H6.out.b7) Try.underlying45 rfl (rsize6a HX.out.2.2.2.1) ?_
                simp only [Act.put, List.setIfInBounds_toArray, List.set_cons_zero, List.set_cons_succ]
                obtain ⟨mw, emw⟩ : ∃ x, m.write z B = x := ⟨_, rfl⟩
                have hrc := refWrite_any w6 cs m H6.out.ref (by omega) z B
                rw [emw, show sv B = .string sB from congrArg Value.string HL.out.2.2] at hrc
                have hw1 := write_waits m z B
                have hw2 := write_has m z B
                rw [emw] at hw1 hw2
                have HRc := Lib.hid (And.intro hrc emw)
                clear hrc emw
                obtain ⟨nd, end_⟩ : ∃ x, mw.2 = x := ⟨_, rfl⟩
                go_wp2_with fail
                refine HRc.out.1.mono ?_
                rintro e w7 ⟨cs7, rfl, hR7, hf7, hb7⟩
                rw [end_]
                have HR7 := Lib.hid (And.intro hR7 (And.intro hf7 (And.intro hb7 hR7.shape6)))
                clear hR7 hf7 hb7
                clear hconv hca6
                go_wp2_with (first | (with_reducible refine st_store 45 ?_; refine stopped ?_) | fail)
                refine go_on ?_
                refine wpList_store_whole rfl 45 (.tmp 7) (.tmp 127) rfl g7 cs7 rfl rfl 45 cs (H6.out.b7.below HR7.out.2.2.1 H6.out.b7.lt) (rsize6 HR7.out.2.2.2.1) (by rw [HX.out.2.2.2.1, HR7.out.2.2.2.1]) HR7.out.2.2.2.2 ?_
                intro w10 hb10 hg10
                simp only [Act.put, List.setIfInBounds_toArray, List.set_cons_zero, List.set_cons_succ]
                have H10 := Lib.hid (H6.out.onRef HR7.out.1 HR7.out.2.1 HR7.out.2.2.1 hg10 hb10)
                have hk10 : Kept (· = g7) w7 w10 := .of_grown hg10 (fun g e => .inl (Option.some.inj e).symm)
                have hH10 : Held w10 (fun g => F g ∨ g = g7) A6 B := (HL.out.1.below HR7.out.2.2.1).step (hk10.mono (fun g e => .inr e)) (fun _ => .inl)
                have HH10 := Lib.hid hH10
                clear hb10 hg10 hk10 hH10
                have hca10 : w10.cell? ⟨gl, 1, none⟩ = some (.int .i64 pa) := by rw [(H10.out.s.nth 0 HL'.out.1).cell]; exact HXc.out.2.1
                have hwc := ptWrite w10 gp gd xn xm F m (H10.out.s.nth 1 HL'.out.2.1) H10.out.s.d (by omega) (by constructor <;> omega) (by constructor <;> omega) pa HAt.out.2.2.2 A6 B c6 ⟨HH10.out.1, fun g hg => HH10.out.2 g (.inl hg)⟩
                rw [show partWrite m xn xm pa B = m.write z B by unfold partWrite; rw [hpo], HRc.out.2, HL.out.2.1, end_] at hwc
                have HP := Lib.hid hwc
                clear hwc end_
                go_wp2_with fail
                refine HP.out.mono ?_
                rintro e w11 ⟨rfl, F11, h11, hk11, hs11⟩
                have H11 := Lib.hid (H10.out.onCode h11 hk11 hs11)
                clear h11 hk11 hs11 hca10
                go_wp2_with fail
                go_meet
                case rel => exact ⟨F11, mw.1, cs7, by omega, by rw [hw2]; exact HX.out.2.2.1, H11.out⟩
            · by_cases h1 : pd = 1
              · subst h1
                have hk0 := HX.out.2.1
                clear hcd hco hcf hck
                cases hpo : placeO (xn : Int) xm pa with
                | none =>
                  obtain ⟨rfl, rfl⟩ : z = 0 ∧ okb = false := by
                    unfold placeR at epr
                    rw [hpo] at epr
                    injection epr with h1 h2
                    exact ⟨h1.symm, h2.symm⟩
                  obtain ⟨l, el⟩ : ∃ l : List UInt8, l = [] := ⟨_, rfl⟩
                  obtain ⟨nl, elen⟩ : ∃ x, l.length = x := ⟨_, rfl⟩
                  obtain ⟨sL, esL⟩ : ∃ x : ByteArray, (⟨l.toArray⟩ : ByteArray) = x := ⟨_, rfl⟩
                  have hp := ptRead w5 gp gd xn xm F m (H5.out.s.nth 1 HL'.out.2.1) H5.out.s.d (by omega) (by constructor <;> omega) (by constructor <;> omega) pa HAt.out.2.2.2
                  rw [show partRead m xn xm pa = (l, 4) by unfold partRead; rw [hpo, el]] at hp
                  have hsl : sL = ⟨#[]⟩ := by rw [← esL, el]
                  rw [hsl] at esL
                  have HP := Lib.hid hp
                  clear hp
                  go_wp2_with fail
                  refine HP.out.mono ?_
                  rintro e w10 ⟨v10, rfl, hown10, hb10⟩
                  obtain ⟨A10, c10, rfl, hbs10, _⟩ := hown10.slice
                  rw [elen]
                  have hconv : (convert 57 9 (.slice A10 nl c10)).run Try.prog w10 = .ok (.string ⟨#[]⟩) w10 := by
                    rw [← esL]
                    exact bs_conv (P := Try.prog) hbs10 elen Try.underlying57 Try.underlying5 c10 Try.underlying9 w10 (Below.refl _ _)
                  have H11 := Lib.hid (H5.out.below hb10)
                  clear hown10 hbs10 hb10
                  go_wp2_with fail
                  go_meet
                  case rel => exact ⟨F, m, cs, by omega, HX.out.2.2.1, H11.out⟩
                | some zz =>
                  obtain ⟨rfl, rfl⟩ : z = zz ∧ okb = true := by
                    unfold placeR at epr
                    rw [hpo] at epr
                    injection epr with h1 h2
                    exact ⟨h1.symm, h2.symm⟩
                  go_wp2_with (first | (with_reducible refine st_load 45 ?_; refine stopped ?_) | fail)
                  refine go_on ?_
                  refine wpList_load_at rfl 45 (.tmp 7) rfl g7 0 rfl cs.toArray _ (Blk.cells H5.out.b7) Try.underlying45 rfl (rsize6a HX.out.2.2.2.1) ?_
                  simp only [Act.put, List.setIfInBounds_toArray, List.set_cons_zero, List.set_cons_succ]
                  obtain ⟨r, er⟩ : ∃ x, m.read z = x := ⟨_, rfl⟩
                  obtain ⟨l, nd⟩ := r
                  obtain ⟨nl, elen⟩ : ∃ x, l.length = x := ⟨_, rfl⟩
                  obtain ⟨sL, esL⟩ : ∃ x : ByteArray, (⟨l.toArray⟩ : ByteArray) = x := ⟨_, rfl⟩
                  have hrc := refRead_any w5 cs m H5.out.ref (by omega) z
                  rw [er] at hrc
                  unfold DkReadPost at hrc
                  rw [show sv (l, nd).1 = .string sL by rw [← esL]; rfl] at hrc
                  have HRc := Lib.hid hrc
                  clear hrc
                  go_wp2_with fail
                  refine HRc.out.mono ?_
                  rintro e w6 ⟨rfl, hb6⟩
                  have H6 := Lib.hid (H5.out.below hb6)
                  have hca6 : w6.cell? ⟨gl, 1, none⟩ = some (.int .i64 pa) := by rw [(H6.out.s.nth 0 HL'.out.1).cell]; exact HXc.out.2.1
                  clear hb6
                  have hp := ptRead w6 gp gd xn xm F m (H6.out.s.nth 1 HL'.out.2.1) H6.out.s.d (by omega) (by constructor <;> omega) (by constructor <;> omega) pa HAt.out.2.2.2
                  rw [show partRead m xn xm pa = (l, nd) by unfold partRead; rw [hpo]; exact er] at hp
                  have HP := Lib.hid hp
                  clear hp
                  go_wp2_with fail
                  refine HP.out.mono ?_
                  rintro e w10 ⟨v10, rfl, hown10, hb10⟩
                  obtain ⟨A10, c10, rfl, hbs10, _⟩ := hown10.slice
                  rw [elen]
                  have hconv : (convert 57 9 (.slice A10 nl c10)).run Try.prog w10 = .ok (.string sL) w10 := by
                    rw [← esL]
                    exact bs_conv (P := Try.prog) hbs10 elen Try.underlying57 Try.underlying5 c10 Try.underlying9 w10 (Below.refl _ _)
                  have H11 := Lib.hid (H6.out.below hb10)
                  clear hown10 hbs10 hb10
                  go_wp2_with fail
                  go_meet
                  case rel => exact ⟨F, m, cs, by omega, HX.out.2.2.1, H11.out⟩
              · by_cases h2 : pd = 2
                · subst h2
                  have hk0 := HX.out.2.1
                  clear hcd hca hco hcf hck
                  go_wp2_with (first | (with_reducible refine st_load 45 ?_; refine stopped ?_) | fail)
                  refine go_on ?_
                  refine wpList_load_at rfl 45 (.tmp 7) rfl g7 0 rfl cs.toArray _ (Blk.cells H5.out.b7) Try.underlying45 rfl (rsize6a HX.out.2.2.2.1) ?_
                  simp only [Act.put, List.setIfInBounds_toArray, List.set_cons_zero, List.set_cons_succ]
                  have hrc := refFlush_any w5 cs m H5.out.ref (by omega)
                  obtain ⟨mf, emf⟩ : ∃ x, m.flush = x := ⟨_, rfl⟩
                  have hfw := flush_waits m
                  have hfh := flush_has m
                  rw [emf] at hrc hfw hfh
                  have HRc := Lib.hid (And.intro hrc emf)
                  clear hrc emf
                  obtain ⟨nd, end_⟩ : ∃ x, mf.2 = x := ⟨_, rfl⟩
                  go_wp2_with fail
                  refine HRc.out.1.mono ?_
                  rintro e w6 ⟨cs6, rfl, hR6, hf6, hb6⟩
                  rw [end_]
                  have HR6 := Lib.hid (And.intro hR6 (And.intro hf6 (And.intro hb6 hR6.shape6)))
                  clear hR6 hf6 hb6
                  go_wp2_with (first | (with_reducible refine st_alloc 45 ?_; refine stopped ?_) | fail)
                  refine go_on ?_
                  refine wpList_alloc rfl 45 rfl _ rdisk_zero ?_
                  intro w7 hba hwa hza
                  obtain ⟨g21, eg⟩ : ∃ g, w6.heap.size = g := ⟨_, rfl⟩
                  rw [eg] at hba ⊢
                  refine wpList_store_whole rfl 45 (.tmp 21) (.tmp 166) rfl g21 cs6 rfl rfl 45 rzero hba (rsize6 HR6.out.2.2.2.1) (by rw [HR6.out.2.2.2.1]; rfl) HR6.out.2.2.2.2 ?_
                  intro w8 hbn hgn
                  simp only [Act.put, List.setIfInBounds_toArray, List.set_cons_zero, List.set_cons_succ]
                  have hbel : Below w6.heap.size w6 w8 := hwa.trans (only_below hgn (by omega) (fun g e => by cases e; omega))
                  have HN := Lib.hid (And.intro hbn (And.intro hbel eg))
                  clear hba hwa hza hbn hgn hbel eg
                  go_wp2_with (first | (with_reducible refine st_load 45 ?_; refine stopped ?_) | fail)
                  refine go_on ?_
                  refine wpList_load_at rfl 45 (.tmp 21) rfl g21 0 rfl cs6.toArray _ (Blk.cells HN.out.1) Try.underlying45 rfl (rsize6a HR6.out.2.2.2.1) ?_
                  simp only [Act.put, List.setIfInBounds_toArray, List.set_cons_zero, List.set_cons_succ]
                  go_wp2_with (first | (with_reducible refine st_store 45 ?_; refine stopped ?_) | fail)
                  refine go_on ?_
                  refine wpList_store_whole rfl 45 (.tmp 7) (.tmp 168) rfl g7 cs6 rfl rfl 45 cs (H5.out.b7.below (HR6.out.2.2.1.trans (HN.out.2.1.mono HR6.out.2.2.1.size)) H5.out.b7.lt) (rsize6 HR6.out.2.2.2.1) (by rw [HX.out.2.2.2.1, HR6.out.2.2.2.1]) HR6.out.2.2.2.2 ?_
                  intro w9 hb9 hg9
                  simp only [Act.put, List.setIfInBounds_toArray, List.set_cons_zero, List.set_cons_succ]
                  have H9 := Lib.hid (H5.out.onRef ((HR6.out.1.below HN.out.2.1).more HN.out.2.1.size) HR6.out.2.1 (HR6.out.2.2.1.trans (HN.out.2.1.mono HR6.out.2.2.1.size)) hg9 hb9)
                  clear hb9 hg9
                  have hp := ptFlush w9 gp gd xn xm F m (H9.out.s.nth 1 HL'.out.2.1) H9.out.s.d (by omega)
                  rw [HRc.out.2, end_] at hp
                  have HP := Lib.hid hp
                  clear hp end_
                  go_wp2_with fail
                  refine HP.out.mono ?_
                  rintro e w10 ⟨rfl, F10, h10, hk10, hs10⟩
                  have H10 := Lib.hid (H9.out.onCode h10 hk10 hs10)
                  clear h10 hk10 hs10
                  go_wp2_with fail
                  go_meet
                  case rel => exact ⟨F10, mf.1, cs6, by omega, by rw [hfh]; exact HX.out.2.2.1, H10.out⟩
                · by_cases h3 : pd = 3
                  · subst h3
                    have hk0 := HX.out.2.1
                    clear hcd hca hco hcf hck
                    go_wp2_with (first | (with_reducible refine st_load 45 ?_; refine stopped ?_) | fail)
                    refine go_on ?_
                    refine wpList_load_at rfl 45 (.tmp 7) rfl g7 0 rfl cs.toArray _ (Blk.cells H5.out.b7) Try.underlying45 rfl (rsize6a HX.out.2.2.2.1) ?_
                    simp only [Act.put, List.setIfInBounds_toArray, List.set_cons_zero, List.set_cons_succ]
                    obtain ⟨sM, esM⟩ : ∃ x : ByteArray, (⟨m.has.flatten.toArray⟩ : ByteArray) = x := ⟨_, rfl⟩
                    have hi := refImage_any w5 cs m H5.out.ref
                    rw [show sv m.has.flatten = .string sM by rw [← esM]; rfl] at hi
                    have hokl := H5.out.ref.1.len
                    have hsz : sM.size = 64 * 9 := by
                      rw [← esM]
                      show m.has.flatten.toArray.size = _
                      rw [List.size_toArray, flat_length hokl, HX.out.2.2.1]
                    obtain ⟨za, eza⟩ : ∃ x, 64 * xn = x := ⟨_, rfl⟩
                    obtain ⟨zs, ezs⟩ : ∃ x, xn + xm = x := ⟨_, rfl⟩
                    obtain ⟨zz, ezz⟩ : ∃ x, 64 * zs = x := ⟨_, rfl⟩
                    have hex := img_cut hokl xn xm za zz eza (by rw [ezs, ezz])
                    rw [esM] at hex
                    obtain ⟨P, eP⟩ : ∃ x, ((m.has.drop xn).take xm).flatten = x := ⟨_, rfl⟩
                    rw [eP] at hex
                    obtain ⟨nP, enP⟩ : ∃ x, P.length = x := ⟨_, rfl⟩
                    obtain ⟨sP, esP⟩ : ∃ x : ByteArray, (⟨P.toArray⟩ : ByteArray) = x := ⟨_, rfl⟩
                    rw [esP] at hex
                    have hai : (64 : Int) * (xn : Int) = (za : Int) := by omega
                    have hsi : (xn : Int) + (xm : Int) = (zs : Int) := by omega
                    have hzi : (64 : Int) * (zs : Int) = (zz : Int) := by omega
                    have hza2 : IntKind.i64.wrap (za : Int) = (za : Int) := IntWalk.i64_in _ (by omega)
                    have hzs2 : IntKind.i64.wrap (zs : Int) = (zs : Int) := IntWalk.i64_in _ (by omega)
                    have hzz2 : IntKind.i64.wrap (zz : Int) = (zz : Int) := IntWalk.i64_in _ (by omega)
                    have hz1' : (zz : Int) ≤ (sM.size : Int) := by omega
                    have haz : (za : Int) ≤ (zz : Int) := by omega
                    have hz576 : (zz : Int) ≤ 576 := by omega
                    have HPz := Lib.hid (And.intro hi (And.intro eP (And.intro enP esP)))
                    clear hi eP enP esP esM hokl eza ezs ezz
                    go_wp2_with fail
                    refine HPz.out.1.mono ?_
                    rintro e w6 ⟨rfl, hb6⟩
                    have H6 := Lib.hid (H5.out.below hb6)
                    clear hb6
                    have hcx0 : ∀ w', Below w6.heap.size w6 w' → w'.cell? ⟨g2, 0, none⟩ = some (.int .i64 (xn : Int)) := fun w' h => by rw [((H6.out.below h).s.nth 2 HL'.out.2.2.1).cell]; rfl
                    have hcx1 : ∀ w', Below w6.heap.size w6 w' → w'.cell? ⟨g2, 1, none⟩ = some (.int .i64 (xm : Int)) := fun w' h => by rw [((H6.out.below h).s.nth 2 HL'.out.2.2.1).cell]; rfl
                    have hd : Below w6.heap.size w6 w6.drew := (Below.refl _ _).drew
                    go_wp2_with fail
                    refine wp_region_held_drew (S := fun w' => Below w6.heap.size w6 w') (by kernel_rfl) hd (fun hHeld => ?_)
                    refine wpAnyH_take (i := 0) (v := ?_) (List.getElem?_toArray.trans (List.getElem?_cons_zero)) (by kernel_rfl) (by kernel_rfl) (by kernel_rfl) (fun _ _ _ h => h) (Or.inl ⟨by rfl, ?_⟩) (by assumption) ?_
                    rotate_left
                    · intro w' hSw; (try dsimp only at hSw); go_simp; try with_reducible rfl
                    try simp only [Act.put, List.setIfInBounds_toArray, List.set_cons_zero, List.set_cons_succ]
                    refine wpAnyH_take (i := 3) (v := ?_) (List.getElem?_toArray.trans (List.getElem?_cons_succ.trans (List.getElem?_cons_succ.trans (List.getElem?_cons_succ.trans (List.getElem?_cons_zero))))) (by kernel_rfl) (by kernel_rfl) (by kernel_rfl) (fun _ _ _ h => h) (Or.inl ⟨by rfl, ?_⟩) (by assumption) ?_
                    rotate_left
                    · intro w' hSw; (try dsimp only at hSw); go_simp; try with_reducible rfl
                    try simp only [Act.put, List.setIfInBounds_toArray, List.set_cons_zero, List.set_cons_succ]
                    refine wpAnyH_take (i := 4) (v := ?_) (List.getElem?_toArray.trans (List.getElem?_cons_succ.trans (List.getElem?_cons_succ.trans (List.getElem?_cons_succ.trans (List.getElem?_cons_succ.trans (List.getElem?_cons_zero)))))) (by kernel_rfl) (by kernel_rfl) (by kernel_rfl) (fun _ _ _ h => h) (Or.inl ⟨by rfl, ?_⟩) (by assumption) ?_
                    rotate_left
                    · intro w' hSw; (try dsimp only at hSw); go_simp; try with_reducible rfl
                    try simp only [Act.put, List.setIfInBounds_toArray, List.set_cons_zero, List.set_cons_succ]
                    refine wpAnyH_take (i := 5) (v := ?_) (List.getElem?_toArray.trans (List.getElem?_cons_succ.trans (List.getElem?_cons_succ.trans (List.getElem?_cons_succ.trans (List.getElem?_cons_succ.trans (List.getElem?_cons_succ.trans (List.getElem?_cons_zero))))))) (by kernel_rfl) (by kernel_rfl) (by kernel_rfl) (fun _ _ _ h => h) (Or.inl ⟨by rfl, ?_⟩) (by assumption) ?_
                    rotate_left
                    · intro w' hSw; have hld := hcx0 w' hSw; go_simp; try with_reducible rfl
                    try simp only [Act.put, List.setIfInBounds_toArray, List.set_cons_zero, List.set_cons_succ]
                    refine wpAnyH_take (i := 6) (v := ?_) (List.getElem?_toArray.trans (List.getElem?_cons_succ.trans (List.getElem?_cons_succ.trans (List.getElem?_cons_succ.trans (List.getElem?_cons_succ.trans (List.getElem?_cons_succ.trans (List.getElem?_cons_succ.trans (List.getElem?_cons_zero)))))))) (by kernel_rfl) (by kernel_rfl) (by kernel_rfl) (fun _ _ _ h => h) (Or.inl ⟨by rfl, ?_⟩) (by assumption) ?_
                    rotate_left
                    · intro w' hSw; (try dsimp only at hSw); go_simp; try with_reducible rfl
                    try simp only [Act.put, List.setIfInBounds_toArray, List.set_cons_zero, List.set_cons_succ]
                    refine wpAnyH_take (i := 7) (v := ?_) (List.getElem?_toArray.trans (List.getElem?_cons_succ.trans (List.getElem?_cons_succ.trans (List.getElem?_cons_succ.trans (List.getElem?_cons_succ.trans (List.getElem?_cons_succ.trans (List.getElem?_cons_succ.trans (List.getElem?_cons_succ.trans (List.getElem?_cons_zero))))))))) (by kernel_rfl) (by kernel_rfl) (by kernel_rfl) (fun _ _ _ h => h) (Or.inl ⟨by rfl, ?_⟩) (by assumption) ?_
                    rotate_left
                    · intro w' hSw; (try dsimp only at hSw); go_simp; try with_reducible rfl
                    try simp only [Act.put, List.setIfInBounds_toArray, List.set_cons_zero, List.set_cons_succ]
                    refine wpAnyH_take (i := 8) (v := ?_) (List.getElem?_toArray.trans (List.getElem?_cons_succ.trans (List.getElem?_cons_succ.trans (List.getElem?_cons_succ.trans (List.getElem?_cons_succ.trans (List.getElem?_cons_succ.trans (List.getElem?_cons_succ.trans (List.getElem?_cons_succ.trans (List.getElem?_cons_succ.trans (List.getElem?_cons_zero)))))))))) (by kernel_rfl) (by kernel_rfl) (by kernel_rfl) (fun _ _ _ h => h) (Or.inl ⟨by rfl, ?_⟩) (by assumption) ?_
                    rotate_left
                    · intro w' hSw; have hld := hcx0 w' hSw; go_simp; try with_reducible rfl
                    try simp only [Act.put, List.setIfInBounds_toArray, List.set_cons_zero, List.set_cons_succ]
                    refine wpAnyH_take (i := 9) (v := ?_) (List.getElem?_toArray.trans (List.getElem?_cons_succ.trans (List.getElem?_cons_succ.trans (List.getElem?_cons_succ.trans (List.getElem?_cons_succ.trans (List.getElem?_cons_succ.trans (List.getElem?_cons_succ.trans (List.getElem?_cons_succ.trans (List.getElem?_cons_succ.trans (List.getElem?_cons_succ.trans (List.getElem?_cons_zero))))))))))) (by kernel_rfl) (by kernel_rfl) (by kernel_rfl) (fun _ _ _ h => h) (Or.inl ⟨by rfl, ?_⟩) (by assumption) ?_
                    rotate_left
                    · intro w' hSw; (try dsimp only at hSw); go_simp; try with_reducible rfl
                    try simp only [Act.put, List.setIfInBounds_toArray, List.set_cons_zero, List.set_cons_succ]
                    refine wpAnyH_take (i := 10) (v := ?_) (List.getElem?_toArray.trans (List.getElem?_cons_succ.trans (List.getElem?_cons_succ.trans (List.getElem?_cons_succ.trans (List.getElem?_cons_succ.trans (List.getElem?_cons_succ.trans (List.getElem?_cons_succ.trans (List.getElem?_cons_succ.trans (List.getElem?_cons_succ.trans (List.getElem?_cons_succ.trans (List.getElem?_cons_succ.trans (List.getElem?_cons_zero)))))))))))) (by kernel_rfl) (by kernel_rfl) (by kernel_rfl) (fun _ _ _ h => h) (Or.inl ⟨by rfl, ?_⟩) (by assumption) ?_
                    rotate_left
                    · intro w' hSw; have hld := hcx1 w' hSw; go_simp; try with_reducible rfl
                    try simp only [Act.put, List.setIfInBounds_toArray, List.set_cons_zero, List.set_cons_succ]
                    refine wpAnyH_take (i := 11) (v := ?_) (List.getElem?_toArray.trans (List.getElem?_cons_succ.trans (List.getElem?_cons_succ.trans (List.getElem?_cons_succ.trans (List.getElem?_cons_succ.trans (List.getElem?_cons_succ.trans (List.getElem?_cons_succ.trans (List.getElem?_cons_succ.trans (List.getElem?_cons_succ.trans (List.getElem?_cons_succ.trans (List.getElem?_cons_succ.trans (List.getElem?_cons_succ.trans (List.getElem?_cons_zero))))))))))))) (by kernel_rfl) (by kernel_rfl) (by kernel_rfl) (fun _ _ _ h => h) (Or.inl ⟨by rfl, ?_⟩) (by assumption) ?_
                    rotate_left
                    · intro w' hSw; (try dsimp only at hSw); go_simp; try with_reducible rfl
                    try simp only [Act.put, List.setIfInBounds_toArray, List.set_cons_zero, List.set_cons_succ]
                    refine wpAnyH_take (i := 12) (v := ?_) (List.getElem?_toArray.trans (List.getElem?_cons_succ.trans (List.getElem?_cons_succ.trans (List.getElem?_cons_succ.trans (List.getElem?_cons_succ.trans (List.getElem?_cons_succ.trans (List.getElem?_cons_succ.trans (List.getElem?_cons_succ.trans (List.getElem?_cons_succ.trans (List.getElem?_cons_succ.trans (List.getElem?_cons_succ.trans (List.getElem?_cons_succ.trans (List.getElem?_cons_succ.trans (List.getElem?_cons_zero)))))))))))))) (by kernel_rfl) (by kernel_rfl) (by kernel_rfl) (fun _ _ _ h => h) (Or.inl ⟨by rfl, ?_⟩) (by assumption) ?_
                    rotate_left
                    · intro w' hSw; (try dsimp only at hSw); go_simp; try with_reducible rfl
                    try simp only [Act.put, List.setIfInBounds_toArray, List.set_cons_zero, List.set_cons_succ]
                    refine wpAnyH_take (i := 13) (v := ?_) (List.getElem?_toArray.trans (List.getElem?_cons_succ.trans (List.getElem?_cons_succ.trans (List.getElem?_cons_succ.trans (List.getElem?_cons_succ.trans (List.getElem?_cons_succ.trans (List.getElem?_cons_succ.trans (List.getElem?_cons_succ.trans (List.getElem?_cons_succ.trans (List.getElem?_cons_succ.trans (List.getElem?_cons_succ.trans (List.getElem?_cons_succ.trans (List.getElem?_cons_succ.trans (List.getElem?_cons_succ.trans (List.getElem?_cons_zero))))))))))))))) (by kernel_rfl) (by kernel_rfl) (by kernel_rfl) (fun _ _ _ h => h) (Or.inl ⟨by rfl, ?_⟩) (by assumption) ?_
                    rotate_left
                    · intro w' hSw; (try dsimp only at hSw); go_simp; try with_reducible rfl
                    try simp only [Act.put, List.setIfInBounds_toArray, List.set_cons_zero, List.set_cons_succ]
                    refine wpAnyH_ready (rs := [1]) (by kernel_rfl) (by simp) ?_
                    refine AllReadyH.cons (List.getElem?_toArray.trans (List.getElem?_cons_succ.trans (List.getElem?_cons_zero))) (fun K hK => ?_) AllReadyH.nil
                    go_simp
                    refine (ptImage _ gp gd xn xm F m ((H6.out.below hd).s.nth 1 HL'.out.2.1) (H6.out.below hd).s.d (by rw [HX.out.2.2.1]; exact hxx)).mono ?_
                    rintro e w7 ⟨v7, rfl, hown7, hb7⟩
                    rw [HPz.out.2.1] at hown7
                    obtain ⟨A7, c7, rfl, hbs7, _⟩ := hown7.slice
                    rw [HPz.out.2.2.1]
                    have hB7 : Below w6.heap.size w6 w7 := hd.trans (hb7.mono hd.size)
                    have hC7 : ∀ w', Below w7.heap.size w7 w' → (convert 57 9 (.slice A7 nP c7)).run Try.prog w' = .ok (.string sP) w' := fun w' h => by
                      rw [← HPz.out.2.2.2]
                      exact bs_conv (P := Try.prog) hbs7 HPz.out.2.2.1 Try.underlying57 Try.underlying5 c7 Try.underlying9 w' h
                    clear hown7 hbs7 hb7
                    refine hK.out _ _ hB7 (fun hHeld => ?_)
                    clear hK K
                    try simp only [Act.put, List.setIfInBounds_toArray, List.set_cons_zero, List.set_cons_succ]
                    refine wpAnyH_swap (S' := (fun w' => Below w7.heap.size w7 w')) ((fun w' h => hB7.trans (h.mono hB7.size))) _ _ _ _ ?_
                    have hr7 := Below.refl w7.heap.size w7
                    refine wpAnyH_take (i := 2) (v := ?_) (List.getElem?_toArray.trans (List.getElem?_cons_succ.trans (List.getElem?_cons_succ.trans (List.getElem?_cons_zero)))) (by kernel_rfl) (by kernel_rfl) (by kernel_rfl) (fun _ _ _ h => h) (Or.inl ⟨by rfl, ?_⟩) (by assumption) ?_
                    rotate_left
                    · intro w' hSw; (try dsimp only at hSw); go_simp; try with_reducible rfl
                    try simp only [Act.put, List.setIfInBounds_toArray, List.set_cons_zero, List.set_cons_succ]
                    refine wpAnyH_take (i := 14) (v := ?_) (List.getElem?_toArray.trans (List.getElem?_cons_succ.trans (List.getElem?_cons_succ.trans (List.getElem?_cons_succ.trans (List.getElem?_cons_succ.trans (List.getElem?_cons_succ.trans (List.getElem?_cons_succ.trans (List.getElem?_cons_succ.trans (List.getElem?_cons_succ.trans (List.getElem?_cons_succ.trans (List.getElem?_cons_succ.trans (List.getElem?_cons_succ.trans (List.getElem?_cons_succ.trans (List.getElem?_cons_succ.trans (List.getElem?_cons_succ.trans (List.getElem?_cons_zero)))))))))))))))) (by kernel_rfl) (by kernel_rfl) (by kernel_rfl) (fun _ _ _ h => h) (Or.inl ⟨by rfl, ?_⟩) (by assumption) ?_
                    rotate_left
                    · intro w' hSw; (try dsimp only at hSw); go_simp; try with_reducible rfl
                    try simp only [Act.put, List.setIfInBounds_toArray, List.set_cons_zero, List.set_cons_succ]
                    refine wpAnyH_done (by kernel_rfl) ?_ _
                    have H7' := Lib.hid (H6.out.below hB7)
                    go_wp2_with fail
                    go_meet
                    case rel => exact ⟨F, m, cs, by omega, HX.out.2.2.1, H7'.out⟩
                  · by_cases h4 : pd = 4
                    · subst h4
                      go_wp2_with fail
                      have hvs := HXa.out.2.2.2
                      have hk0 := HX.out.2.1
                      refine (dkCrashIs w5 gd F m H5.out.s.d (by omega) Sa a.keep a.keep.length cka rfl ((hvs.below H5.out.s.bel).more H5.out.s.bel.size) (fun g hg => HFarAll.out Sa a.keep hvs g (H5.out.s.n g hg))).mono ?_
                      rintro e w6 ⟨rfl, h6, hk6⟩
                      have H6 := Lib.hid (H5.out.onCode h6 hk6 (fun _ => .inl))
                      have hck6 : w6.cell? ⟨gl, 4, none⟩ = some (.slice Sa a.keep.length cka) := by rw [(H6.out.s.nth 0 HL'.out.1).cell]; exact HXc.out.2.2.2.2
                      clear h6 hk6 hcd hca hco hcf hck
                      go_wp2_with (first | (with_reducible refine st_load 45 ?_; refine stopped ?_) | fail)
                      refine go_on ?_
                      refine wpList_load_at rfl 45 (.tmp 7) rfl g7 0 rfl cs.toArray _ (Blk.cells H6.out.b7) Try.underlying45 rfl (rsize6a HX.out.2.2.2.1) ?_
                      simp only [Act.put, List.setIfInBounds_toArray, List.set_cons_zero, List.set_cons_succ]
                      have hrc := refCrash_any w6 cs m H6.out.ref (by omega) Sa a.keep cka ((hvs.below H6.out.s.bel).more H6.out.s.bel.size)
                      have HRc := Lib.hid hrc
                      clear hrc
                      go_wp2_with fail
                      refine HRc.out.mono ?_
                      rintro e w7 ⟨cs7, rfl, hR7, hf7, hb7⟩
                      have HR7 := Lib.hid (And.intro hR7 (And.intro hf7 (And.intro hb7 hR7.shape6)))
                      clear hR7 hf7 hb7
                      go_wp2_with (first | (with_reducible refine st_store 45 ?_; refine stopped ?_) | fail)
                      refine go_on ?_
                      refine wpList_store_whole rfl 45 (.tmp 7) (.tmp 201) rfl g7 cs7 rfl rfl 45 cs (H6.out.b7.below HR7.out.2.2.1 H6.out.b7.lt) (rsize6 HR7.out.2.2.2.1) (by rw [HX.out.2.2.2.1, HR7.out.2.2.2.1]) HR7.out.2.2.2.2 ?_
                      intro w8 hb8 hg8
                      simp only [Act.put, List.setIfInBounds_toArray, List.set_cons_zero, List.set_cons_succ]
                      have H8' := Lib.hid (H6.out.onRef HR7.out.1 HR7.out.2.1 HR7.out.2.2.1 hg8 hb8)
                      clear hb8 hg8 hck6
                      go_wp2_with fail
                      go_meet
                      case rel => exact ⟨F, m.crash a.keep, cs7, by have := crash_waits m a.keep; omega, by rw [crash_has]; exact HX.out.2.2.1, H8'.out⟩
                    · by_cases h5 : pd = 5
                      · subst h5
                        go_wp2_with fail
                        refine (dkPower w5 gd F m H5.out.s.d).mono ?_
                        rintro e w6 ⟨rfl, h6, hk6⟩
                        have H6 := Lib.hid (H5.out.onCode h6 hk6 (fun _ => .inl))
                        clear h6 hk6 hcd hca hco hcf hck
                        go_wp2_with (first | (with_reducible refine st_load 45 ?_; refine stopped ?_) | fail)
                        refine go_on ?_
                        refine wpList_load_at rfl 45 (.tmp 7) rfl g7 0 rfl cs.toArray _ (Blk.cells H6.out.b7) Try.underlying45 rfl (rsize6a HX.out.2.2.2.1) ?_
                        simp only [Act.put, List.setIfInBounds_toArray, List.set_cons_zero, List.set_cons_succ]
                        go_wp2_with fail
                        refine (refPower_any w6 cs m H6.out.ref).mono ?_
                        rintro e w7 ⟨cs7, rfl, hR7, hf7, hb7⟩
                        have HR7 := Lib.hid (And.intro hR7 (And.intro hf7 (And.intro hb7 hR7.shape6)))
                        clear hR7 hf7 hb7
                        go_wp2_with (first | (with_reducible refine st_store 45 ?_; refine stopped ?_) | fail)
                        refine go_on ?_
                        refine wpList_store_whole rfl 45 (.tmp 7) (.tmp 207) rfl g7 cs7 rfl rfl 45 cs (H6.out.b7.below HR7.out.2.2.1 H6.out.b7.lt) (rsize6 HR7.out.2.2.2.1) (by rw [HX.out.2.2.2.1, HR7.out.2.2.2.1]) HR7.out.2.2.2.2 ?_
                        intro w8 hb8 hg8
                        simp only [Act.put, List.setIfInBounds_toArray, List.set_cons_zero, List.set_cons_succ]
                        have H8' := Lib.hid (H6.out.onRef HR7.out.1 HR7.out.2.1 HR7.out.2.2.1 hg8 hb8)
                        clear hb8 hg8
                        go_wp2_with fail
                        go_meet
                        case rel => exact ⟨F, m.power, cs7, by simp [Dk.power], HX.out.2.2.1, H8'.out⟩
                      · have hk0 := HX.out.2.1
                        obtain ⟨nb, enb⟩ : ∃ x, x = 64 := ⟨_, rfl⟩
                        obtain ⟨B, eB⟩ : ∃ x, List.replicate 64 a.fill = x := ⟨_, rfl⟩
                        have hB : B.length = nb := by rw [← eB, enb]; simp
                        clear enb
                        have hsec : Calls Try.prog 19 #[.int .u8 (fl : Int), .int .i64 0] w5 (OwnPost w5 B) := by
                          rw [← HAt.out.2.1, ← eB]
                          exact sector_any w5 a.fill _
                        have HSec := Lib.hid hsec
                        clear hsec eB
                        go_wp2_with fail
                        refine HSec.out.mono ?_
                        rintro e w6 ⟨v6, rfl, hown6, hb6⟩
                        obtain ⟨A6, c6, rfl, _, hH6⟩ := Held.own (F := fun g => F g ∨ g = g7) hown6 (fun g hg => hg.elim (H5.out.s.d.lt g) (fun e => e ▸ H5.out.b7.lt))
                        rw [hB]
                        have H6 := Lib.hid (H5.out.below hb6)
                        have hca6 : w6.cell? ⟨gl, 1, none⟩ = some (.int .i64 pa) := by rw [(H6.out.s.nth 0 HL'.out.1).cell]; exact HXc.out.2.1
                        obtain ⟨sB, esB⟩ : ∃ x : ByteArray, (⟨B.toArray⟩ : ByteArray) = x := ⟨_, rfl⟩
                        have hconv : (convert 57 9 (.slice A6 nb c6)).run Try.prog w6 = .ok (.string sB) w6 := by
                          rw [← esB]
                          exact hH6.conv hB Try.underlying57 Try.underlying5 c6 Try.underlying9 w6 (Below.refl _ _)
                        have HL := Lib.hid (And.intro hH6 (And.intro hB esB))
                        clear hH6 hown6 hb6 hcd hca hco hcf hck
                        go_wp2_with (first | (with_reducible refine st_load 45 ?_; refine stopped ?_) | fail)
                        refine go_on ?_
                        refine wpList_load_at rfl 45 (.tmp 7) rfl g7 0 rfl cs.toArray _ (Blk.cells H6.out.b7) Try.underlying45 rfl (rsize6a HX.out.2.2.2.1) ?_
                        simp only [Act.put, List.setIfInBounds_toArray, List.set_cons_zero, List.set_cons_succ]
                        obtain ⟨mw, emw⟩ : ∃ x, m.write pa B = x := ⟨_, rfl⟩
                        have hrc := refWrite_any w6 cs m H6.out.ref (by omega) pa B
                        rw [emw, show sv B = .string sB from congrArg Value.string HL.out.2.2] at hrc
                        have hw1 := write_waits m pa B
                        have hw2 := write_has m pa B
                        rw [emw] at hw1 hw2
                        have HRc := Lib.hid (And.intro hrc emw)
                        clear hrc emw
                        obtain ⟨nd, end_⟩ : ∃ x, mw.2 = x := ⟨_, rfl⟩
                        go_wp2_with fail
                        refine HRc.out.1.mono ?_
                        rintro e w7 ⟨cs7, rfl, hR7, hf7, hb7⟩
                        rw [end_]
                        have HR7 := Lib.hid (And.intro hR7 (And.intro hf7 (And.intro hb7 hR7.shape6)))
                        clear hR7 hf7 hb7
                        go_wp2_with (first | (with_reducible refine st_alloc 45 ?_; refine stopped ?_) | fail)
                        refine go_on ?_
                        refine wpList_alloc rfl 45 rfl _ rdisk_zero ?_
                        intro w8 hba hwa hza
                        obtain ⟨g25, eg⟩ : ∃ g, w7.heap.size = g := ⟨_, rfl⟩
                        rw [eg] at hba ⊢
                        refine wpList_store_whole rfl 45 (.tmp 25) (.tmp 103) rfl g25 cs7 rfl rfl 45 rzero hba (rsize6 HR7.out.2.2.2.1) (by rw [HR7.out.2.2.2.1]; rfl) HR7.out.2.2.2.2 ?_
                        intro w9 hbn hgn
                        simp only [Act.put, List.setIfInBounds_toArray, List.set_cons_zero, List.set_cons_succ]
                        have hbel : Below w7.heap.size w7 w9 := hwa.trans (only_below hgn (by omega) (fun g e => by cases e; omega))
                        have HN := Lib.hid (And.intro hbn (And.intro hbel eg))
                        clear hba hwa hza hbn hgn hbel eg hconv hca6
                        go_wp2_with (first | (with_reducible refine st_load 45 ?_; refine stopped ?_) | fail)
                        refine go_on ?_
                        refine wpList_load_at rfl 45 (.tmp 25) rfl g25 0 rfl cs7.toArray _ (Blk.cells HN.out.1) Try.underlying45 rfl (rsize6a HR7.out.2.2.2.1) ?_
                        simp only [Act.put, List.setIfInBounds_toArray, List.set_cons_zero, List.set_cons_succ]
                        go_wp2_with (first | (with_reducible refine st_store 45 ?_; refine stopped ?_) | fail)
                        refine go_on ?_
                        refine wpList_store_whole rfl 45 (.tmp 7) (.tmp 105) rfl g7 cs7 rfl rfl 45 cs (H6.out.b7.below (HR7.out.2.2.1.trans (HN.out.2.1.mono HR7.out.2.2.1.size)) H6.out.b7.lt) (rsize6 HR7.out.2.2.2.1) (by rw [HX.out.2.2.2.1, HR7.out.2.2.2.1]) HR7.out.2.2.2.2 ?_
                        intro w10 hb10 hg10
                        simp only [Act.put, List.setIfInBounds_toArray, List.set_cons_zero, List.set_cons_succ]
                        have H10 := Lib.hid (H6.out.onRef ((HR7.out.1.below HN.out.2.1).more HN.out.2.1.size) HR7.out.2.1 (HR7.out.2.2.1.trans (HN.out.2.1.mono HR7.out.2.2.1.size)) hg10 hb10)
                        have hk10 : Kept (· = g7) w9 w10 := .of_grown hg10 (fun g e => .inl (Option.some.inj e).symm)
                        have hH10 : Held w10 (fun g => F g ∨ g = g7) A6 B := ((HL.out.1.below HR7.out.2.2.1).below HN.out.2.1).step (hk10.mono (fun g e => .inr e)) (fun _ => .inl)
                        have HH10 := Lib.hid hH10
                        clear hb10 hg10 hk10 hH10
                        have hca10 : w10.cell? ⟨gl, 1, none⟩ = some (.int .i64 pa) := by rw [(H10.out.s.nth 0 HL'.out.1).cell]; exact HXc.out.2.1
                        have hwc := dkWrite w10 gd F m H10.out.s.d (by omega) pa A6 B c6 HH10.out.1 (fun g hg => HH10.out.2 g (.inl hg))
                        rw [HRc.out.2, HL.out.2.1, end_] at hwc
                        have HP := Lib.hid hwc
                        clear hwc end_
                        go_wp2_with fail
                        refine HP.out.mono ?_
                        rintro e w11 ⟨rfl, F11, h11, hk11, hs11⟩
                        have H11 := Lib.hid (H10.out.onCode h11 hk11 hs11)
                        clear h11 hk11 hs11 hca10
                        go_wp2_with fail
                        go_meet
                        case rel => exact ⟨F11, mw.1, cs7, by omega, by rw [hw2]; exact HX.out.2.2.1, H11.out⟩
          case rest =>
            obtain ⟨F1, m1, cs1, hw1, hh1, hx1⟩ := hcut
            have H1 := Lib.hid (And.intro hx1 (And.intro hw1 (And.intro hh1 hx1.ref.shape6)))
            clear hx1 hw1 hh1
            have hd : Below wc.heap.size wc wc.drew := (Below.refl _ _).drew
            obtain ⟨M, eM⟩ : ∃ M, m1.has.flatten = M := ⟨_, rfl⟩
            obtain ⟨nM, enM⟩ : ∃ n, M.length = n := ⟨_, rfl⟩
            obtain ⟨sM, esM⟩ : ∃ x : ByteArray, (⟨M.toArray⟩ : ByteArray) = x := ⟨_, rfl⟩
            have hM : sv m1.has.flatten = .string sM := by rw [eM, ← esM]; rfl
            have HM := Lib.hid (And.intro eM (And.intro enM (And.intro esM hM)))
            clear eM enM esM hM
            go_wp2_with fail
            refine wp_region_held_drew (S := fun w' => Below wc.heap.size wc w') (by kernel_rfl) hd (fun hHeld => ?_)
            refine wpAnyH_take (i := 0) (v := ?_) (List.getElem?_toArray.trans (List.getElem?_cons_zero)) (by kernel_rfl) (by kernel_rfl) (by kernel_rfl) (fun _ _ _ h => h) (Or.inl ⟨by rfl, ?_⟩) (by assumption) ?_
            rotate_left
            · intro w' hSw; (try dsimp only at hSw); go_simp; try with_reducible rfl
            try simp only [Act.put, List.setIfInBounds_toArray, List.set_cons_zero, List.set_cons_succ]
            refine wpAnyH_take (i := 3) (v := .agg cs1.toArray) (List.getElem?_toArray.trans (List.getElem?_cons_succ.trans (List.getElem?_cons_succ.trans (List.getElem?_cons_succ.trans (List.getElem?_cons_zero))))) (by kernel_rfl) (by kernel_rfl) (by kernel_rfl) (fun _ _ _ h => h) (Or.inl ⟨by rfl, ?_⟩) (by assumption) ?_
            · intro w' hSw; exact exec_load_row 45 (.tmp 7) rfl g7 0 rfl cs1.toArray _ (Blk.cells (H1.out.1.b7.below hSw H1.out.1.b7.lt)) Try.underlying45 rfl (rsize6a H1.out.2.2.2.1)
            try simp only [Act.put, List.setIfInBounds_toArray, List.set_cons_zero, List.set_cons_succ]
            refine wpAnyH_ready (rs := [1]) (by kernel_rfl) (by simp) ?_
            refine AllReadyH.cons (List.getElem?_toArray.trans (List.getElem?_cons_succ.trans (List.getElem?_cons_zero))) (fun K hK => ?_) AllReadyH.nil
            go_simp
            refine (dkImage _ gd F1 m1 (H1.out.1.s.d.below hd)).mono ?_
            rintro e w6 ⟨v6, rfl, hown6, hb6⟩
            rw [HM.out.1] at hown6
            obtain ⟨A6, c6, rfl, hbs6, _⟩ := hown6.slice
            rw [HM.out.2.1]
            have hB6 : Below wc.heap.size wc w6 := hd.trans (hb6.mono hd.size)
            have hC6 : ∀ w', Below w6.heap.size w6 w' → (convert 57 9 (.slice A6 nM c6)).run Try.prog w' = .ok (.string sM) w' := fun w' h => by
              rw [← HM.out.2.2.1]
              exact bs_conv (P := Try.prog) hbs6 HM.out.2.1 Try.underlying57 Try.underlying5 c6 Try.underlying9 w' h
            clear hown6 hbs6 hb6
            refine hK.out _ _ hB6 (fun hHeld => ?_)
            clear hK K
            try simp only [Act.put, List.setIfInBounds_toArray, List.set_cons_zero, List.set_cons_succ]
            refine wpAnyH_swap (S' := (fun w' => Below w6.heap.size w6 w')) ((fun w' h => hB6.trans (h.mono hB6.size))) _ _ _ _ ?_
            have hr6 := Below.refl w6.heap.size w6
            refine wpAnyH_take (i := 2) (v := ?_) (List.getElem?_toArray.trans (List.getElem?_cons_succ.trans (List.getElem?_cons_succ.trans (List.getElem?_cons_zero)))) (by kernel_rfl) (by kernel_rfl) (by kernel_rfl) (fun _ _ _ h => h) (Or.inl ⟨by rfl, ?_⟩) (by assumption) ?_
            rotate_left
            · intro w' hSw; (try dsimp only at hSw); go_simp; try with_reducible rfl
            try simp only [Act.put, List.setIfInBounds_toArray, List.set_cons_zero, List.set_cons_succ]
            refine wpAnyH_ready (rs := [4]) (by kernel_rfl) (by simp) ?_
            refine AllReadyH.cons (List.getElem?_toArray.trans (List.getElem?_cons_succ.trans (List.getElem?_cons_succ.trans (List.getElem?_cons_succ.trans (List.getElem?_cons_succ.trans (List.getElem?_cons_zero)))))) (fun K hK => ?_) AllReadyH.nil
            go_simp
            have hi := refImage_any w6 cs1 m1 (H1.out.1.below hB6).ref
            rw [HM.out.2.2.2] at hi
            refine hi.mono ?_
            rintro e w7 ⟨rfl, hb7⟩
            have H7' := Lib.hid ((H1.out.1.below hB6).below hb7)
            refine hK.out _ _ hb7 (fun hHeld => ?_)
            clear hK K
            try simp only [Act.put, List.setIfInBounds_toArray, List.set_cons_zero, List.set_cons_succ]
            refine wpAnyH_take (i := 5) (v := ?_) (List.getElem?_toArray.trans (List.getElem?_cons_succ.trans (List.getElem?_cons_succ.trans (List.getElem?_cons_succ.trans (List.getElem?_cons_succ.trans (List.getElem?_cons_succ.trans (List.getElem?_cons_zero))))))) (by kernel_rfl) (by kernel_rfl) (by kernel_rfl) (fun _ _ _ h => h) (Or.inl ⟨by rfl, ?_⟩) (by assumption) ?_
            rotate_left
            · intro w' hSw; (try dsimp only at hSw); go_simp; try with_reducible rfl
            try simp only [Act.put, List.setIfInBounds_toArray, List.set_cons_zero, List.set_cons_succ]
            refine wpAnyH_done (by kernel_rfl) ?_ _
            go_wp2_with fail
            go_roundw
            case rel => exact ⟨k + 1, F1, m1, cs1, by omega, by omega, by go_num, H1.out.2.1, H1.out.2.2.1, HL'.out.2.2.2 _ _ _ _ _ H7'.out⟩
            case measure => simp [intOf]; omega
        · have hki2 : ¬ (k : Int) < 50 := by omega
          go_wp2_with (first
            | (go_at_call 10; refine (extAwake _).mono ?_; rintro e w9 ⟨rfl, hb9⟩)
            | fail)
          go_ret
          have hb := HX.out.1.s.bel
          exact ⟨rfl, hb.trans (hb9.mono hb.size)⟩
      · have hki : ¬ (k : Int) < (na : Int) := by omega
        go_wp2_with (first
          | (go_at_call 10; refine (extAwake _).mono ?_; rintro e w9 ⟨rfl, hb9⟩)
          | fail)
        go_ret
        have hb := HX.out.1.s.bel
        exact ⟨rfl, hb.trans (hb9.mono hb.size)⟩
end Go.Proofs.Ytdhaikcmgegfoaa
