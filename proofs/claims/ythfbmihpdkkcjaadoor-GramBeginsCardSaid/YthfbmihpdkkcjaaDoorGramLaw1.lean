/-
  The law GramTakes. Conditions: the theorem's own premises.
-/
import Derived.Test.YthfbmihpdkkcjaaDoorGramAwake
import Derived.Test.YthfbmihpdkkcjaaDoorGramText
namespace Go.Proofs.YthfbmihpdkkcjaaDoor
open Go.RowKit

theorem run_le {g : Gm} {σ : List Sg} {t : List Nat} {r : Nat} (h : RunG g σ t r) : r ≤ 2 := by
  induction h with
  | yes => decide
  | rest => decide
  | noByte => decide
  | byte _ _ _ _ ih => exact ih
  | noName => decide
  | deep => decide
  | name _ _ _ _ ih => exact ih
theorem bs_take8 {w : World} {B : Nat} {A : Option Addr} {l : List UInt8} (h : Bs w B A l) (k : Nat) : Bs w B A (l.take k) := fun hn => by
  have hl : 0 < l.length := by rw [List.length_take] at hn; omega
  obtain ⟨b, o, e, hb, hc⟩ := h hl
  exact ⟨b, o, e, hb, fun j hj => by
    have hj' : j < l.length := by rw [List.length_take] at hj; omega
    rw [hc j hj', List.getElem_take]⟩

set_option maxRecDepth 100000 in
set_option maxHeartbeats 4000000 in
set_option linter.unusedSimpArgs false in
theorem gramTakes_calls (w : World) (G0 : Gm) (A0 : Option Addr) (L0 : List FmV) (n0 c0 : Nat) (C : Option Addr) (cl : List UInt8) (m cq : Nat) (hA : GmAt w w.heap.size A0 L0 G0) (hn0 : L0.length = n0) (hm0 : n0 ≤ 9223372036854775807) (hC : Bs w w.heap.size C cl) (hcl : cl.length = m) (hcm : m ≤ cq) (hm : m ≤ 9223372036854775807) (hG : HasErr w) :
    Calls Tryd.prog 4 #[gmv G0.k A0 n0 c0, .slice C m cq] w fun e w' => e = .returned (.bool true) ∧ Below w.heap.size w w' := by
  obtain ⟨G, eG⟩ : ∃ G, fewG G0 = G := ⟨_, rfl⟩
  have hk : G0.k = G.k := by rw [← eG]; rfl
  have hs : SmallG G := by rw [← eG]; exact small_few G0
  have H := Lib.hid (And.intro hA (And.intro hn0 (And.intro hC (And.intro hcl (And.intro hcm (And.intro hG (And.intro eG (And.intro hk hs))))))))
  clear hA hn0 hC hcl hG eG hs
  unfold gmv
  rw [hk]
  clear hk
  go_enter Tryd.func4, Tryd.ntmps4
  go_wp2_with (first
    | (refine wpList_box rfl 25 (.tmp 0) rfl #[.int .i64 G.k, .slice A0 n0 c0] rfl ?_; intro w1 hb1 hw1 hz1)
    | (with_reducible refine st_load 25 ?_; refine stopped ?_)
    | fail)
  refine go_on ?_
  refine wpList_load_at rfl 25 (.tmp 2) rfl w.heap.size 0 rfl #[.int .i64 G.k, .slice A0 n0 c0] _ (Blk.cells hb1) Tryd.underlying25 rfl gm_size ?_
  have hfw := gmFew w1 w.heap.size hw1.size G0 A0 L0 n0 c0 (H.out.1.below hw1) H.out.2.1 hm0
  rw [H.out.2.2.2.2.2.2.1, H.out.2.2.2.2.2.2.2.1] at hfw
  unfold gmv at hfw
  have H1 := Lib.hid (And.intro hb1 (And.intro hw1 (And.intro hfw hb1.lt)))
  clear hb1 hw1 hz1 hfw
  simp only [Act.put, List.setIfInBounds_toArray, List.set_cons_zero, List.set_cons_succ]
  go_wp2_with (first
    | (go_at_call 7; refine H1.out.2.2.1.mono ?_; rintro e w2 ⟨A, L, c, rfl, hlc, hgm, hst, hb2⟩)
    | (with_reducible refine st_store 25 ?_; refine stopped ?_)
    | fail)
  obtain ⟨n, en⟩ : ∃ n, L.length = n := ⟨_, rfl⟩
  rw [en] at hlc ⊢
  refine go_on ?_
  refine wpList_store_whole rfl 25 (.tmp 2) (.tmp 11) rfl w.heap.size [.int .i64 G.k, .slice A n c] rfl rfl 25 [.int .i64 G.k, .slice A0 n0 c0] (H1.out.1.below hb2 H1.out.1.lt) gm_size rfl (two_one _ _ _ _) ?_
  intro w3 hb3 hg3
  have hgm3 := hst w.heap.size w3 (Nat.le_refl _) H1.out.2.2.2 hg3
  have hw2 := H1.out.2.1.trans (hb2.mono H1.out.2.1.size)
  have hw3 : Below w.heap.size w w3 := hw2.grown hg3 hw2.size (fun j e => by cases e; exact Nat.le_refl _)
  have H3 := Lib.hid (And.intro hb3 (And.intro hgm3 (And.intro hw3 (And.intro hlc en))))
  clear hb3 hg3 hgm3 hw3 hw2 hst hgm hb2 hlc en
  simp only [Act.put, List.setIfInBounds_toArray, List.set_cons_zero, List.set_cons_succ]
  refine wpList_nil ?_
  go_wp2_with (first
    | (with_reducible refine st_load 25 ?_; refine stopped ?_)
    | fail)
  refine go_on ?_
  refine wpList_load_at rfl 25 (.tmp 2) rfl w.heap.size 0 rfl #[.int .i64 G.k, .slice A n c] _ (Blk.cells H3.out.1) Tryd.underlying25 rfl gm_size ?_
  have hck := gmCheck w3 G A L n c H3.out.2.1 H3.out.2.2.2.2 H3.out.2.2.2.1 H.out.2.2.2.2.2.2.2.2 (H.out.2.2.2.2.2.1.below H3.out.2.2.1)
  unfold gmv at hck
  have HC := Lib.hid hck
  clear hck
  simp only [Act.put, List.setIfInBounds_toArray, List.set_cons_zero, List.set_cons_succ]
  go_wp2_with (first
    | (go_at_call 8; refine stopped ?_)
    | fail)
  refine go_on ?_
  refine HC.out.mono ?_
  rintro e w4 ⟨r, v, rfl, hr, hch, hb4⟩
  dsimp only
  have hw4 := H3.out.2.2.1.trans (hb4.mono H3.out.2.2.1.size)
  by_cases hr0 : r.1 = 0
  · rw [if_pos hr0] at hch
    obtain rfl : v = .nilIface := hch
    have hfit := (checkIs_fit hr).1 hr0
    have H4 := Lib.hid (And.intro (H3.out.1.below hb4 H3.out.1.lt) (And.intro ((H3.out.2.1.below hb4).more hb4.size) (And.intro hw4 hfit)))
    clear hr hr0 hb4 hw4 hfit
    have fG0 : ∀ W, Below w4.heap.size w4 W → W.cell? ⟨w.heap.size, 0, none⟩ = some (.int .i64 G.k) := fun W h => by rw [(H4.out.1.below h H4.out.1.lt).cell]; rfl
    have fG1 : ∀ W, Below w4.heap.size w4 W → W.cell? ⟨w.heap.size, 1, none⟩ = some (.slice A n c) := fun W h => by rw [(H4.out.1.below h H4.out.1.lt).cell]; rfl
    have hsh := fun W => gmShort C m cq 120 (by decide) hm hcm W
    obtain ⟨ml, eml⟩ : ∃ ml, min m 120 = ml := ⟨_, rfl⟩
    rw [eml] at hsh
    have htx : ∀ W, Below w4.heap.size w4 W → Calls Tryd.prog 9 #[.agg #[.int .i64 G.k, .slice A n c], .int .i64 0, .slice C ml cq, .int .i64 0] W (TextP W w4.heap.size G 0) := fun W h =>
      gmText 21 W w4.heap.size G A L n c 0 C (cl.take 120) ml cq 0 (H4.out.2.1.below h) H3.out.2.2.2.2 H.out.2.2.2.2.2.2.2.2 h.size (Int.le_refl 0) (((bs_take8 (H.out.2.2.1.below H4.out.2.2.1) 120).more H4.out.2.2.1.size).below h) (by rw [List.length_take, H.out.2.2.2.1, Nat.min_comm]; exact eml) (by omega) (by omega) rfl
    have HX := Lib.hid (And.intro hsh htx)
    clear hsh htx eml
    go_wp2_with fail
    have hS0 : (fun W : World => Below w4.heap.size w4 W) w4.drew := (Below.refl _ _).drew
    refine wp_region_held_drew (S := fun W => Below w4.heap.size w4 W) (by kernel_rfl) hS0 (fun hHeld => ?_)
    refine wpAnyH_take (i := 0) (v := ?_) (List.getElem?_toArray.trans (List.getElem?_cons_zero)) (by kernel_rfl) (by kernel_rfl) (by kernel_rfl) (fun _ _ _ h => h) (Or.inl ⟨by rfl, ?_⟩) (by assumption) ?_
    rotate_left
    · intro w' hSw; (try dsimp only at hSw); go_simp; try with_reducible rfl
    try simp only [Act.put, List.setIfInBounds_toArray, List.set_cons_zero, List.set_cons_succ]
    refine wpAnyH_take (i := 1) (v := ?_) (List.getElem?_toArray.trans (List.getElem?_cons_succ.trans (List.getElem?_cons_zero))) (by kernel_rfl) (by kernel_rfl) (by kernel_rfl) (fun _ _ _ h => h) (Or.inl ⟨by rfl, ?_⟩) (by assumption) ?_
    rotate_left
    · intro w' hSw; (try dsimp only at hSw); go_simp; try with_reducible rfl
    try simp only [Act.put, List.setIfInBounds_toArray, List.set_cons_zero, List.set_cons_succ]
    refine wpAnyH_ready (rs := [2]) (by kernel_rfl) (by simp) ?_
    refine AllReadyH.cons (List.getElem?_toArray.trans (List.getElem?_cons_succ.trans (List.getElem?_cons_succ.trans (List.getElem?_cons_zero)))) (fun K hK => ?_) AllReadyH.nil
    go_simp
    go_at_call 10
    refine (HX.out.1 _).mono ?_
    rintro e w' ⟨rfl, rfl⟩
    refine hK.out _ _ hS0 (fun hHeld => ?_)
    clear hK K
    try simp only [Act.put, List.setIfInBounds_toArray, List.set_cons_zero, List.set_cons_succ]
    refine wpAnyH_ready (rs := [3]) (by kernel_rfl) (by simp) ?_
    refine AllReadyH.cons (List.getElem?_toArray.trans (List.getElem?_cons_succ.trans (List.getElem?_cons_succ.trans (List.getElem?_cons_succ.trans (List.getElem?_cons_zero))))) (fun K hK => ?_) AllReadyH.nil
    go_simp
    go_at_call 9
    refine (HX.out.2 _ hS0).mono ?_
    rintro e w5 ⟨v5, u5, ok5, rfl, hb5, hok5⟩
    have hb5' : Below w4.heap.size w4 w5 := hS0.trans (hb5.mono hS0.size)
    refine hK.out _ _ hb5' (fun hHeld => ?_)
    clear hK K
    try simp only [Act.put, List.setIfInBounds_toArray, List.set_cons_zero, List.set_cons_succ]
    refine wpAnyH_take (i := 4) (v := ?_) (List.getElem?_toArray.trans (List.getElem?_cons_succ.trans (List.getElem?_cons_succ.trans (List.getElem?_cons_succ.trans (List.getElem?_cons_succ.trans (List.getElem?_cons_zero)))))) (by kernel_rfl) (by kernel_rfl) (by kernel_rfl) (fun _ _ _ h => h) (Or.inl ⟨by rfl, ?_⟩) (by assumption) ?_
    rotate_left
    · intro w' hSw; (try dsimp only at hSw); go_simp; try with_reducible rfl
    try simp only [Act.put, List.setIfInBounds_toArray, List.set_cons_zero, List.set_cons_succ]
    refine wpAnyH_take (i := 5) (v := ?_) (List.getElem?_toArray.trans (List.getElem?_cons_succ.trans (List.getElem?_cons_succ.trans (List.getElem?_cons_succ.trans (List.getElem?_cons_succ.trans (List.getElem?_cons_succ.trans (List.getElem?_cons_zero))))))) (by kernel_rfl) (by kernel_rfl) (by kernel_rfl) (fun _ _ _ h => h) (Or.inl ⟨by rfl, ?_⟩) (by assumption) ?_
    rotate_left
    · intro w' hSw; (try dsimp only at hSw); go_simp; try with_reducible rfl
    try simp only [Act.put, List.setIfInBounds_toArray, List.set_cons_zero, List.set_cons_succ]
    refine wpAnyH_take (i := 6) (v := ?_) (List.getElem?_toArray.trans (List.getElem?_cons_succ.trans (List.getElem?_cons_succ.trans (List.getElem?_cons_succ.trans (List.getElem?_cons_succ.trans (List.getElem?_cons_succ.trans (List.getElem?_cons_succ.trans (List.getElem?_cons_zero)))))))) (by kernel_rfl) (by kernel_rfl) (by kernel_rfl) (fun _ _ _ h => h) (Or.inl ⟨by rfl, ?_⟩) (by assumption) ?_
    rotate_left
    · intro w' hSw; (try dsimp only at hSw); go_simp; try with_reducible rfl
    try simp only [Act.put, List.setIfInBounds_toArray, List.set_cons_zero, List.set_cons_succ]
    refine wpAnyH_take (i := 7) (v := ?_) (List.getElem?_toArray.trans (List.getElem?_cons_succ.trans (List.getElem?_cons_succ.trans (List.getElem?_cons_succ.trans (List.getElem?_cons_succ.trans (List.getElem?_cons_succ.trans (List.getElem?_cons_succ.trans (List.getElem?_cons_succ.trans (List.getElem?_cons_zero))))))))) (by kernel_rfl) (by kernel_rfl) (by kernel_rfl) (fun _ _ _ h => h) (Or.inl ⟨by rfl, ?_⟩) (by assumption) ?_
    rotate_left
    · intro w' hSw; (try dsimp only at hSw); go_simp; try with_reducible rfl
    try simp only [Act.put, List.setIfInBounds_toArray, List.set_cons_zero, List.set_cons_succ]
    refine wpAnyH_take (i := 8) (v := ?_) (List.getElem?_toArray.trans (List.getElem?_cons_succ.trans (List.getElem?_cons_succ.trans (List.getElem?_cons_succ.trans (List.getElem?_cons_succ.trans (List.getElem?_cons_succ.trans (List.getElem?_cons_succ.trans (List.getElem?_cons_succ.trans (List.getElem?_cons_succ.trans (List.getElem?_cons_zero)))))))))) (by kernel_rfl) (by kernel_rfl) (by kernel_rfl) (fun _ _ _ h => h) (Or.inl ⟨by rfl, ?_⟩) (by assumption) ?_
    rotate_left
    · intro w' hSw; (try dsimp only at hSw); go_simp; try with_reducible rfl
    try simp only [Act.put, List.setIfInBounds_toArray, List.set_cons_zero, List.set_cons_succ]
    refine wpAnyH_take (i := 9) (v := ?_) (List.getElem?_toArray.trans (List.getElem?_cons_succ.trans (List.getElem?_cons_succ.trans (List.getElem?_cons_succ.trans (List.getElem?_cons_succ.trans (List.getElem?_cons_succ.trans (List.getElem?_cons_succ.trans (List.getElem?_cons_succ.trans (List.getElem?_cons_succ.trans (List.getElem?_cons_succ.trans (List.getElem?_cons_zero))))))))))) (by kernel_rfl) (by kernel_rfl) (by kernel_rfl) (fun _ _ _ h => h) (Or.inl ⟨by rfl, ?_⟩) (by assumption) ?_
    rotate_left
    · intro w' hSw; (try dsimp only at hSw); go_simp; try with_reducible rfl
    try simp only [Act.put, List.setIfInBounds_toArray, List.set_cons_zero, List.set_cons_succ]
    refine wpAnyH_take (i := 10) (v := ?_) (List.getElem?_toArray.trans (List.getElem?_cons_succ.trans (List.getElem?_cons_succ.trans (List.getElem?_cons_succ.trans (List.getElem?_cons_succ.trans (List.getElem?_cons_succ.trans (List.getElem?_cons_succ.trans (List.getElem?_cons_succ.trans (List.getElem?_cons_succ.trans (List.getElem?_cons_succ.trans (List.getElem?_cons_succ.trans (List.getElem?_cons_zero)))))))))))) (by kernel_rfl) (by kernel_rfl) (by kernel_rfl) (fun _ _ _ h => h) (Or.inl ⟨by rfl, ?_⟩) (by assumption) ?_
    rotate_left
    · intro w' hSw; (try dsimp only at hSw); go_simp; try with_reducible rfl
    try simp only [Act.put, List.setIfInBounds_toArray, List.set_cons_zero, List.set_cons_succ]
    refine wpAnyH_done (by kernel_rfl) ?_ _
    have H5 := Lib.hid (And.intro (H4.out.1.below hb5' H4.out.1.lt) (And.intro ((H4.out.2.1.below hb5').more hb5'.size) (And.intro (H4.out.2.2.1.trans (hb5'.mono H4.out.2.2.1.size)) hok5)))
    clear hb5 hb5' hok5 fG0 fG1 hS0
    have hG5 := H.out.2.2.2.2.2.1.below H5.out.2.2.1
    have HG5 := Lib.hid hG5
    clear hG5
    cases ok5
    · go_wp2_with (first
        | (go_at_call 6; refine (gmAwake _ HG5.out).mono ?_; rintro e w6 ⟨rfl, hb6⟩)
        | fail)
      go_ret
      exact ⟨rfl, H5.out.2.2.1.trans (hb6.mono H5.out.2.2.1.size)⟩
    · obtain ⟨t, C7, cl7, m7, cq7, hown, hlen, rfl, _, _, _, _, hder⟩ := H5.out.2.2.2 rfl
      obtain ⟨A5, c5, rfl, hlc5, _, hbs5, _⟩ := hown.slice_cap
      obtain ⟨tl, etl⟩ : ∃ z, t.length = z := ⟨_, rfl⟩
      rw [etl] at hlc5 ⊢
      have hmt := gmMatch w5 G A L n c H5.out.2.1 H3.out.2.2.2.2 H3.out.2.2.2.1 H.out.2.2.2.2.2.2.2.2 HG5.out A5 t tl c5 hbs5 etl hlc5 (by omega)
      unfold gmv at hmt
      have HM := Lib.hid (And.intro hmt hder)
      clear hmt hder hown hbs5 etl
      go_wp2_with (first
        | (with_reducible refine st_load 25 ?_; refine stopped ?_)
        | fail)
      refine go_on ?_
      refine wpList_load_at rfl 25 (.tmp 2) rfl w.heap.size 0 rfl #[.int .i64 G.k, .slice A n c] _ (Blk.cells H5.out.1) Tryd.underlying25 rfl gm_size ?_
      simp only [Act.put, List.setIfInBounds_toArray, List.set_cons_zero, List.set_cons_succ]
      go_wp2_with (first
        | (go_at_call 11; refine stopped ?_)
        | fail)
      refine go_on ?_
      refine HM.out.1.mono ?_
      rintro e w6 ⟨r6, q6, rfl, hrq, hb6⟩
      have hrun : q6 = 0 ∧ (r6 = 1 ∨ r6 = 2) := by
        rcases hrq with ⟨hf, hq, hr⟩ | ⟨hf, _, _⟩
        · exact ⟨hq, run_takes (hf.fitF H5.out.2.1.ok) hr ⟨fun _ c hc => hc.elim, trivial⟩ HM.out.2⟩
        · exact absurd H4.out.2.2.2 hf
      obtain ⟨rfl, hr12⟩ := hrun
      have hw6 := H5.out.2.2.1.trans (hb6.mono H5.out.2.2.1.size)
      have H6 := Lib.hid (And.intro hw6 (H.out.2.2.2.2.2.1.below hw6))
      clear hrq hb6 hw6
      dsimp only
      rcases hr12 with rfl | rfl
      · go_wp2_with (first
          | (go_at_call 6; refine (gmAwake _ H6.out.2).mono ?_; rintro e w7 ⟨rfl, hb7⟩)
          | fail)
        go_ret
        exact ⟨rfl, H6.out.1.trans (hb7.mono H6.out.1.size)⟩
      · go_wp2_with (first
          | (go_at_call 6; refine (gmAwake _ H6.out.2).mono ?_; rintro e w7 ⟨rfl, hb7⟩)
          | fail)
        go_ret
        exact ⟨rfl, H6.out.1.trans (hb7.mono H6.out.1.size)⟩
  · rw [if_neg hr0] at hch
    obtain ⟨g1, u1, rfl, _, _⟩ := hch
    have HW := Lib.hid hw4
    clear hr hr0 hb4 hw4
    go_wp2_with (first
      | (go_at_call 6; refine (gmAwake _ (H.out.2.2.2.2.2.1.below HW.out)).mono ?_; rintro e w5 ⟨rfl, hb5⟩)
      | fail)
    go_ret
    exact ⟨rfl, HW.out.trans (hb5.mono HW.out.size)⟩
end Go.Proofs.YthfbmihpdkkcjaaDoor
