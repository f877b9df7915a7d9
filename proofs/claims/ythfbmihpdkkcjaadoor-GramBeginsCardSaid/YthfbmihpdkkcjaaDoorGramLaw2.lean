/-
  The law GramBegins. Conditions: the theorem's own premises.
-/
import Derived.Test.YthfbmihpdkkcjaaDoorGramLaw1
namespace Go.Proofs.YthfbmihpdkkcjaaDoor
open Go.RowKit

def zb : List Value := List.replicate 256 (.bool false)
theorem zb_zero : (Tryd.prog.info? 39).map (·.zero) = some (some (.agg zb.toArray)) := by kernel_rfl
theorem zb_size : (Tryd.prog.info? 39).map (·.size) = some 256 := by kernel_rfl
theorem bools_one (l : List Bool) : ∀ u ∈ l.map Value.bool, u.oneCell' = true := by
  intro u hu
  obtain ⟨x, _, rfl⟩ := List.mem_map.1 hu
  rfl
theorem run_cases {g : Gm} {σ : List Sg} {t : List Nat} {r : Nat} (h : RunG g σ t r) : r = 0 ∨ r = 1 ∨ r = 2 := by have := run_le h; omega
theorem fir0 {g : Gm} {c : Nat} (h : FirL g c [⟨0, 0, 0⟩]) : Fir g c 0 := by
  rcases (firL_name (s := ⟨0, 0, 0⟩) (r := []) (by decide)).1 h with h | ⟨_, h⟩
  · exact h
  · exact h.elim
theorem van0 {g : Gm} : VanL g [⟨0, 0, 0⟩] ↔ Van g 0 := ⟨fun h => (h ⟨0, 0, 0⟩ (List.mem_singleton.2 rfl)).2, fun h s hs => by rw [List.mem_singleton.1 hs]; exact ⟨Int.le_refl 0, h⟩⟩

set_option maxRecDepth 100000 in
set_option maxHeartbeats 4000000 in
set_option linter.unusedSimpArgs false in
theorem gramBegins_calls (w : World) (G0 : Gm) (A0 : Option Addr) (L0 : List FmV) (n0 c0 : Nat) (C : Option Addr) (cl : List UInt8) (m cq : Nat) (hA : GmAt w w.heap.size A0 L0 G0) (hn0 : L0.length = n0) (hm0 : n0 ≤ 9223372036854775807) (hC : Bs w w.heap.size C cl) (hcl : cl.length = m) (hcm : m ≤ cq) (hm : m ≤ 9223372036854775807) (hG : HasErr w) :
    Calls Tryd.prog 5 #[gmv G0.k A0 n0 c0, .slice C m cq] w fun e w' => e = .returned (.bool true) ∧ Below w.heap.size w w' := by
  obtain ⟨G, eG⟩ : ∃ G, fewG G0 = G := ⟨_, rfl⟩
  have hk : G0.k = G.k := by rw [← eG]; rfl
  have hs : SmallG G := by rw [← eG]; exact small_few G0
  have H := Lib.hid (And.intro hA (And.intro hn0 (And.intro hC (And.intro hcl (And.intro hcm (And.intro hG (And.intro eG (And.intro hk hs))))))))
  clear hA hn0 hC hcl hG eG hs
  unfold gmv
  rw [hk]
  clear hk
  go_enter Tryd.func5, Tryd.ntmps5
  go_wp2_with (first
    | (refine wpList_box rfl 25 (.tmp 0) rfl #[.int .i64 G.k, .slice A0 n0 c0] rfl ?_; intro w1 hb1 hw1 hz1)
    | (with_reducible refine st_load 25 ?_; refine stopped ?_)
    | fail)
  refine go_on ?_
  refine wpList_load_at rfl 25 (.tmp 2) rfl w.heap.size 0 rfl #[.int .i64 G.k, .slice A0 n0 c0] _ (Blk.cells hb1) Tryd.underlying25 rfl gm_size ?_
  have hfw := gmFew w1 w.heap.size hw1.size G0 A0 L0 n0 c0 (H.out.1.below hw1) H.out.2.1 hm0
  rw [H.out.2.2.2.2.2.2.1, H.out.2.2.2.2.2.2.2.1] at hfw
  unfold gmv at hfw
  have H1 := Lib.hid (And.intro hb1 (And.intro hw1 (And.intro hfw hb1.lt)))
  clear hb1 hw1 hz1 hfw
  simp only [Act.put, List.setIfInBounds_toArray, List.set_cons_zero, List.set_cons_succ]
  go_wp2_with (first
    | (go_at_call 7; refine H1.out.2.2.1.mono ?_; rintro e w2 ⟨A, L, c, rfl, hlc, hgm, hst, hb2⟩)
    | (go_at_call 10; refine (gmShort C m cq 100 (by decide) hm hcm _).mono ?_; rintro e w' ⟨rfl, rfl⟩)
    | (with_reducible refine st_store 25 ?_; refine stopped ?_)
    | fail)
  obtain ⟨n, en⟩ : ∃ n, L.length = n := ⟨_, rfl⟩
  rw [en] at hlc ⊢
  refine go_on ?_
  refine wpList_store_whole rfl 25 (.tmp 2) (.tmp 11) rfl w.heap.size [.int .i64 G.k, .slice A n c] rfl rfl 25 [.int .i64 G.k, .slice A0 n0 c0] (H1.out.1.below hb2 H1.out.1.lt) gm_size rfl (two_one _ _ _ _) ?_
  intro w3 hb3 hg3
  have hgm3 := hst w.heap.size w3 (Nat.le_refl _) H1.out.2.2.2 hg3
  have hw2 := H1.out.2.1.trans (hb2.mono H1.out.2.1.size)
  have hw3 : Below w.heap.size w w3 := hw2.grown hg3 hw2.size (fun j e => by cases e; exact Nat.le_refl _)
  obtain ⟨ml, eml⟩ : ∃ ml, min m 100 = ml := ⟨_, rfl⟩
  obtain ⟨sl, esl⟩ : ∃ sl, cl.take 100 = sl := ⟨_, rfl⟩
  have hsl : sl.length = ml := by rw [← esl, List.length_take, H.out.2.2.2.1, Nat.min_comm]; exact eml
  have hbs : Bs w w.heap.size C sl := by rw [← esl]; exact bs_take8 H.out.2.2.1 100
  have H3 := Lib.hid (And.intro hb3 (And.intro hgm3 (And.intro hw3 (And.intro hlc (And.intro en (And.intro hsl hbs))))))
  have hml : ml ≤ 100 := by omega
  have hmlc : ml ≤ cq := by omega
  simp only [Act.put, List.setIfInBounds_toArray, List.set_cons_zero, List.set_cons_succ]
  clear hb3 hg3 hgm3 hw3 hw2 hst hgm hb2 hlc en esl hsl hbs
  go_wp2_with (first
    | (with_reducible refine st_load 25 ?_; refine stopped ?_)
    | fail)
  try rw [eml]
  refine go_on ?_
  refine wpList_load_at rfl 25 (.tmp 2) rfl w.heap.size 0 rfl #[.int .i64 G.k, .slice A n c] _ (Blk.cells H3.out.1) Tryd.underlying25 rfl gm_size ?_
  have hmt := gmMatch w3 G A L n c H3.out.2.1 H3.out.2.2.2.2.1 H3.out.2.2.2.1 H.out.2.2.2.2.2.2.2.2 (H.out.2.2.2.2.2.1.below H3.out.2.2.1) C sl ml cq ((H3.out.2.2.2.2.2.2.below H3.out.2.2.1).more H3.out.2.2.1.size) H3.out.2.2.2.2.2.1 hmlc (by omega)
  unfold gmv at hmt
  have HM := Lib.hid hmt
  clear hmt
  simp only [Act.put, List.setIfInBounds_toArray, List.set_cons_zero, List.set_cons_succ]
  go_wp2_with (first
    | (go_at_call 11; refine stopped ?_)
    | fail)
  refine go_on ?_
  refine HM.out.mono ?_
  rintro e w4 ⟨r4, q4, rfl, hrq4, hb4⟩
  have hb34 := H3.out.2.2.1.trans (hb4.mono H3.out.2.2.1.size)
  have H4 := Lib.hid (And.intro (H3.out.1.below hb4 H3.out.1.lt) (And.intro ((H3.out.2.1.below hb4).more hb4.size) (And.intro hb34 hrq4)))
  clear hb4 hb34 hrq4
  dsimp only
  go_wp2_with (first
    | (with_reducible refine st_load 25 ?_; refine stopped ?_)
    | fail)
  refine go_on ?_
  refine wpList_load_at rfl 25 (.tmp 2) rfl w.heap.size 0 rfl #[.int .i64 G.k, .slice A n c] _ (Blk.cells H4.out.1) Tryd.underlying25 rfl gm_size ?_
  have hmt := gmMatch w4 G A L n c H4.out.2.1 H3.out.2.2.2.2.1 H3.out.2.2.2.1 H.out.2.2.2.2.2.2.2.2 (H.out.2.2.2.2.2.1.below H4.out.2.2.1) none [] 0 0 Bs.nil_ rfl (Nat.le_refl _) (by omega)
  unfold gmv at hmt
  have HN := Lib.hid hmt
  clear hmt
  simp only [Act.put, List.setIfInBounds_toArray, List.set_cons_zero, List.set_cons_succ]
  go_wp2_with (first
    | (go_at_call 11; refine stopped ?_)
    | fail)
  refine go_on ?_
  refine HN.out.mono ?_
  rintro e w5 ⟨r5, q5, rfl, hrq5, hb5⟩
  have hb45 := H4.out.2.2.1.trans (hb5.mono H4.out.2.2.1.size)
  have H5 := Lib.hid (And.intro (H4.out.1.below hb5 H4.out.1.lt) (And.intro ((H4.out.2.1.below hb5).more hb5.size) (And.intro hb45 (H.out.2.2.2.2.2.1.below hb45))))
  have hrq4 := H4.out.2.2.2
  clear hb5 hb45
  dsimp only
  by_cases hfit : FitG G
  · have h4 : q4 = 0 ∧ RunG G [⟨0, 0, 0⟩] (toN sl) r4 := by
      rcases hrq4 with ⟨_, h1, h2⟩ | ⟨h1, _⟩
      · exact ⟨h1, h2⟩
      · exact absurd hfit h1
    have h5 : q5 = 0 ∧ RunG G [⟨0, 0, 0⟩] [] r5 := by
      rcases hrq5 with ⟨_, h1, h2⟩ | ⟨h1, _⟩
      · exact ⟨h1, h2⟩
      · exact absurd hfit h1
    obtain ⟨rfl, hr4⟩ := h4
    obtain ⟨rfl, hr5⟩ := h5
    have hem := run_empty hr5 rfl
    rw [van0] at hem
    have hvn := gmVanishes w5 G A L n c H5.out.2.1 H3.out.2.2.2.2.1 H3.out.2.2.2.1 H.out.2.2.2.2.2.2.2.2 H5.out.2.2.2
    unfold gmv at hvn
    have HR := Lib.hid (And.intro hr4 (And.intro hem (And.intro hfit (And.intro hvn (run_cases hr5)))))
    clear hrq4 hrq5 hr4 hr5 hem hfit hvn
    go_wp2_with (first
      | (with_reducible refine st_load 25 ?_; refine stopped ?_)
      | fail)
    refine go_on ?_
    refine wpList_load_at rfl 25 (.tmp 2) rfl w.heap.size 0 rfl #[.int .i64 G.k, .slice A n c] _ (Blk.cells H5.out.1) Tryd.underlying25 rfl gm_size ?_
    simp only [Act.put, List.setIfInBounds_toArray, List.set_cons_zero, List.set_cons_succ]
    go_wp2_with (first
      | (go_at_call 12; refine stopped ?_)
      | fail)
    refine go_on ?_
    refine HR.out.2.2.2.1.mono ?_
    rintro e w6 ⟨b6, rfl, hb6v, hb6⟩
    have hv6 := hb6v HR.out.2.2.1
    have hb56 := H5.out.2.2.1.trans (hb6.mono H5.out.2.2.1.size)
    have H6 := Lib.hid (And.intro (H5.out.1.below hb6 H5.out.1.lt) (And.intro ((H5.out.2.1.below hb6).more hb6.size) (And.intro hb56 (H.out.2.2.2.2.2.1.below hb56))))
    have hfr := gmFirst w6 G A L n c H6.out.2.1 H3.out.2.2.2.2.1 H3.out.2.2.2.1 H.out.2.2.2.2.2.2.2.2 H6.out.2.2.2
    unfold gmv at hfr
    have HF := Lib.hid hfr
    clear hb6v hb6 hb56 hfr
    dsimp only
    have hcond : (r5 = 1 ∧ b6 = true) ∨ r5 = 2 ∨ (r5 = 0 ∧ b6 = false) := by
      rcases HR.out.2.2.2.2 with e | e | e
      · refine .inr (.inr ⟨e, ?_⟩)
        cases hb : b6 with
        | false => rfl
        | true => have := HR.out.2.1.2 (hv6.1 hb); omega
      · exact .inl ⟨e, hv6.2 (HR.out.2.1.1 e)⟩
      · exact .inr (.inl e)
    clear hv6
    rcases hcond with ⟨rfl, rfl⟩ | rfl | ⟨rfl, rfl⟩
    · go_wp2_with (first
        | (with_reducible refine st_load 25 ?_; refine stopped ?_)
        | fail)
      refine go_on ?_
      refine wpList_load_at rfl 25 (.tmp 2) rfl w.heap.size 0 rfl #[.int .i64 G.k, .slice A n c] _ (Blk.cells H6.out.1) Tryd.underlying25 rfl gm_size ?_
      simp only [Act.put, List.setIfInBounds_toArray, List.set_cons_zero, List.set_cons_succ]
      go_wp2_with (first
        | (go_at_call 13; refine stopped ?_)
        | fail)
      refine go_on ?_
      refine HF.out.mono ?_
      rintro e w7 ⟨l, hl, rfl, hfl, hb7⟩
      have hfl' := hfl HR.out.2.2.1
      have hb67 := H6.out.2.2.1.trans (hb7.mono H6.out.2.2.1.size)
      dsimp only
      go_wp2_with (first
        | (with_reducible refine st_alloc 39 ?_; refine stopped ?_)
        | fail)
      refine go_on ?_
      refine wpList_alloc rfl 39 rfl zb.toArray zb_zero ?_
      intro w8 hb8 hw8 hz8
      have hb68 := hb67.trans (hw8.mono hb67.size)
      have hg9 : w.heap.size ≤ w7.heap.size := hb67.size
      obtain ⟨g9, eg9⟩ : ∃ z, w7.heap.size = z := ⟨_, rfl⟩
      rw [eg9] at hb8 hg9
      simp only [Act.put, List.setIfInBounds_toArray, List.set_cons_zero, List.set_cons_succ]
      rw [eg9]
      go_wp2_with (first
        | (with_reducible refine st_store 39 ?_; refine stopped ?_)
        | fail)
      refine go_on ?_
      refine wpList_store_whole rfl 39 (.tmp 9) (.tmp 47) rfl g9 (l.map .bool) rfl rfl 39 zb hb8 (by rw [List.length_map, hl]; exact zb_size) (by rw [List.length_map, hl]; rfl) (bools_one l) ?_
      intro w9 hb9 hg9'
      have hw9 : Below w.heap.size w w9 := hb68.grown hg9' hb68.size (fun j e => by cases e; exact hg9)
      have HZ := Lib.hid (And.intro hb9 (And.intro hw9 (H.out.2.2.2.2.2.1.below hw9)))
      have HL := Lib.hid (And.intro hl hfl')
      clear hb7 hb67 hb8 hw8 hz8 hb68 hb9 hg9' hw9 hfl hfl' hl eg9
      simp only [Act.put, List.setIfInBounds_toArray, List.set_cons_zero, List.set_cons_succ]
      refine wpList_nil ?_
      by_cases hr41 : r4 = 1
      · subst hr41
        by_cases hml0 : ml = 0
        · have hmlb : ((ml : Int) == 0) = true := by rw [hml0]; rfl
          go_wp2_with (first
            | (go_at_call 6; refine (gmAwake _ HZ.out.2.2).mono ?_; rintro e w11 ⟨rfl, hb11⟩)
            | fail)
          go_ret
          exact ⟨rfl, HZ.out.2.1.trans (hb11.mono HZ.out.2.1.size)⟩
        · have hmlb : ((ml : Int) == 0) = false := by rw [beq_eq_false_iff_ne]; omega
          obtain ⟨b0, rest, es⟩ : ∃ b0 rest, sl = b0 :: rest := by
            cases hs : sl with
            | nil => have := H3.out.2.2.2.2.2.1; rw [hs] at this; simp at this; omega
            | cons b0 rest => exact ⟨b0, rest, rfl⟩
          have hfir := fir0 (run_begins HR.out.1 rfl b0.toNat (toN rest) (by rw [es]; rfl))
          obtain ⟨z0, ez0⟩ : ∃ z, b0.toNat = z := ⟨_, rfl⟩
          rw [ez0] at hfir
          have hz256 : z0 < 256 := by rw [← ez0]; exact UInt8.toNat_lt _
          have hlt := (HL.out.2 z0 hz256).2 hfir
          obtain ⟨bC, oC, rfl, hbC, hcC⟩ := H3.out.2.2.2.2.2.2.at_ (k := 0) (by rw [es]; simp)
          have e0 : (sl[0]'(by rw [es]; simp)).toNat = z0 := by simp only [es, List.getElem_cons_zero]; exact ez0
          rw [e0, Nat.add_zero] at hcC
          have k0 : w9.cell? ⟨bC, oC, none⟩ = some (.int .u8 (z0 : Int)) := (HZ.out.2.1.cell (p := ⟨bC, oC, none⟩) hbC).trans hcC
          have k1 : w9.cell? ⟨g9, z0, none⟩ = some (.bool true) := by
            rw [HZ.out.1.cell]
            have h9 : z0 < l.length := by rw [HL.out.1]; exact hz256
            rw [List.getD_eq_getElem?_getD, List.getElem?_eq_getElem h9] at hlt
            have hlt' : l[z0] = true := hlt
            simp [h9, hlt']
          have hz0i : (0 : Int) ≤ (z0 : Int) := by omega
          have hz1i : (z0 : Int) < 256 := by omega
          have hml1 : (0 : Int) < (ml : Int) := by omega
          clear hcC e0 hlt hfir es ez0
          go_wp2_with (first
            | (go_at_call 6; refine (gmAwake _ HZ.out.2.2).mono ?_; rintro e w11 ⟨rfl, hb11⟩)
            | fail)
          go_ret
          exact ⟨rfl, HZ.out.2.1.trans (hb11.mono HZ.out.2.1.size)⟩
      · have hr4b : ((r4 : Int) != 1) = true := by rw [bne_iff_ne]; omega
        go_wp2_with (first
          | (go_at_call 6; refine (gmAwake _ HZ.out.2.2).mono ?_; rintro e w11 ⟨rfl, hb11⟩)
          | fail)
        go_ret
        exact ⟨rfl, HZ.out.2.1.trans (hb11.mono HZ.out.2.1.size)⟩
    · cases b6
      · go_wp2_with (first
          | (with_reducible refine st_load 25 ?_; refine stopped ?_)
          | fail)
        refine go_on ?_
        refine wpList_load_at rfl 25 (.tmp 2) rfl w.heap.size 0 rfl #[.int .i64 G.k, .slice A n c] _ (Blk.cells H6.out.1) Tryd.underlying25 rfl gm_size ?_
        simp only [Act.put, List.setIfInBounds_toArray, List.set_cons_zero, List.set_cons_succ]
        go_wp2_with (first
          | (go_at_call 13; refine stopped ?_)
          | fail)
        refine go_on ?_
        refine HF.out.mono ?_
        rintro e w7 ⟨l, hl, rfl, hfl, hb7⟩
        have hfl' := hfl HR.out.2.2.1
        have hb67 := H6.out.2.2.1.trans (hb7.mono H6.out.2.2.1.size)
        dsimp only
        go_wp2_with (first
          | (with_reducible refine st_alloc 39 ?_; refine stopped ?_)
          | fail)
        refine go_on ?_
        refine wpList_alloc rfl 39 rfl zb.toArray zb_zero ?_
        intro w8 hb8 hw8 hz8
        have hb68 := hb67.trans (hw8.mono hb67.size)
        have hg9 : w.heap.size ≤ w7.heap.size := hb67.size
        obtain ⟨g9, eg9⟩ : ∃ z, w7.heap.size = z := ⟨_, rfl⟩
        rw [eg9] at hb8 hg9
        simp only [Act.put, List.setIfInBounds_toArray, List.set_cons_zero, List.set_cons_succ]
        rw [eg9]
        go_wp2_with (first
          | (with_reducible refine st_store 39 ?_; refine stopped ?_)
          | fail)
        refine go_on ?_
        refine wpList_store_whole rfl 39 (.tmp 9) (.tmp 47) rfl g9 (l.map .bool) rfl rfl 39 zb hb8 (by rw [List.length_map, hl]; exact zb_size) (by rw [List.length_map, hl]; rfl) (bools_one l) ?_
        intro w9 hb9 hg9'
        have hw9 : Below w.heap.size w w9 := hb68.grown hg9' hb68.size (fun j e => by cases e; exact hg9)
        have HZ := Lib.hid (And.intro hb9 (And.intro hw9 (H.out.2.2.2.2.2.1.below hw9)))
        have HL := Lib.hid (And.intro hl hfl')
        clear hb7 hb67 hb8 hw8 hz8 hb68 hb9 hg9' hw9 hfl hfl' hl eg9
        simp only [Act.put, List.setIfInBounds_toArray, List.set_cons_zero, List.set_cons_succ]
        refine wpList_nil ?_
        by_cases hr41 : r4 = 1
        · subst hr41
          by_cases hml0 : ml = 0
          · have hmlb : ((ml : Int) == 0) = true := by rw [hml0]; rfl
            go_wp2_with (first
              | (go_at_call 6; refine (gmAwake _ HZ.out.2.2).mono ?_; rintro e w11 ⟨rfl, hb11⟩)
              | fail)
            go_ret
            exact ⟨rfl, HZ.out.2.1.trans (hb11.mono HZ.out.2.1.size)⟩
          · have hmlb : ((ml : Int) == 0) = false := by rw [beq_eq_false_iff_ne]; omega
            obtain ⟨b0, rest, es⟩ : ∃ b0 rest, sl = b0 :: rest := by
              cases hs : sl with
              | nil => have := H3.out.2.2.2.2.2.1; rw [hs] at this; simp at this; omega
              | cons b0 rest => exact ⟨b0, rest, rfl⟩
            have hfir := fir0 (run_begins HR.out.1 rfl b0.toNat (toN rest) (by rw [es]; rfl))
            obtain ⟨z0, ez0⟩ : ∃ z, b0.toNat = z := ⟨_, rfl⟩
            rw [ez0] at hfir
            have hz256 : z0 < 256 := by rw [← ez0]; exact UInt8.toNat_lt _
            have hlt := (HL.out.2 z0 hz256).2 hfir
            obtain ⟨bC, oC, rfl, hbC, hcC⟩ := H3.out.2.2.2.2.2.2.at_ (k := 0) (by rw [es]; simp)
            have e0 : (sl[0]'(by rw [es]; simp)).toNat = z0 := by simp only [es, List.getElem_cons_zero]; exact ez0
            rw [e0, Nat.add_zero] at hcC
            have k0 : w9.cell? ⟨bC, oC, none⟩ = some (.int .u8 (z0 : Int)) := (HZ.out.2.1.cell (p := ⟨bC, oC, none⟩) hbC).trans hcC
            have k1 : w9.cell? ⟨g9, z0, none⟩ = some (.bool true) := by
              rw [HZ.out.1.cell]
              have h9 : z0 < l.length := by rw [HL.out.1]; exact hz256
              rw [List.getD_eq_getElem?_getD, List.getElem?_eq_getElem h9] at hlt
              have hlt' : l[z0] = true := hlt
              simp [h9, hlt']
            have hz0i : (0 : Int) ≤ (z0 : Int) := by omega
            have hz1i : (z0 : Int) < 256 := by omega
            have hml1 : (0 : Int) < (ml : Int) := by omega
            clear hcC e0 hlt hfir es ez0
            go_wp2_with (first
              | (go_at_call 6; refine (gmAwake _ HZ.out.2.2).mono ?_; rintro e w11 ⟨rfl, hb11⟩)
              | fail)
            go_ret
            exact ⟨rfl, HZ.out.2.1.trans (hb11.mono HZ.out.2.1.size)⟩
        · have hr4b : ((r4 : Int) != 1) = true := by rw [bne_iff_ne]; omega
          go_wp2_with (first
            | (go_at_call 6; refine (gmAwake _ HZ.out.2.2).mono ?_; rintro e w11 ⟨rfl, hb11⟩)
            | fail)
          go_ret
          exact ⟨rfl, HZ.out.2.1.trans (hb11.mono HZ.out.2.1.size)⟩
      · go_wp2_with (first
          | (with_reducible refine st_load 25 ?_; refine stopped ?_)
          | fail)
        refine go_on ?_
        refine wpList_load_at rfl 25 (.tmp 2) rfl w.heap.size 0 rfl #[.int .i64 G.k, .slice A n c] _ (Blk.cells H6.out.1) Tryd.underlying25 rfl gm_size ?_
        simp only [Act.put, List.setIfInBounds_toArray, List.set_cons_zero, List.set_cons_succ]
        go_wp2_with (first
          | (go_at_call 13; refine stopped ?_)
          | fail)
        refine go_on ?_
        refine HF.out.mono ?_
        rintro e w7 ⟨l, hl, rfl, hfl, hb7⟩
        have hfl' := hfl HR.out.2.2.1
        have hb67 := H6.out.2.2.1.trans (hb7.mono H6.out.2.2.1.size)
        dsimp only
        go_wp2_with (first
          | (with_reducible refine st_alloc 39 ?_; refine stopped ?_)
          | fail)
        refine go_on ?_
        refine wpList_alloc rfl 39 rfl zb.toArray zb_zero ?_
        intro w8 hb8 hw8 hz8
        have hb68 := hb67.trans (hw8.mono hb67.size)
        have hg9 : w.heap.size ≤ w7.heap.size := hb67.size
        obtain ⟨g9, eg9⟩ : ∃ z, w7.heap.size = z := ⟨_, rfl⟩
        rw [eg9] at hb8 hg9
        simp only [Act.put, List.setIfInBounds_toArray, List.set_cons_zero, List.set_cons_succ]
        rw [eg9]
        go_wp2_with (first
          | (with_reducible refine st_store 39 ?_; refine stopped ?_)
          | fail)
        refine go_on ?_
        refine wpList_store_whole rfl 39 (.tmp 9) (.tmp 47) rfl g9 (l.map .bool) rfl rfl 39 zb hb8 (by rw [List.length_map, hl]; exact zb_size) (by rw [List.length_map, hl]; rfl) (bools_one l) ?_
        intro w9 hb9 hg9'
        have hw9 : Below w.heap.size w w9 := hb68.grown hg9' hb68.size (fun j e => by cases e; exact hg9)
        have HZ := Lib.hid (And.intro hb9 (And.intro hw9 (H.out.2.2.2.2.2.1.below hw9)))
        have HL := Lib.hid (And.intro hl hfl')
        clear hb7 hb67 hb8 hw8 hz8 hb68 hb9 hg9' hw9 hfl hfl' hl eg9
        simp only [Act.put, List.setIfInBounds_toArray, List.set_cons_zero, List.set_cons_succ]
        refine wpList_nil ?_
        by_cases hr41 : r4 = 1
        · subst hr41
          by_cases hml0 : ml = 0
          · have hmlb : ((ml : Int) == 0) = true := by rw [hml0]; rfl
            go_wp2_with (first
              | (go_at_call 6; refine (gmAwake _ HZ.out.2.2).mono ?_; rintro e w11 ⟨rfl, hb11⟩)
              | fail)
            go_ret
            exact ⟨rfl, HZ.out.2.1.trans (hb11.mono HZ.out.2.1.size)⟩
          · have hmlb : ((ml : Int) == 0) = false := by rw [beq_eq_false_iff_ne]; omega
            obtain ⟨b0, rest, es⟩ : ∃ b0 rest, sl = b0 :: rest := by
              cases hs : sl with
              | nil => have := H3.out.2.2.2.2.2.1; rw [hs] at this; simp at this; omega
              | cons b0 rest => exact ⟨b0, rest, rfl⟩
            have hfir := fir0 (run_begins HR.out.1 rfl b0.toNat (toN rest) (by rw [es]; rfl))
            obtain ⟨z0, ez0⟩ : ∃ z, b0.toNat = z := ⟨_, rfl⟩
            rw [ez0] at hfir
            have hz256 : z0 < 256 := by rw [← ez0]; exact UInt8.toNat_lt _
            have hlt := (HL.out.2 z0 hz256).2 hfir
            obtain ⟨bC, oC, rfl, hbC, hcC⟩ := H3.out.2.2.2.2.2.2.at_ (k := 0) (by rw [es]; simp)
            have e0 : (sl[0]'(by rw [es]; simp)).toNat = z0 := by simp only [es, List.getElem_cons_zero]; exact ez0
            rw [e0, Nat.add_zero] at hcC
            have k0 : w9.cell? ⟨bC, oC, none⟩ = some (.int .u8 (z0 : Int)) := (HZ.out.2.1.cell (p := ⟨bC, oC, none⟩) hbC).trans hcC
            have k1 : w9.cell? ⟨g9, z0, none⟩ = some (.bool true) := by
              rw [HZ.out.1.cell]
              have h9 : z0 < l.length := by rw [HL.out.1]; exact hz256
              rw [List.getD_eq_getElem?_getD, List.getElem?_eq_getElem h9] at hlt
              have hlt' : l[z0] = true := hlt
              simp [h9, hlt']
            have hz0i : (0 : Int) ≤ (z0 : Int) := by omega
            have hz1i : (z0 : Int) < 256 := by omega
            have hml1 : (0 : Int) < (ml : Int) := by omega
            clear hcC e0 hlt hfir es ez0
            go_wp2_with (first
              | (go_at_call 6; refine (gmAwake _ HZ.out.2.2).mono ?_; rintro e w11 ⟨rfl, hb11⟩)
              | fail)
            go_ret
            exact ⟨rfl, HZ.out.2.1.trans (hb11.mono HZ.out.2.1.size)⟩
        · have hr4b : ((r4 : Int) != 1) = true := by rw [bne_iff_ne]; omega
          go_wp2_with (first
            | (go_at_call 6; refine (gmAwake _ HZ.out.2.2).mono ?_; rintro e w11 ⟨rfl, hb11⟩)
            | fail)
          go_ret
          exact ⟨rfl, HZ.out.2.1.trans (hb11.mono HZ.out.2.1.size)⟩
    · go_wp2_with (first
        | (with_reducible refine st_load 25 ?_; refine stopped ?_)
        | fail)
      refine go_on ?_
      refine wpList_load_at rfl 25 (.tmp 2) rfl w.heap.size 0 rfl #[.int .i64 G.k, .slice A n c] _ (Blk.cells H6.out.1) Tryd.underlying25 rfl gm_size ?_
      simp only [Act.put, List.setIfInBounds_toArray, List.set_cons_zero, List.set_cons_succ]
      go_wp2_with (first
        | (go_at_call 13; refine stopped ?_)
        | fail)
      refine go_on ?_
      refine HF.out.mono ?_
      rintro e w7 ⟨l, hl, rfl, hfl, hb7⟩
      have hfl' := hfl HR.out.2.2.1
      have hb67 := H6.out.2.2.1.trans (hb7.mono H6.out.2.2.1.size)
      dsimp only
      go_wp2_with (first
        | (with_reducible refine st_alloc 39 ?_; refine stopped ?_)
        | fail)
      refine go_on ?_
      refine wpList_alloc rfl 39 rfl zb.toArray zb_zero ?_
      intro w8 hb8 hw8 hz8
      have hb68 := hb67.trans (hw8.mono hb67.size)
      have hg9 : w.heap.size ≤ w7.heap.size := hb67.size
      obtain ⟨g9, eg9⟩ : ∃ z, w7.heap.size = z := ⟨_, rfl⟩
      rw [eg9] at hb8 hg9
      simp only [Act.put, List.setIfInBounds_toArray, List.set_cons_zero, List.set_cons_succ]
      rw [eg9]
      go_wp2_with (first
        | (with_reducible refine st_store 39 ?_; refine stopped ?_)
        | fail)
      refine go_on ?_
      refine wpList_store_whole rfl 39 (.tmp 9) (.tmp 47) rfl g9 (l.map .bool) rfl rfl 39 zb hb8 (by rw [List.length_map, hl]; exact zb_size) (by rw [List.length_map, hl]; rfl) (bools_one l) ?_
      intro w9 hb9 hg9'
      have hw9 : Below w.heap.size w w9 := hb68.grown hg9' hb68.size (fun j e => by cases e; exact hg9)
      have HZ := Lib.hid (And.intro hb9 (And.intro hw9 (H.out.2.2.2.2.2.1.below hw9)))
      have HL := Lib.hid (And.intro hl hfl')
      clear hb7 hb67 hb8 hw8 hz8 hb68 hb9 hg9' hw9 hfl hfl' hl eg9
      simp only [Act.put, List.setIfInBounds_toArray, List.set_cons_zero, List.set_cons_succ]
      refine wpList_nil ?_
      by_cases hr41 : r4 = 1
      · subst hr41
        by_cases hml0 : ml = 0
        · have hmlb : ((ml : Int) == 0) = true := by rw [hml0]; rfl
          go_wp2_with (first
            | (go_at_call 6; refine (gmAwake _ HZ.out.2.2).mono ?_; rintro e w11 ⟨rfl, hb11⟩)
            | fail)
          go_ret
          exact ⟨rfl, HZ.out.2.1.trans (hb11.mono HZ.out.2.1.size)⟩
        · have hmlb : ((ml : Int) == 0) = false := by rw [beq_eq_false_iff_ne]; omega
          obtain ⟨b0, rest, es⟩ : ∃ b0 rest, sl = b0 :: rest := by
            cases hs : sl with
            | nil => have := H3.out.2.2.2.2.2.1; rw [hs] at this; simp at this; omega
            | cons b0 rest => exact ⟨b0, rest, rfl⟩
          have hfir := fir0 (run_begins HR.out.1 rfl b0.toNat (toN rest) (by rw [es]; rfl))
          obtain ⟨z0, ez0⟩ : ∃ z, b0.toNat = z := ⟨_, rfl⟩
          rw [ez0] at hfir
          have hz256 : z0 < 256 := by rw [← ez0]; exact UInt8.toNat_lt _
          have hlt := (HL.out.2 z0 hz256).2 hfir
          obtain ⟨bC, oC, rfl, hbC, hcC⟩ := H3.out.2.2.2.2.2.2.at_ (k := 0) (by rw [es]; simp)
          have e0 : (sl[0]'(by rw [es]; simp)).toNat = z0 := by simp only [es, List.getElem_cons_zero]; exact ez0
          rw [e0, Nat.add_zero] at hcC
          have k0 : w9.cell? ⟨bC, oC, none⟩ = some (.int .u8 (z0 : Int)) := (HZ.out.2.1.cell (p := ⟨bC, oC, none⟩) hbC).trans hcC
          have k1 : w9.cell? ⟨g9, z0, none⟩ = some (.bool true) := by
            rw [HZ.out.1.cell]
            have h9 : z0 < l.length := by rw [HL.out.1]; exact hz256
            rw [List.getD_eq_getElem?_getD, List.getElem?_eq_getElem h9] at hlt
            have hlt' : l[z0] = true := hlt
            simp [h9, hlt']
          have hz0i : (0 : Int) ≤ (z0 : Int) := by omega
          have hz1i : (z0 : Int) < 256 := by omega
          have hml1 : (0 : Int) < (ml : Int) := by omega
          clear hcC e0 hlt hfir es ez0
          go_wp2_with (first
            | (go_at_call 6; refine (gmAwake _ HZ.out.2.2).mono ?_; rintro e w11 ⟨rfl, hb11⟩)
            | fail)
          go_ret
          exact ⟨rfl, HZ.out.2.1.trans (hb11.mono HZ.out.2.1.size)⟩
      · have hr4b : ((r4 : Int) != 1) = true := by rw [bne_iff_ne]; omega
        go_wp2_with (first
          | (go_at_call 6; refine (gmAwake _ HZ.out.2.2).mono ?_; rintro e w11 ⟨rfl, hb11⟩)
          | fail)
        go_ret
        exact ⟨rfl, HZ.out.2.1.trans (hb11.mono HZ.out.2.1.size)⟩
  · have h4 : q4 = 3 ∧ r4 = 0 := by
      rcases hrq4 with ⟨h1, _⟩ | ⟨_, h1, h2⟩
      · exact absurd h1 hfit
      · exact ⟨h1, h2⟩
    have h5 : q5 = 3 := by
      rcases hrq5 with ⟨h1, _⟩ | ⟨_, h1, _⟩
      · exact absurd h1 hfit
      · exact h1
    obtain ⟨rfl, rfl⟩ := h4
    obtain rfl := h5
    clear hrq4 hrq5 hfit
    go_wp2_with (first
      | (go_at_call 6; refine (gmAwake _ H5.out.2.2.2).mono ?_; rintro e w7 ⟨rfl, hb7⟩)
      | fail)
    go_ret
    exact ⟨rfl, H5.out.2.2.1.trans (hb7.mono H5.out.2.2.1.size)⟩
end Go.Proofs.YthfbmihpdkkcjaaDoor
