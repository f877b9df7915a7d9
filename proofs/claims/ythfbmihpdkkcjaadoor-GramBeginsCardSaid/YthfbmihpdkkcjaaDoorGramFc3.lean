/-
  Package gram's function after, by its contract. Conditions: the theorem's own premises.
-/
import Derived.Test.YthfbmihpdkkcjaaDoorGramFc2
namespace Go.Proofs.YthfbmihpdkkcjaaDoor
open Go.RowKit

theorem form_size : (Tryd.prog.info? 46).map (·.size) = some 2 := by kernel_rfl
def formV (X : Int) (A : Option Addr) (n cp : Nat) : List Value := [.int .i64 X, .slice A n cp]
theorem svs_drop : ∀ (l : List Sg) (k : Nat), svs (l.drop k) = (svs l).drop (k * 3)
  | l, 0 => by simp
  | [], k + 1 => by simp [svs]
  | s :: r, k + 1 => by
    rw [List.drop_succ_cons, svs_drop r k, svs, show (k + 1) * 3 = s.cells.length + k * 3 by simp [Sg.cells]; omega, ← List.drop_drop, List.drop_left]
theorem vs_drop {w : World} {B b o : Nat} {vs : List Value} (h : Vs w B (some ⟨b, o, none⟩) vs) (k : Nat) : Vs w B (some ⟨b, o + k, none⟩) (vs.drop k) := fun hn => by
  have hl : 0 < vs.length := by rw [List.length_drop] at hn; omega
  obtain ⟨b', o', e, hb, hc⟩ := h hl
  simp only [Option.some.injEq, Addr.mk.injEq, and_true] at e
  obtain ⟨rfl, rfl⟩ := e
  refine ⟨b, o + k, rfl, hb, fun j v hj => ?_⟩
  rw [List.getElem?_drop] at hj
  rw [Nat.add_assoc]
  exact hc _ _ hj
/-- after on its way -/
structure AfAt (w W : World) (g8 : Nat) (acc : S4) (fv : List Value) : Prop where
  s : SetAt W g8 acc
  fr : Blk W w.heap.size 46 fv.toArray
  r : SetAt W (w.heap.size + 1) S4.z
  lt : w.heap.size + 1 < g8
  bel : Below w.heap.size w W
  ok : acc.Ok
theorem AfAt.below {w W W' : World} {g8 : Nat} {acc : S4} {fv : List Value} (h : AfAt w W g8 acc fv) (hb : Below W.heap.size W W') : AfAt w W' g8 acc fv :=
  ⟨h.s.below hb, h.fr.below hb h.fr.lt, h.r.below hb, h.lt, h.bel.trans (hb.mono h.bel.size), h.ok⟩
set_option maxRecDepth 100000 in
set_option maxHeartbeats 4000000 in
set_option linter.unusedSimpArgs false in
theorem gfAfter (w : World) (g : Nat) (F : Fc) (hF : F.Ok) (hf : FcAt w g F) (b o : Nat) (l : List Sg) (n cp : Nat) (hA : Vs w w.heap.size (some ⟨b, o, none⟩) (svs l)) (hl : l.length = n) (hb : BodyOk l) (X p : Nat) (hX : X < 16) (hp : p < n) (hcp : n ≤ cp) : Calls Tryd.prog 44 #[.pointer (some ⟨g, 0, none⟩), .agg (formV X (some ⟨b, o, none⟩) n cp).toArray, .int .i64 (p : Int)] w (SetPost w (F.aft X (l.drop (p + 1)))) := by
  have hg : g < w.heap.size := Blk.lt hf
  have hn9 : n ≤ 9 := by rw [← hl]; exact hb.len
  have H := Lib.hid (And.intro hf (And.intro hA (And.intro hl (And.intro hb hF))))
  clear hf hA hl hb
  obtain ⟨U, eU⟩ : ∃ U, F.aft X (l.drop (p + 1)) = U := ⟨_, rfl⟩
  have hUok : U.Ok := by rw [← eU]; exact Fc.aft_ok H.out.2.2.2.2 _ _
  rw [eU]
  unfold Fc.aft at eU
  rw [Int.toNat_natCast] at eU
  have HU := Lib.hid eU
  clear eU
  obtain ⟨fv, efv⟩ : ∃ fv, formV X (some ⟨b, o, none⟩) n cp = fv := ⟨_, rfl⟩
  rw [efv]
  go_enter Tryd.func44, Tryd.ntmps44
  go_wp2_with (first
    | (refine wpList_box rfl 46 (.tmp 1) rfl fv.toArray rfl ?_; intro w1 hb1 hw1 hz1)
    | (refine wpList_alloc (o := ⟨some 6, _, _, _, _, _⟩) rfl 56 rfl _ set_zero ?_; intro w2 hb2 hw2 hz2; refine stopped ?_)
    | fail)
  refine go_on ?_
  rw [hz1] at hb2
  have hbel2 : Below w.heap.size w w2 := hw1.trans (hw2.mono (by omega))
  have hfr2 := hb1.below hw2 hb1.lt
  have hz2' : w2.heap.size = w.heap.size + 2 := by omega
  rw [← efv] at hfr2
  have c1 : w2.cell? ⟨w.heap.size, 1, none⟩ = some (.slice (some ⟨b, o, none⟩) n cp) := Blk.cell hfr2 1
  have hp0 : (0 : Int) ≤ (p : Int) := by omega
  have hpn : (p : Int) + 1 ≤ (n : Int) := by omega
  have hncp : (n : Int) ≤ (cp : Int) := by omega
  have hps : (p : Int) < 1000 := by omega
  obtain ⟨p1, ep1⟩ : ∃ p1, p + 1 = p1 := ⟨_, rfl⟩
  have ep1i : (p : Int) + 1 = (p1 : Int) := by omega
  have hb2' : SetAt w2 (w.heap.size + 1) S4.z := hb2
  by_cases hcc : cp = p1
  · subst hcc
    have hnil : l.drop cp = [] := List.drop_eq_nil_of_le (by rw [H.out.2.2.1]; omega)
    have hvd : Vs w w.heap.size (some ⟨b, o, none⟩) (svs (l.drop cp)) := by rw [hnil]; exact fun h => by simp [svs] at h
    have hst := gfStart w2 g F H.out.2.2.2.2 (FcAt.below H.out.1 hbel2 hg) (some ⟨b, o, none⟩) (l.drop cp) 0 0 ((hvd.below hbel2).more (by omega)) (by rw [hnil]; rfl) (H.out.2.2.2.1.drop _)
    have HC1 := Lib.hid (And.intro hst (And.intro hbel2 (And.intro hfr2 (And.intro hb2' hvd))))
    clear hst hvd hfr2 hb1 hw1 hz1 hb2 hw2 hb2' hnil
    go_wp2_with (first
      | (go_at_call 43; refine stopped ?_)
      | fail)
    refine go_on ?_
    refine HC1.out.1.mono ?_
    rintro e w3 ⟨rfl, hb3⟩
    have hz3 := hb3.size
    obtain ⟨V, eV⟩ : ∃ V, F.stL S4.z (l.drop (p + 1)) = V := ⟨_, rfl⟩
    have hV : V.Ok := by rw [← eV]; exact Fc.stL_ok H.out.2.2.2.2 _ _ S4.z_ok
    rw [ep1] at eV
    rw [eV]
    go_wp2_with (first
      | (refine wpList_alloc (o := ⟨some 8, _, _, _, _, _⟩) rfl 56 rfl _ set_zero ?_; intro w4 hb4 hw4 hz4)
      | (with_reducible refine st_store 56 ?_; refine stopped ?_)
      | fail)
    refine go_on ?_
    obtain ⟨g8, eg8⟩ : ∃ g8, w3.heap.size = g8 := ⟨_, rfl⟩
    rw [eg8] at hb4 ⊢
    refine wpList_store_whole rfl 56 (.tmp 8) (.tmp 16) rfl g8 V.cells rfl rfl 56 S4.z.cells hb4 set_size rfl (set_one _) ?_
    intro w5 hb5 hg5
    refine wpList_nil ?_
    simp only [Act.put, List.setIfInBounds_toArray, List.set_cons_zero, List.set_cons_succ]
    have hbel4 : Below w.heap.size w w4 := (HC1.out.2.1.trans (hb3.mono (by omega))).trans (hw4.mono (by omega))
    have hst5 : AfAt w w5 g8 V (formV X (some ⟨b, o, none⟩) n cp) := ⟨hb5, Blk.grown (Blk.below (Blk.below HC1.out.2.2.1 hb3 HC1.out.2.2.1.lt) hw4 (by omega)) hg5 (some_neq (by omega)), Blk.grown (Blk.below (Blk.below HC1.out.2.2.2.1 hb3 (by omega)) hw4 (by omega)) hg5 (some_neq (by omega)), by omega, hbel4.grown hg5 hbel4.size (fun j e => by cases e; omega), hV⟩
    have H5 := Lib.hid hst5
    clear hb3 hz3 hb4 hw4 hz4 hbel4 hb5 hg5 hst5
    have hvn := gfVanishes w5 g F H.out.2.2.2.2 (FcAt.below H.out.1 H5.out.bel hg) (some ⟨b, o, none⟩) (l.drop cp) 0 0 ((HC1.out.2.2.2.2.below H5.out.bel).more H5.out.bel.size) (by rw [List.length_drop, H.out.2.2.1]; omega) (H.out.2.2.2.1.drop _)
    have HVN := Lib.hid hvn
    clear hvn
    go_wp2_with (first
      | (go_at_call 41; refine stopped ?_)
      | fail)
    refine go_on ?_
    refine HVN.out.mono ?_
    rintro e w7 ⟨rfl, hb7⟩
    have H7 := Lib.hid (H5.out.below hb7)
    clear hb7
    have hUx := HU.out
    rw [ep1, eV] at hUx
    obtain ⟨tv, etv⟩ : ∃ tv, F.vanL (l.drop cp) = tv := ⟨_, rfl⟩
    rw [etv] at hUx ⊢
    have kx : w7.cell? ⟨w.heap.size, 0, none⟩ = some (.int .i64 (X : Int)) := Blk.cell H7.out.fr 0
    have hX0 : (0 : Int) ≤ (X : Int) := by omega
    have hX16 : (X : Int) < 16 := by omega
    have HC := Lib.hid (fun (W : World) (h : Below w.heap.size w W) (i : Nat) (hi : i < 82) (oo : Nat) (ho : oo = 4 * i) => FcAt.cs (FcAt.below H.out.1 h hg) H.out.2.2.2.2 hi ho)
    cases tv
    · have hVU : V = U := hUx
      have hst7 : AfAt w w7 g8 U (formV X (some ⟨b, o, none⟩) n cp) := by rw [← hVU]; exact H7.out
      clear hUx
      go_wp2_with (first
        | (with_reducible refine st_load 56 ?_; refine stopped ?_)
        | fail)
      refine go_on ?_
      refine wpList_load_at rfl 56 (.tmp 8) rfl g8 0 rfl (U).cells.toArray _ (Blk.cells hst7.s) Tryd.underlying56 rfl set_size ?_
      simp only [Act.put, List.setIfInBounds_toArray, List.set_cons_zero, List.set_cons_succ]
      refine wpList_store_whole rfl 56 (.tmp 6) (.tmp 29) rfl (w.heap.size + 1) (U).cells rfl rfl 56 S4.z.cells hst7.r set_size rfl (set_one _) ?_
      intro w18 hb18 hg18
      refine wpList_nil ?_
      simp only [Act.put, List.setIfInBounds_toArray, List.set_cons_zero, List.set_cons_succ]
      go_wp2_with fail
      refine bodyPost_row rfl (w.heap.size + 1) rfl 56 _ _ hb18 Tryd.underlying56 rfl set_size rfl ⟨rfl, hst7.bel.grown hg18 hst7.bel.size (fun j e => by cases e; omega)⟩
    · have HUx : V.or (F.at (18 + X)) = U := hUx
      clear hUx
      go_wp2_with fail
      have hS0 : (fun W : World => Cells W g (72 + X * 4) (F.at (18 + X)).cells.toArray ∧ W.cell? ⟨w.heap.size, 0, none⟩ = some (.int .i64 (X : Int))) w7.drew := ⟨HC.out _ H7.out.bel.drew (18 + X) (by omega) _ (by omega), kx⟩
      refine wp_region_held_drew (S := fun W : World => Cells W g (72 + X * 4) (F.at (18 + X)).cells.toArray ∧ W.cell? ⟨w.heap.size, 0, none⟩ = some (.int .i64 (X : Int))) (by kernel_rfl) hS0 (fun hHeld => ?_)
      refine wpAnyH_take (i := 1) (v := ?_) (List.getElem?_toArray.trans (List.getElem?_cons_succ.trans (List.getElem?_cons_zero))) (by kernel_rfl) (by kernel_rfl) (by kernel_rfl) (fun _ _ _ h => h) (Or.inl ⟨by rfl, ?_⟩) (by assumption) ?_
      rotate_left
      · intro w' hSw; (try dsimp only at hSw); go_simp; try with_reducible rfl
      try simp only [Act.put, List.setIfInBounds_toArray, List.set_cons_zero, List.set_cons_succ]
      refine wpAnyH_take (i := 2) (v := ?_) (List.getElem?_toArray.trans (List.getElem?_cons_succ.trans (List.getElem?_cons_succ.trans (List.getElem?_cons_zero)))) (by kernel_rfl) (by kernel_rfl) (by kernel_rfl) (fun _ _ _ h => h) (Or.inl ⟨by rfl, ?_⟩) (by assumption) ?_
      rotate_left
      · intro w' hSw; (try dsimp only at hSw); go_simp; try with_reducible rfl
      try simp only [Act.put, List.setIfInBounds_toArray, List.set_cons_zero, List.set_cons_succ]
      refine wpAnyH_take (i := 3) (v := ?_) (List.getElem?_toArray.trans (List.getElem?_cons_succ.trans (List.getElem?_cons_succ.trans (List.getElem?_cons_succ.trans (List.getElem?_cons_zero))))) (by kernel_rfl) (by kernel_rfl) (by kernel_rfl) (fun _ _ _ h => h) (Or.inl ⟨by rfl, ?_⟩) (by assumption) ?_
      rotate_left
      · intro w' hSw; (try dsimp only at hSw); go_simp; try with_reducible rfl
      try simp only [Act.put, List.setIfInBounds_toArray, List.set_cons_zero, List.set_cons_succ]
      refine wpAnyH_take (i := 4) (v := ?_) (List.getElem?_toArray.trans (List.getElem?_cons_succ.trans (List.getElem?_cons_succ.trans (List.getElem?_cons_succ.trans (List.getElem?_cons_succ.trans (List.getElem?_cons_zero)))))) (by kernel_rfl) (by kernel_rfl) (by kernel_rfl) (fun _ _ _ h => h) (Or.inl ⟨by rfl, ?_⟩) (by assumption) ?_
      rotate_left
      · intro w' hSw; (try dsimp only at hSw); go_simp; try with_reducible rfl
      try simp only [Act.put, List.setIfInBounds_toArray, List.set_cons_zero, List.set_cons_succ]
      refine wpAnyH_take (i := 5) (v := ?_) (List.getElem?_toArray.trans (List.getElem?_cons_succ.trans (List.getElem?_cons_succ.trans (List.getElem?_cons_succ.trans (List.getElem?_cons_succ.trans (List.getElem?_cons_succ.trans (List.getElem?_cons_zero))))))) (by kernel_rfl) (by kernel_rfl) (by kernel_rfl) (fun _ _ _ h => h) (Or.inl ⟨by rfl, ?_⟩) (by assumption) ?_
      rotate_left
      · intro w' hSw; (try dsimp only at hSw); go_simp; try with_reducible rfl
      try simp only [Act.put, List.setIfInBounds_toArray, List.set_cons_zero, List.set_cons_succ]
      refine wpAnyH_take (i := 6) (v := ?_) (List.getElem?_toArray.trans (List.getElem?_cons_succ.trans (List.getElem?_cons_succ.trans (List.getElem?_cons_succ.trans (List.getElem?_cons_succ.trans (List.getElem?_cons_succ.trans (List.getElem?_cons_succ.trans (List.getElem?_cons_zero)))))))) (by kernel_rfl) (by kernel_rfl) (by kernel_rfl) (fun _ _ _ h => h) (Or.inl ⟨by rfl, ?_⟩) (by assumption) ?_
      rotate_left
      · intro w' hSw; (try dsimp only at hSw); go_simp; try with_reducible rfl
      try simp only [Act.put, List.setIfInBounds_toArray, List.set_cons_zero, List.set_cons_succ]
      refine wpAnyH_take (i := 7) (v := .agg (F.at (18 + X)).cells.toArray) (List.getElem?_toArray.trans (List.getElem?_cons_succ.trans (List.getElem?_cons_succ.trans (List.getElem?_cons_succ.trans (List.getElem?_cons_succ.trans (List.getElem?_cons_succ.trans (List.getElem?_cons_succ.trans (List.getElem?_cons_succ.trans (List.getElem?_cons_zero))))))))) (by kernel_rfl) (by kernel_rfl) (by kernel_rfl) (fun _ _ _ h => h) (Or.inl ⟨by rfl, ?_⟩) (by assumption) ?_
      · intro w' hSw; exact exec_load_ag 56 (.tmp 26) rfl g (72 + X * 4) rfl (F.at (18 + X)).cells.toArray _ (hSw.1) Tryd.underlying56 rfl set_size
      try simp only [Act.put, List.setIfInBounds_toArray, List.set_cons_zero, List.set_cons_succ]
      refine wpAnyH_ready (rs := [0]) (by kernel_rfl) (by simp) ?_
      refine AllReadyH.cons (List.getElem?_toArray.trans (List.getElem?_cons_zero)) (fun K hK => ?_) AllReadyH.nil
      refine wp_load_ag 56 (.tmp 8) rfl g8 0 rfl V.cells.toArray _ (Blk.cells H7.out.s.drew) Tryd.underlying56 rfl set_size ?_
      refine hK.out _ _ hHeld (fun hHeld => ?_)
      clear hK K
      try simp only [Act.put, List.setIfInBounds_toArray, List.set_cons_zero, List.set_cons_succ]
      refine wpAnyH_ready (rs := [8]) (by kernel_rfl) (by simp) ?_
      refine AllReadyH.cons (List.getElem?_toArray.trans (List.getElem?_cons_succ.trans (List.getElem?_cons_succ.trans (List.getElem?_cons_succ.trans (List.getElem?_cons_succ.trans (List.getElem?_cons_succ.trans (List.getElem?_cons_succ.trans (List.getElem?_cons_succ.trans (List.getElem?_cons_succ.trans (List.getElem?_cons_zero)))))))))) (fun K hK => ?_) AllReadyH.nil
      go_simp
      go_at_call 38
      refine (gsUnion V (F.at (18 + X)) H7.out.ok (H.out.2.2.2.2.at _) _).mono ?_
      rintro e w11 ⟨rfl, hb11⟩
      have hst11 := H7.out.below (below_undr hb11)
      rw [HUx]
      refine hK.out _ _ ⟨HC.out _ hst11.bel (18 + X) (by omega) _ (by omega), Blk.cell hst11.fr 0⟩ (fun hHeld => ?_)
      clear hK K
      try simp only [Act.put, List.setIfInBounds_toArray, List.set_cons_zero, List.set_cons_succ]
      refine wpAnyH_ready (rs := [9]) (by kernel_rfl) (by simp) ?_
      refine AllReadyH.cons (List.getElem?_toArray.trans (List.getElem?_cons_succ.trans (List.getElem?_cons_succ.trans (List.getElem?_cons_succ.trans (List.getElem?_cons_succ.trans (List.getElem?_cons_succ.trans (List.getElem?_cons_succ.trans (List.getElem?_cons_succ.trans (List.getElem?_cons_succ.trans (List.getElem?_cons_succ.trans (List.getElem?_cons_zero))))))))))) (fun K hK => ?_) AllReadyH.nil
      refine wp_store_ag 56 (.tmp 8) (.tmp 28) rfl g8 0 U.cells rfl rfl 56 V.cells hst11.s set_size (by show 0 + 4 ≤ 4; decide) (set_one _) ?_
      intro w12 hb12 hg12
      have hbw12 : Below w.heap.size w w12 := hst11.bel.grown hg12 hst11.bel.size (fun j e => by cases e; have := hst11.lt; omega)
      have hfr12 := Blk.grown hst11.fr hg12 (some_neq (by have := hst11.lt; omega))
      refine hK.out _ _ ⟨HC.out _ hbw12 (18 + X) (by omega) _ (by omega), Blk.cell hfr12 0⟩ (fun hHeld => ?_)
      clear hK K
      try simp only [Act.put, List.setIfInBounds_toArray, List.set_cons_zero, List.set_cons_succ]
      refine wpAnyH_done (by kernel_rfl) ?_ _
      rw [splice_whole V.cells U.cells rfl] at hb12
      have hst12 : AfAt w w12 g8 U (formV X (some ⟨b, o, none⟩) n cp) := ⟨hb12, hfr12, Blk.grown hst11.r hg12 (some_neq (by have := hst11.lt; omega)), hst11.lt, hbw12, hUok⟩
      go_wp2_with (first
        | (with_reducible refine st_load 56 ?_; refine stopped ?_)
        | fail)
      refine go_on ?_
      refine wpList_load_at rfl 56 (.tmp 8) rfl g8 0 rfl (U).cells.toArray _ (Blk.cells hst12.s) Tryd.underlying56 rfl set_size ?_
      simp only [Act.put, List.setIfInBounds_toArray, List.set_cons_zero, List.set_cons_succ]
      refine wpList_store_whole rfl 56 (.tmp 6) (.tmp 29) rfl (w.heap.size + 1) (U).cells rfl rfl 56 S4.z.cells hst12.r set_size rfl (set_one _) ?_
      intro w18 hb18 hg18
      refine wpList_nil ?_
      simp only [Act.put, List.setIfInBounds_toArray, List.set_cons_zero, List.set_cons_succ]
      go_wp2_with fail
      refine bodyPost_row rfl (w.heap.size + 1) rfl 56 _ _ hb18 Tryd.underlying56 rfl set_size rfl ⟨rfl, hst12.bel.grown hg18 hst12.bel.size (fun j e => by cases e; omega)⟩
  · have hvd : Vs w w.heap.size (some ⟨b, o + p1 * 3, none⟩) (svs (l.drop p1)) := by rw [svs_drop]; exact vs_drop H.out.2.1 _
    have hst := gfStart w2 g F H.out.2.2.2.2 (FcAt.below H.out.1 hbel2 hg) (some ⟨b, o + p1 * 3, none⟩) (l.drop p1) (n - p1) (cp - p1) ((hvd.below hbel2).more (by omega)) (by rw [List.length_drop, H.out.2.2.1]) (H.out.2.2.2.1.drop _)
    have HC1 := Lib.hid (And.intro hst (And.intro hbel2 (And.intro hfr2 (And.intro hb2' hvd))))
    clear hst hvd hfr2 hb1 hw1 hz1 hb2 hw2 hb2'
    go_wp2_with (first
      | (go_at_call 43; refine stopped ?_)
      | fail)
    refine go_on ?_
    refine HC1.out.1.mono ?_
    rintro e w3 ⟨rfl, hb3⟩
    have hz3 := hb3.size
    obtain ⟨V, eV⟩ : ∃ V, F.stL S4.z (l.drop (p + 1)) = V := ⟨_, rfl⟩
    have hV : V.Ok := by rw [← eV]; exact Fc.stL_ok H.out.2.2.2.2 _ _ S4.z_ok
    rw [ep1] at eV
    rw [eV]
    go_wp2_with (first
      | (refine wpList_alloc (o := ⟨some 8, _, _, _, _, _⟩) rfl 56 rfl _ set_zero ?_; intro w4 hb4 hw4 hz4)
      | (with_reducible refine st_store 56 ?_; refine stopped ?_)
      | fail)
    refine go_on ?_
    obtain ⟨g8, eg8⟩ : ∃ g8, w3.heap.size = g8 := ⟨_, rfl⟩
    rw [eg8] at hb4 ⊢
    refine wpList_store_whole rfl 56 (.tmp 8) (.tmp 16) rfl g8 V.cells rfl rfl 56 S4.z.cells hb4 set_size rfl (set_one _) ?_
    intro w5 hb5 hg5
    refine wpList_nil ?_
    simp only [Act.put, List.setIfInBounds_toArray, List.set_cons_zero, List.set_cons_succ]
    have hbel4 : Below w.heap.size w w4 := (HC1.out.2.1.trans (hb3.mono (by omega))).trans (hw4.mono (by omega))
    have hst5 : AfAt w w5 g8 V (formV X (some ⟨b, o, none⟩) n cp) := ⟨hb5, Blk.grown (Blk.below (Blk.below HC1.out.2.2.1 hb3 HC1.out.2.2.1.lt) hw4 (by omega)) hg5 (some_neq (by omega)), Blk.grown (Blk.below (Blk.below HC1.out.2.2.2.1 hb3 (by omega)) hw4 (by omega)) hg5 (some_neq (by omega)), by omega, hbel4.grown hg5 hbel4.size (fun j e => by cases e; omega), hV⟩
    have H5 := Lib.hid hst5
    clear hb3 hz3 hb4 hw4 hz4 hbel4 hb5 hg5 hst5
    have hvn := gfVanishes w5 g F H.out.2.2.2.2 (FcAt.below H.out.1 H5.out.bel hg) (some ⟨b, o + p1 * 3, none⟩) (l.drop p1) (n - p1) (cp - p1) ((HC1.out.2.2.2.2.below H5.out.bel).more H5.out.bel.size) (by rw [List.length_drop, H.out.2.2.1]) (H.out.2.2.2.1.drop _)
    have HVN := Lib.hid hvn
    clear hvn
    go_wp2_with (first
      | (go_at_call 41; refine stopped ?_)
      | fail)
    refine go_on ?_
    refine HVN.out.mono ?_
    rintro e w7 ⟨rfl, hb7⟩
    have H7 := Lib.hid (H5.out.below hb7)
    clear hb7
    have hUx := HU.out
    rw [ep1, eV] at hUx
    obtain ⟨tv, etv⟩ : ∃ tv, F.vanL (l.drop p1) = tv := ⟨_, rfl⟩
    rw [etv] at hUx ⊢
    have kx : w7.cell? ⟨w.heap.size, 0, none⟩ = some (.int .i64 (X : Int)) := Blk.cell H7.out.fr 0
    have hX0 : (0 : Int) ≤ (X : Int) := by omega
    have hX16 : (X : Int) < 16 := by omega
    have HC := Lib.hid (fun (W : World) (h : Below w.heap.size w W) (i : Nat) (hi : i < 82) (oo : Nat) (ho : oo = 4 * i) => FcAt.cs (FcAt.below H.out.1 h hg) H.out.2.2.2.2 hi ho)
    cases tv
    · have hVU : V = U := hUx
      have hst7 : AfAt w w7 g8 U (formV X (some ⟨b, o, none⟩) n cp) := by rw [← hVU]; exact H7.out
      clear hUx
      go_wp2_with (first
        | (with_reducible refine st_load 56 ?_; refine stopped ?_)
        | fail)
      refine go_on ?_
      refine wpList_load_at rfl 56 (.tmp 8) rfl g8 0 rfl (U).cells.toArray _ (Blk.cells hst7.s) Tryd.underlying56 rfl set_size ?_
      simp only [Act.put, List.setIfInBounds_toArray, List.set_cons_zero, List.set_cons_succ]
      refine wpList_store_whole rfl 56 (.tmp 6) (.tmp 29) rfl (w.heap.size + 1) (U).cells rfl rfl 56 S4.z.cells hst7.r set_size rfl (set_one _) ?_
      intro w18 hb18 hg18
      refine wpList_nil ?_
      simp only [Act.put, List.setIfInBounds_toArray, List.set_cons_zero, List.set_cons_succ]
      go_wp2_with fail
      refine bodyPost_row rfl (w.heap.size + 1) rfl 56 _ _ hb18 Tryd.underlying56 rfl set_size rfl ⟨rfl, hst7.bel.grown hg18 hst7.bel.size (fun j e => by cases e; omega)⟩
    · have HUx : V.or (F.at (18 + X)) = U := hUx
      clear hUx
      go_wp2_with fail
      have hS0 : (fun W : World => Cells W g (72 + X * 4) (F.at (18 + X)).cells.toArray ∧ W.cell? ⟨w.heap.size, 0, none⟩ = some (.int .i64 (X : Int))) w7.drew := ⟨HC.out _ H7.out.bel.drew (18 + X) (by omega) _ (by omega), kx⟩
      refine wp_region_held_drew (S := fun W : World => Cells W g (72 + X * 4) (F.at (18 + X)).cells.toArray ∧ W.cell? ⟨w.heap.size, 0, none⟩ = some (.int .i64 (X : Int))) (by kernel_rfl) hS0 (fun hHeld => ?_)
      refine wpAnyH_take (i := 1) (v := ?_) (List.getElem?_toArray.trans (List.getElem?_cons_succ.trans (List.getElem?_cons_zero))) (by kernel_rfl) (by kernel_rfl) (by kernel_rfl) (fun _ _ _ h => h) (Or.inl ⟨by rfl, ?_⟩) (by assumption) ?_
      rotate_left
      · intro w' hSw; (try dsimp only at hSw); go_simp; try with_reducible rfl
      try simp only [Act.put, List.setIfInBounds_toArray, List.set_cons_zero, List.set_cons_succ]
      refine wpAnyH_take (i := 2) (v := ?_) (List.getElem?_toArray.trans (List.getElem?_cons_succ.trans (List.getElem?_cons_succ.trans (List.getElem?_cons_zero)))) (by kernel_rfl) (by kernel_rfl) (by kernel_rfl) (fun _ _ _ h => h) (Or.inl ⟨by rfl, ?_⟩) (by assumption) ?_
      rotate_left
      · intro w' hSw; (try dsimp only at hSw); go_simp; try with_reducible rfl
      try simp only [Act.put, List.setIfInBounds_toArray, List.set_cons_zero, List.set_cons_succ]
      refine wpAnyH_take (i := 3) (v := ?_) (List.getElem?_toArray.trans (List.getElem?_cons_succ.trans (List.getElem?_cons_succ.trans (List.getElem?_cons_succ.trans (List.getElem?_cons_zero))))) (by kernel_rfl) (by kernel_rfl) (by kernel_rfl) (fun _ _ _ h => h) (Or.inl ⟨by rfl, ?_⟩) (by assumption) ?_
      rotate_left
      · intro w' hSw; (try dsimp only at hSw); go_simp; try with_reducible rfl
      try simp only [Act.put, List.setIfInBounds_toArray, List.set_cons_zero, List.set_cons_succ]
      refine wpAnyH_take (i := 4) (v := ?_) (List.getElem?_toArray.trans (List.getElem?_cons_succ.trans (List.getElem?_cons_succ.trans (List.getElem?_cons_succ.trans (List.getElem?_cons_succ.trans (List.getElem?_cons_zero)))))) (by kernel_rfl) (by kernel_rfl) (by kernel_rfl) (fun _ _ _ h => h) (Or.inl ⟨by rfl, ?_⟩) (by assumption) ?_
      rotate_left
      · intro w' hSw; (try dsimp only at hSw); go_simp; try with_reducible rfl
      try simp only [Act.put, List.setIfInBounds_toArray, List.set_cons_zero, List.set_cons_succ]
      refine wpAnyH_take (i := 5) (v := ?_) (List.getElem?_toArray.trans (List.getElem?_cons_succ.trans (List.getElem?_cons_succ.trans (List.getElem?_cons_succ.trans (List.getElem?_cons_succ.trans (List.getElem?_cons_succ.trans (List.getElem?_cons_zero))))))) (by kernel_rfl) (by kernel_rfl) (by kernel_rfl) (fun _ _ _ h => h) (Or.inl ⟨by rfl, ?_⟩) (by assumption) ?_
      rotate_left
      · intro w' hSw; (try dsimp only at hSw); go_simp; try with_reducible rfl
      try simp only [Act.put, List.setIfInBounds_toArray, List.set_cons_zero, List.set_cons_succ]
      refine wpAnyH_take (i := 6) (v := ?_) (List.getElem?_toArray.trans (List.getElem?_cons_succ.trans (List.getElem?_cons_succ.trans (List.getElem?_cons_succ.trans (List.getElem?_cons_succ.trans (List.getElem?_cons_succ.trans (List.getElem?_cons_succ.trans (List.getElem?_cons_zero)))))))) (by kernel_rfl) (by kernel_rfl) (by kernel_rfl) (fun _ _ _ h => h) (Or.inl ⟨by rfl, ?_⟩) (by assumption) ?_
      rotate_left
      · intro w' hSw; (try dsimp only at hSw); go_simp; try with_reducible rfl
      try simp only [Act.put, List.setIfInBounds_toArray, List.set_cons_zero, List.set_cons_succ]
      refine wpAnyH_take (i := 7) (v := .agg (F.at (18 + X)).cells.toArray) (List.getElem?_toArray.trans (List.getElem?_cons_succ.trans (List.getElem?_cons_succ.trans (List.getElem?_cons_succ.trans (List.getElem?_cons_succ.trans (List.getElem?_cons_succ.trans (List.getElem?_cons_succ.trans (List.getElem?_cons_succ.trans (List.getElem?_cons_zero))))))))) (by kernel_rfl) (by kernel_rfl) (by kernel_rfl) (fun _ _ _ h => h) (Or.inl ⟨by rfl, ?_⟩) (by assumption) ?_
      · intro w' hSw; exact exec_load_ag 56 (.tmp 26) rfl g (72 + X * 4) rfl (F.at (18 + X)).cells.toArray _ (hSw.1) Tryd.underlying56 rfl set_size
      try simp only [Act.put, List.setIfInBounds_toArray, List.set_cons_zero, List.set_cons_succ]
      refine wpAnyH_ready (rs := [0]) (by kernel_rfl) (by simp) ?_
      refine AllReadyH.cons (List.getElem?_toArray.trans (List.getElem?_cons_zero)) (fun K hK => ?_) AllReadyH.nil
      refine wp_load_ag 56 (.tmp 8) rfl g8 0 rfl V.cells.toArray _ (Blk.cells H7.out.s.drew) Tryd.underlying56 rfl set_size ?_
      refine hK.out _ _ hHeld (fun hHeld => ?_)
      clear hK K
      try simp only [Act.put, List.setIfInBounds_toArray, List.set_cons_zero, List.set_cons_succ]
      refine wpAnyH_ready (rs := [8]) (by kernel_rfl) (by simp) ?_
      refine AllReadyH.cons (List.getElem?_toArray.trans (List.getElem?_cons_succ.trans (List.getElem?_cons_succ.trans (List.getElem?_cons_succ.trans (List.getElem?_cons_succ.trans (List.getElem?_cons_succ.trans (List.getElem?_cons_succ.trans (List.getElem?_cons_succ.trans (List.getElem?_cons_succ.trans (List.getElem?_cons_zero)))))))))) (fun K hK => ?_) AllReadyH.nil
      go_simp
      go_at_call 38
      refine (gsUnion V (F.at (18 + X)) H7.out.ok (H.out.2.2.2.2.at _) _).mono ?_
      rintro e w11 ⟨rfl, hb11⟩
      have hst11 := H7.out.below (below_undr hb11)
      rw [HUx]
      refine hK.out _ _ ⟨HC.out _ hst11.bel (18 + X) (by omega) _ (by omega), Blk.cell hst11.fr 0⟩ (fun hHeld => ?_)
      clear hK K
      try simp only [Act.put, List.setIfInBounds_toArray, List.set_cons_zero, List.set_cons_succ]
      refine wpAnyH_ready (rs := [9]) (by kernel_rfl) (by simp) ?_
      refine AllReadyH.cons (List.getElem?_toArray.trans (List.getElem?_cons_succ.trans (List.getElem?_cons_succ.trans (List.getElem?_cons_succ.trans (List.getElem?_cons_succ.trans (List.getElem?_cons_succ.trans (List.getElem?_cons_succ.trans (List.getElem?_cons_succ.trans (List.getElem?_cons_succ.trans (List.getElem?_cons_succ.trans (List.getElem?_cons_zero))))))))))) (fun K hK => ?_) AllReadyH.nil
      refine wp_store_ag 56 (.tmp 8) (.tmp 28) rfl g8 0 U.cells rfl rfl 56 V.cells hst11.s set_size (by show 0 + 4 ≤ 4; decide) (set_one _) ?_
      intro w12 hb12 hg12
      have hbw12 : Below w.heap.size w w12 := hst11.bel.grown hg12 hst11.bel.size (fun j e => by cases e; have := hst11.lt; omega)
      have hfr12 := Blk.grown hst11.fr hg12 (some_neq (by have := hst11.lt; omega))
      refine hK.out _ _ ⟨HC.out _ hbw12 (18 + X) (by omega) _ (by omega), Blk.cell hfr12 0⟩ (fun hHeld => ?_)
      clear hK K
      try simp only [Act.put, List.setIfInBounds_toArray, List.set_cons_zero, List.set_cons_succ]
      refine wpAnyH_done (by kernel_rfl) ?_ _
      rw [splice_whole V.cells U.cells rfl] at hb12
      have hst12 : AfAt w w12 g8 U (formV X (some ⟨b, o, none⟩) n cp) := ⟨hb12, hfr12, Blk.grown hst11.r hg12 (some_neq (by have := hst11.lt; omega)), hst11.lt, hbw12, hUok⟩
      go_wp2_with (first
        | (with_reducible refine st_load 56 ?_; refine stopped ?_)
        | fail)
      refine go_on ?_
      refine wpList_load_at rfl 56 (.tmp 8) rfl g8 0 rfl (U).cells.toArray _ (Blk.cells hst12.s) Tryd.underlying56 rfl set_size ?_
      simp only [Act.put, List.setIfInBounds_toArray, List.set_cons_zero, List.set_cons_succ]
      refine wpList_store_whole rfl 56 (.tmp 6) (.tmp 29) rfl (w.heap.size + 1) (U).cells rfl rfl 56 S4.z.cells hst12.r set_size rfl (set_one _) ?_
      intro w18 hb18 hg18
      refine wpList_nil ?_
      simp only [Act.put, List.setIfInBounds_toArray, List.set_cons_zero, List.set_cons_succ]
      go_wp2_with fail
      refine bodyPost_row rfl (w.heap.size + 1) rfl 56 _ _ hb18 Tryd.underlying56 rfl set_size rfl ⟨rfl, hst12.bel.grown hg18 hst12.bel.size (fun j e => by cases e; omega)⟩
end Go.Proofs.YthfbmihpdkkcjaaDoor
