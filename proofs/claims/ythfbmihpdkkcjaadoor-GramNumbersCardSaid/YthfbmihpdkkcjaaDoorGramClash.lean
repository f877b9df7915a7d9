/-
  Package gram's clash, by its contract. Conditions: the theorem's own premises.
-/
import Derived.Test.YthfbmihpdkkcjaaDoorGramStu0
namespace Go.Proofs.YthfbmihpdkkcjaaDoor
open Go.RowKit

theorem meet_iff {s t : S4} (hs : s.Ok) (_ht : t.Ok) : s.and t ≠ S4.z ↔ ∃ c, c < 256 ∧ s.has c = true ∧ t.has c = true := by
  have hok : (s.and t).Ok := ⟨Nat.lt_of_le_of_lt Nat.and_le_left hs.a, Nat.lt_of_le_of_lt Nat.and_le_left hs.b, Nat.lt_of_le_of_lt Nat.and_le_left hs.c, Nat.lt_of_le_of_lt Nat.and_le_left hs.d⟩
  constructor
  · intro h
    apply Classical.byContradiction
    intro hn
    refine h (S4.ext_ hok S4.z_ok fun c hc => ?_)
    rw [S4.has_and, S4.has_z]
    cases h1 : s.has c with
    | false => rfl
    | true =>
      cases h2 : t.has c with
      | false => rfl
      | true => exact absurd ⟨c, hc, h1, h2⟩ hn
  · rintro ⟨c, hc, h1, h2⟩ e
    have : (s.and t).has c = true := by rw [S4.has_and, h1, h2]; rfl
    rw [e, S4.has_z] at this
    cases this
/-- what is seen of the first k forms -/
structure Seen (G : Gm) (X : Int) (k : Nat) (acc : S4) (v : Bool) : Prop where
  s : ∀ c, c < 256 → (acc.has c = true ↔ ∃ j, j < k ∧ (G.fs.getD j f0).n = X ∧ FirL G c (G.fs.getD j f0).b)
  v : v = true ↔ ∃ j, j < k ∧ (G.fs.getD j f0).n = X ∧ VanL G (G.fs.getD j f0).b
  no : ∀ i j, i < j → j < k → (G.fs.getD i f0).n = X → (G.fs.getD j f0).n = X → ¬ (VanL G (G.fs.getD i f0).b ∧ VanL G (G.fs.getD j f0).b) ∧ ∀ c, c < 256 → ¬ (FirL G c (G.fs.getD i f0).b ∧ FirL G c (G.fs.getD j f0).b)
  ok : acc.Ok
theorem Seen.zero (G : Gm) (X : Int) : Seen G X 0 S4.z false :=
  ⟨fun c _ => by rw [S4.has_z]; exact ⟨fun h => (by cases h), fun ⟨j, hj, _⟩ => by omega⟩, ⟨fun h => (by cases h), fun ⟨j, hj, _⟩ => by omega⟩, fun i j _ hj => by omega, S4.z_ok⟩
theorem lt_succ_cases {j k : Nat} (h : j < k + 1) : j < k ∨ j = k := by omega
theorem Seen.skip {G : Gm} {X : Int} {k : Nat} {acc : S4} {v : Bool} (h : Seen G X k acc v) (hn : (G.fs.getD k f0).n ≠ X) : Seen G X (k + 1) acc v := by
  refine ⟨fun c hc => (h.s c hc).trans ⟨fun ⟨j, hj, h1⟩ => ⟨j, by omega, h1⟩, fun ⟨j, hj, h1⟩ => ?_⟩, h.v.trans ⟨fun ⟨j, hj, h1⟩ => ⟨j, by omega, h1⟩, fun ⟨j, hj, h1⟩ => ?_⟩, fun i j hij hj hi1 hj1 => ?_, h.ok⟩
  · rcases lt_succ_cases hj with h2 | rfl
    · exact ⟨j, h2, h1⟩
    · exact absurd h1.1 hn
  · rcases lt_succ_cases hj with h2 | rfl
    · exact ⟨j, h2, h1⟩
    · exact absurd h1.1 hn
  · rcases lt_succ_cases hj with h2 | rfl
    · exact h.no i j hij h2 hi1 hj1
    · exact absurd hj1 hn
theorem Seen.take {G : Gm} {X : Int} {k : Nat} {acc t : S4} {v b : Bool} (h : Seen G X k acc v) (hn : (G.fs.getD k f0).n = X) (ht : t.Ok) (hl : ∀ c, c < 256 → (t.has c = true ↔ FirL G c (G.fs.getD k f0).b)) (hb : b = true ↔ VanL G (G.fs.getD k f0).b)
    (hm : ¬ ∃ c, c < 256 ∧ acc.has c = true ∧ t.has c = true) (hvb : ¬ (v = true ∧ b = true)) : Seen G X (k + 1) (acc.or t) (v || b) := by
  refine ⟨fun c hc => ?_, ?_, fun i j hij hj hi1 hj1 => ?_, S4.or_ok h.ok ht⟩
  · rw [S4.has_or, Bool.or_eq_true]
    constructor
    · rintro (h1 | h1)
      · obtain ⟨j, hj, h2⟩ := (h.s c hc).1 h1
        exact ⟨j, by omega, h2⟩
      · exact ⟨k, by omega, hn, (hl c hc).1 h1⟩
    · rintro ⟨j, hj, h1, h2⟩
      rcases lt_succ_cases hj with h3 | rfl
      · exact .inl ((h.s c hc).2 ⟨j, h3, h1, h2⟩)
      · exact .inr ((hl c hc).2 h2)
  · rw [Bool.or_eq_true]
    constructor
    · rintro (h1 | h1)
      · obtain ⟨j, hj, h2⟩ := h.v.1 h1
        exact ⟨j, by omega, h2⟩
      · exact ⟨k, by omega, hn, hb.1 h1⟩
    · rintro ⟨j, hj, h1, h2⟩
      rcases lt_succ_cases hj with h3 | rfl
      · exact .inl (h.v.2 ⟨j, h3, h1, h2⟩)
      · exact .inr (hb.2 h2)
  · rcases lt_succ_cases hj with h2 | rfl
    · exact h.no i j hij h2 hi1 hj1
    · exact ⟨fun ⟨h1, h2⟩ => hvb ⟨h.v.2 ⟨i, hij, hi1, h1⟩, hb.2 h2⟩, fun c hc ⟨h1, h2⟩ => hm ⟨c, hc, (h.s c hc).2 ⟨i, hij, hi1, h1⟩, (hl c hc).2 h2⟩⟩
theorem Seen.clash1 {G : Gm} {X : Int} {k : Nat} {acc t : S4} {v : Bool} (h : Seen G X k acc v) (hk : k < G.fs.length) (hn : (G.fs.getD k f0).n = X) (hl : ∀ c, c < 256 → (t.has c = true ↔ FirL G c (G.fs.getD k f0).b)) (hm : ∃ c, c < 256 ∧ acc.has c = true ∧ t.has c = true) : ClashG G X := by
  obtain ⟨c, hc, h1, h2⟩ := hm
  obtain ⟨j, hj, h3, h4⟩ := (h.s c hc).1 h1
  exact .inl ⟨j, k, hj, hk, h3, hn, .inr ⟨c, hc, h4, (hl c hc).1 h2⟩⟩
theorem Seen.clash2 {G : Gm} {X : Int} {k : Nat} {acc : S4} {v : Bool} (h : Seen G X k acc v) (hk : k < G.fs.length) (hn : (G.fs.getD k f0).n = X) (hv : v = true) (hb : VanL G (G.fs.getD k f0).b) : ClashG G X := by
  obtain ⟨j, hj, h3, h4⟩ := h.v.1 hv
  exact .inl ⟨j, k, hj, hk, h3, hn, .inl ⟨h4, hb⟩⟩
theorem Seen.end_ {G : Gm} {X : Int} {acc t : S4} {v : Bool} (h : Seen G X G.fs.length acc v) (ht : ∀ c, c < 256 → (t.has c = true ↔ Fol G c X)) : ClashG G X ↔ (v = true ∧ ∃ c, c < 256 ∧ acc.has c = true ∧ t.has c = true) := by
  constructor
  · rintro (⟨i, j, hij, hj, h1, h2, h3⟩ | ⟨f, hf, x, hx, h1, h2, h3, c, hc, h4, h5⟩)
    · have := h.no i j hij hj h1 h2
      rcases h3 with h3 | ⟨c, hc, h3⟩
      · exact absurd h3 this.1
      · exact absurd h3 (this.2 c hc)
    · obtain ⟨i, hi, rfl⟩ := mem_getD hf
      obtain ⟨j, hj, rfl⟩ := mem_getD hx
      exact ⟨h.v.2 ⟨i, hi, h1, h3⟩, c, hc, (h.s c hc).2 ⟨j, hj, h2, h4⟩, (ht c hc).2 h5⟩
  · rintro ⟨hv, c, hc, h1, h2⟩
    obtain ⟨i, hi, h3, h4⟩ := h.v.1 hv
    obtain ⟨j, hj, h5, h6⟩ := (h.s c hc).1 h1
    exact .inr ⟨_, getD_mem hi, _, getD_mem hj, h3, h5, h4, c, hc, h6, (ht c hc).1 h2⟩
def ClashPost (w : World) (G : Gm) (X : Int) (e : Ending) (w' : World) : Prop := ∃ b, e = .returned (.bool b) ∧ Below w.heap.size w w' ∧ (b = true ↔ ClashG G X)
set_option maxRecDepth 100000 in
set_option maxHeartbeats 4000000 in
set_option linter.unusedSimpArgs false in
theorem gfClash (w : World) (g : Nat) (F : Fc) (hF : F.Ok) (hf : FcAt w g F) (G : Gm) (hk : Know G F) (hG : GrOk G) (A : Option Addr) (L : List FmV) (n c : Nat) (hA : GmAt w w.heap.size A L G) (hn : L.length = n) (X : Nat) (hX : X < 16) : Calls Tryd.prog 30 #[.pointer (some ⟨g, 0, none⟩), .slice A n c, .int .i64 (X : Int)] w (ClashPost w G (X : Int)) := by
  have hg : g < w.heap.size := Blk.lt hf
  have hnl : G.fs.length = n := by rw [hA.len, hn]
  have hn48 : n ≤ 48 := by rw [← hnl]; exact hG.n
  have H := Lib.hid (And.intro hf (And.intro True.intro (And.intro True.intro (And.intro True.intro hF))))
  have HG := Lib.hid (And.intro hA (And.intro hn (And.intro hnl hG)))
  have HK := Lib.hid hk
  have HC := Lib.hid (fun (W : World) (h : Below w.heap.size w W) (i : Nat) (hi : i < 82) (oo : Nat) (ho : oo = 4 * i) => FcAt.cs (FcAt.below hf h hg) hF hi ho)
  clear hf hA hn hnl hG hk
  have hX0 : (0 : Int) ≤ (X : Int) := by omega
  have hX16i : (X : Int) < 16 := by omega
  go_enter Tryd.func30, Tryd.ntmps30
  go_wp2_with (first
    | (refine wpList_alloc (o := ⟨some 7, _, _, _, _, _⟩) rfl 56 rfl _ set_zero ?_; intro w1 hb1 hw1 hz1)
    | fail)
  have H1 := Lib.hid (And.intro (show SetAt w1 w.heap.size S4.z from hb1) hw1)
  clear hb1 hw1 hz1
  go_loopw [8, 13] (fun s8 u wz => ∃ (i : Nat) (v : Bool) (acc : S4), i ≤ n ∧ s8 = .bool v ∧ u = .int .i64 (i : Int) ∧ (SetAt wz w.heap.size acc ∧ Below w.heap.size w wz) ∧ Seen G (X : Int) i acc v) (fun _ u _ => n - (intOf u).toNat)
  case atStart => exact ⟨0, false, S4.z, by omega, rfl, rfl, H1.out, Seen.zero _ _⟩
  case round =>
    obtain ⟨i, v, acc, hin, rfl, rfl, hst, hse⟩ := hrel
    by_cases hlt : i < n
    · have HI := Lib.hid (And.intro hst hse)
      have hbel := hst.2
      clear hst hse
      have hki : (i : Int) < (n : Int) := by omega
      have hk0 : (0 : Int) ≤ (i : Int) := by omega
      have hi48 : (i : Int) < 48 := by omega
      have hiL : i < L.length := by rw [HG.out.2.1]; exact hlt
      obtain ⟨x, ex⟩ : ∃ x, L[i]? = some x := ⟨L[i], List.getElem?_eq_getElem hiL⟩
      obtain ⟨bf, of, rfl, hbl, hcl⟩ := fvs_form HG.out.1.vs ex
      have hxm : x ∈ L := List.mem_of_getElem? ex
      have hbody := HG.out.1.bs x hxm
      have hgx : G.fs.getD i f0 = x.f := by rw [← HG.out.1.fs, List.getD_eq_getElem?_getD, List.getElem?_map, ex]; rfl
      have hxf : x.f ∈ G.fs := by rw [← hgx]; exact getD_mem (by rw [HG.out.2.2.1]; exact hlt)
      have hbo := (HG.out.2.2.2.b x.f hxf).1
      obtain ⟨xN, eN⟩ : ∃ z, x.f.n = z := ⟨_, rfl⟩
      obtain ⟨m, em⟩ : ∃ m, x.f.b.length = m := ⟨_, rfl⟩
      obtain ⟨cp, ecp⟩ : ∃ cp, x.c = cp := ⟨_, rfl⟩
      obtain ⟨xA, exA⟩ : ∃ a, x.A = a := ⟨_, rfl⟩
      have hvs : Vs w w.heap.size xA (svs x.f.b) := exA ▸ hbody.vs
      have hcs := hcl wr hbel
      rw [eN, em, ecp, exA] at hcs
      have HX := Lib.hid (And.intro hvs (And.intro eN (And.intro em (And.intro hgx (And.intro hxf hbo)))))
      clear hcl ex hxm hbody hgx hxf hbo eN em ecp hiL hvs exA
      go_wp2_with (first
        | (with_reducible refine st_load 46 ?_; refine stopped ?_)
        | fail)
      refine go_on ?_
      refine wpList_load_at rfl 46 (.tmp 16) rfl bf (of + i * 2) rfl (formV xN xA m cp).toArray _ hcs Tryd.underlying46 rfl form_size ?_
      simp only [Act.put, List.setIfInBounds_toArray, List.set_cons_zero, List.set_cons_succ]
      refine wpList_alloc rfl 46 rfl _ form_zero ?_
      intro w8 hb8 hw8 hz8
      simp only [Act.put, List.setIfInBounds_toArray, List.set_cons_zero, List.set_cons_succ]
      go_wp2_with (first | (with_reducible refine st_store 46 ?_; refine stopped ?_) | fail)
      refine go_on ?_
      refine wpList_store_whole rfl 46 (.tmp 10) (.tmp 17) rfl wr.heap.size (formV xN xA m cp) rfl rfl 46 (formV 0 none 0 0) hb8 form_size rfl (form_one _ _ _ _) ?_
      intro w9 hx9 hg9
      refine wpList_nil ?_
      simp only [Act.put, List.setIfInBounds_toArray, List.set_cons_zero, List.set_cons_succ]
      have hb9 : Below wr.heap.size wr w9 := hw8.grown hg9 hw8.size (fun j e => by cases e; exact Nat.le_refl _)
      obtain ⟨gx, egx⟩ : ∃ gx, wr.heap.size = gx := ⟨_, rfl⟩
      have hb9w := hbel.trans (hb9.mono hbel.size)
      have hs9 := Blk.below HI.out.1.1 hb9 HI.out.1.1.lt
      rw [egx] at hx9 ⊢
      have hgxne : gx ≠ w.heap.size := Blk.apart hx9 hs9 (by decide)
      have k0 : w9.cell? ⟨gx, 0, none⟩ = some (.int .i64 xN) := Blk.cell hx9 0
      have k1 : w9.cell? ⟨gx, 1, none⟩ = some (.slice xA m cp) := Blk.cell hx9 1
      have HS := Lib.hid (fun (W : World) (h : Below w9.heap.size w9 W) => (Blk.below hs9 h hs9.lt : SetAt W w.heap.size acc))
      have H9 := Lib.hid (And.intro hs9 hx9)
      clear hb8 hw8 hz8 hg9 hb9 hs9 hx9 egx hcs
      by_cases hname : xN = (X : Int)
      · have HN := Lib.hid (show (G.fs.getD i f0).n = (X : Int) by rw [HX.out.2.2.2.1, HX.out.2.1]; exact hname)
        have HL := Lib.hid (fun (c : Nat) (hc : c < 256) => HK.out.l i c (by rw [HG.out.2.2.1]; exact hlt) hc)
        have hmi := meet_iff HI.out.2.ok (H.out.2.2.2.2.at (34 + i))
        obtain ⟨tv, etv⟩ : ∃ z, decide (acc.and (F.at (34 + i)) ≠ S4.z) = z := ⟨_, rfl⟩
        have HT := Lib.hid (And.intro hmi etv)
        clear hmi
        go_wp2_with fail
        refine wp_region_held_drew (S := fun W : World => Below w9.heap.size w9 W) (by kernel_rfl) (Below.refl _ _).drew (fun hHeld => ?_)
        refine wpAnyH_take (i := 0) (v := .agg (acc).cells.toArray) (List.getElem?_toArray.trans (List.getElem?_cons_zero)) (by kernel_rfl) (by kernel_rfl) (by kernel_rfl) (fun _ _ _ h => h) (Or.inl ⟨by rfl, ?_⟩) (by assumption) ?_
        · intro w' hSw; exact exec_load_ag 56 (.tmp 7) rfl w.heap.size (0) rfl (acc).cells.toArray _ (Blk.cells (HS.out w' hSw)) Tryd.underlying56 rfl set_size
        try simp only [Act.put, List.setIfInBounds_toArray, List.set_cons_zero, List.set_cons_succ]
        refine wpAnyH_take (i := 1) (v := ?_) (List.getElem?_toArray.trans (List.getElem?_cons_succ.trans (List.getElem?_cons_zero))) (by kernel_rfl) (by kernel_rfl) (by kernel_rfl) (fun _ _ _ h => h) (Or.inl ⟨by rfl, ?_⟩) (by assumption) ?_
        rotate_left
        · intro w' hSw; (try dsimp only at hSw); go_simp; try with_reducible rfl
        try simp only [Act.put, List.setIfInBounds_toArray, List.set_cons_zero, List.set_cons_succ]
        refine wpAnyH_take (i := 2) (v := ?_) (List.getElem?_toArray.trans (List.getElem?_cons_succ.trans (List.getElem?_cons_succ.trans (List.getElem?_cons_zero)))) (by kernel_rfl) (by kernel_rfl) (by kernel_rfl) (fun _ _ _ h => h) (Or.inl ⟨by rfl, ?_⟩) (by assumption) ?_
        rotate_left
        · intro w' hSw; (try dsimp only at hSw); go_simp; try with_reducible rfl
        try simp only [Act.put, List.setIfInBounds_toArray, List.set_cons_zero, List.set_cons_succ]
        refine wpAnyH_take (i := 3) (v := ?_) (List.getElem?_toArray.trans (List.getElem?_cons_succ.trans (List.getElem?_cons_succ.trans (List.getElem?_cons_succ.trans (List.getElem?_cons_zero))))) (by kernel_rfl) (by kernel_rfl) (by kernel_rfl) (fun _ _ _ h => h) (Or.inl ⟨by rfl, ?_⟩) (by assumption) ?_
        rotate_left
        · intro w' hSw; (try dsimp only at hSw); go_simp; try with_reducible rfl
        try simp only [Act.put, List.setIfInBounds_toArray, List.set_cons_zero, List.set_cons_succ]
        refine wpAnyH_take (i := 4) (v := ?_) (List.getElem?_toArray.trans (List.getElem?_cons_succ.trans (List.getElem?_cons_succ.trans (List.getElem?_cons_succ.trans (List.getElem?_cons_succ.trans (List.getElem?_cons_zero)))))) (by kernel_rfl) (by kernel_rfl) (by kernel_rfl) (fun _ _ _ h => h) (Or.inl ⟨by rfl, ?_⟩) (by assumption) ?_
        rotate_left
        · intro w' hSw; (try dsimp only at hSw); go_simp; try with_reducible rfl
        try simp only [Act.put, List.setIfInBounds_toArray, List.set_cons_zero, List.set_cons_succ]
        refine wpAnyH_take (i := 5) (v := ?_) (List.getElem?_toArray.trans (List.getElem?_cons_succ.trans (List.getElem?_cons_succ.trans (List.getElem?_cons_succ.trans (List.getElem?_cons_succ.trans (List.getElem?_cons_succ.trans (List.getElem?_cons_zero))))))) (by kernel_rfl) (by kernel_rfl) (by kernel_rfl) (fun _ _ _ h => h) (Or.inl ⟨by rfl, ?_⟩) (by assumption) ?_
        rotate_left
        · intro w' hSw; (try dsimp only at hSw); go_simp; try with_reducible rfl
        try simp only [Act.put, List.setIfInBounds_toArray, List.set_cons_zero, List.set_cons_succ]
        refine wpAnyH_take (i := 6) (v := .agg (F.at (34 + i)).cells.toArray) (List.getElem?_toArray.trans (List.getElem?_cons_succ.trans (List.getElem?_cons_succ.trans (List.getElem?_cons_succ.trans (List.getElem?_cons_succ.trans (List.getElem?_cons_succ.trans (List.getElem?_cons_succ.trans (List.getElem?_cons_zero)))))))) (by kernel_rfl) (by kernel_rfl) (by kernel_rfl) (fun _ _ _ h => h) (Or.inl ⟨by rfl, ?_⟩) (by assumption) ?_
        · intro w' hSw; exact exec_load_ag 56 (.tmp 27) rfl g (136 + i * 4) rfl (F.at (34 + i)).cells.toArray _ (HC.out w' (hb9w.trans (hSw.mono hb9w.size)) (34 + i) (by omega) _ (by omega)) Tryd.underlying56 rfl set_size
        try simp only [Act.put, List.setIfInBounds_toArray, List.set_cons_zero, List.set_cons_succ]
        refine wpAnyH_ready (rs := [7]) (by kernel_rfl) (by simp) ?_
        refine AllReadyH.cons (List.getElem?_toArray.trans (List.getElem?_cons_succ.trans (List.getElem?_cons_succ.trans (List.getElem?_cons_succ.trans (List.getElem?_cons_succ.trans (List.getElem?_cons_succ.trans (List.getElem?_cons_succ.trans (List.getElem?_cons_succ.trans (List.getElem?_cons_zero))))))))) (fun K hK => ?_) AllReadyH.nil
        go_simp
        go_at_call 45
        refine (gsMeet acc (F.at (34 + i)) HI.out.2.ok (H.out.2.2.2.2.at _) _).mono ?_
        rintro e w10 ⟨rfl, hb10⟩
        rw [etv]
        refine hK.out _ _ (below_undr hb10) (fun hHeld => ?_)
        clear hK K
        try simp only [Act.put, List.setIfInBounds_toArray, List.set_cons_zero, List.set_cons_succ]
        refine wpAnyH_done (by kernel_rfl) ?_ _
        clear etv
        cases tv
        · have HM := Lib.hid (show ¬ ∃ c, c < 256 ∧ acc.has c = true ∧ (F.at (34 + i)).has c = true from fun h => by
            have h1 := HT.out.2
            rw [decide_eq_false_iff_not] at h1
            exact h1 (HT.out.1.2 h))
          have hb10w := hb9w.trans ((below_undr hb10).mono hb9w.size)
          have hs10 := Blk.below H9.out.1 (below_undr hb10) H9.out.1.lt
          have hx10 := Blk.below H9.out.2 (below_undr hb10) H9.out.2.lt
          clear k0 k1
          go_wp2_with fail
          refine wp_region_held_drew (S := fun W : World => Cells W g (136 + i * 4) (F.at (34 + i)).cells.toArray) (by kernel_rfl) (HC.out _ hb10w.drew (34 + i) (by omega) _ (by omega)) (fun hHeld => ?_)
          refine wpAnyH_take (i := 1) (v := ?_) (List.getElem?_toArray.trans (List.getElem?_cons_succ.trans (List.getElem?_cons_zero))) (by kernel_rfl) (by kernel_rfl) (by kernel_rfl) (fun _ _ _ h => h) (Or.inl ⟨by rfl, ?_⟩) (by assumption) ?_
          rotate_left
          · intro w' hSw; (try dsimp only at hSw); go_simp; try with_reducible rfl
          try simp only [Act.put, List.setIfInBounds_toArray, List.set_cons_zero, List.set_cons_succ]
          refine wpAnyH_take (i := 2) (v := ?_) (List.getElem?_toArray.trans (List.getElem?_cons_succ.trans (List.getElem?_cons_succ.trans (List.getElem?_cons_zero)))) (by kernel_rfl) (by kernel_rfl) (by kernel_rfl) (fun _ _ _ h => h) (Or.inl ⟨by rfl, ?_⟩) (by assumption) ?_
          rotate_left
          · intro w' hSw; (try dsimp only at hSw); go_simp; try with_reducible rfl
          try simp only [Act.put, List.setIfInBounds_toArray, List.set_cons_zero, List.set_cons_succ]
          refine wpAnyH_take (i := 3) (v := ?_) (List.getElem?_toArray.trans (List.getElem?_cons_succ.trans (List.getElem?_cons_succ.trans (List.getElem?_cons_succ.trans (List.getElem?_cons_zero))))) (by kernel_rfl) (by kernel_rfl) (by kernel_rfl) (fun _ _ _ h => h) (Or.inl ⟨by rfl, ?_⟩) (by assumption) ?_
          rotate_left
          · intro w' hSw; (try dsimp only at hSw); go_simp; try with_reducible rfl
          try simp only [Act.put, List.setIfInBounds_toArray, List.set_cons_zero, List.set_cons_succ]
          refine wpAnyH_take (i := 4) (v := ?_) (List.getElem?_toArray.trans (List.getElem?_cons_succ.trans (List.getElem?_cons_succ.trans (List.getElem?_cons_succ.trans (List.getElem?_cons_succ.trans (List.getElem?_cons_zero)))))) (by kernel_rfl) (by kernel_rfl) (by kernel_rfl) (fun _ _ _ h => h) (Or.inl ⟨by rfl, ?_⟩) (by assumption) ?_
          rotate_left
          · intro w' hSw; (try dsimp only at hSw); go_simp; try with_reducible rfl
          try simp only [Act.put, List.setIfInBounds_toArray, List.set_cons_zero, List.set_cons_succ]
          refine wpAnyH_take (i := 5) (v := ?_) (List.getElem?_toArray.trans (List.getElem?_cons_succ.trans (List.getElem?_cons_succ.trans (List.getElem?_cons_succ.trans (List.getElem?_cons_succ.trans (List.getElem?_cons_succ.trans (List.getElem?_cons_zero))))))) (by kernel_rfl) (by kernel_rfl) (by kernel_rfl) (fun _ _ _ h => h) (Or.inl ⟨by rfl, ?_⟩) (by assumption) ?_
          rotate_left
          · intro w' hSw; (try dsimp only at hSw); go_simp; try with_reducible rfl
          try simp only [Act.put, List.setIfInBounds_toArray, List.set_cons_zero, List.set_cons_succ]
          refine wpAnyH_take (i := 6) (v := .agg (F.at (34 + i)).cells.toArray) (List.getElem?_toArray.trans (List.getElem?_cons_succ.trans (List.getElem?_cons_succ.trans (List.getElem?_cons_succ.trans (List.getElem?_cons_succ.trans (List.getElem?_cons_succ.trans (List.getElem?_cons_succ.trans (List.getElem?_cons_zero)))))))) (by kernel_rfl) (by kernel_rfl) (by kernel_rfl) (fun _ _ _ h => h) (Or.inl ⟨by rfl, ?_⟩) (by assumption) ?_
          · intro w' hSw; exact exec_load_ag 56 (.tmp 35) rfl g (136 + i * 4) rfl (F.at (34 + i)).cells.toArray _ (hSw) Tryd.underlying56 rfl set_size
          try simp only [Act.put, List.setIfInBounds_toArray, List.set_cons_zero, List.set_cons_succ]
          refine wpAnyH_ready (rs := [0]) (by kernel_rfl) (by simp) ?_
          refine AllReadyH.cons (List.getElem?_toArray.trans (List.getElem?_cons_zero)) (fun K hK => ?_) AllReadyH.nil
          refine wp_load_ag 56 (.tmp 7) rfl w.heap.size 0 rfl acc.cells.toArray _ (Blk.cells (Blk.drewN hs10 1)) Tryd.underlying56 rfl set_size ?_
          refine hK.out _ _ hHeld (fun hHeld => ?_)
          clear hK K
          try simp only [Act.put, List.setIfInBounds_toArray, List.set_cons_zero, List.set_cons_succ]
          refine wpAnyH_ready (rs := [7]) (by kernel_rfl) (by simp) ?_
          refine AllReadyH.cons (List.getElem?_toArray.trans (List.getElem?_cons_succ.trans (List.getElem?_cons_succ.trans (List.getElem?_cons_succ.trans (List.getElem?_cons_succ.trans (List.getElem?_cons_succ.trans (List.getElem?_cons_succ.trans (List.getElem?_cons_succ.trans (List.getElem?_cons_zero))))))))) (fun K hK => ?_) AllReadyH.nil
          go_simp
          go_at_call 38
          refine (gsUnion acc (F.at (34 + i)) HI.out.2.ok (H.out.2.2.2.2.at _) _).mono ?_
          rintro e w11 ⟨rfl, hb11⟩
          have hb11w := hb10w.trans ((below_undr hb11).mono hb10w.size)
          have hs11 := Blk.below hs10 (below_undr hb11) hs10.lt
          have hx11 := Blk.below hx10 (below_undr hb11) hx10.lt
          refine hK.out _ _ (HC.out _ hb11w (34 + i) (by omega) _ (by omega)) (fun hHeld => ?_)
          clear hK K
          try simp only [Act.put, List.setIfInBounds_toArray, List.set_cons_zero, List.set_cons_succ]
          refine wpAnyH_ready (rs := [8]) (by kernel_rfl) (by simp) ?_
          refine AllReadyH.cons (List.getElem?_toArray.trans (List.getElem?_cons_succ.trans (List.getElem?_cons_succ.trans (List.getElem?_cons_succ.trans (List.getElem?_cons_succ.trans (List.getElem?_cons_succ.trans (List.getElem?_cons_succ.trans (List.getElem?_cons_succ.trans (List.getElem?_cons_succ.trans (List.getElem?_cons_zero)))))))))) (fun K hK => ?_) AllReadyH.nil
          refine wp_store_ag 56 (.tmp 7) (.tmp 37) rfl w.heap.size 0 (acc.or (F.at (34 + i))).cells rfl rfl 56 acc.cells hs11 set_size (by show 0 + 4 ≤ 4; decide) (set_one _) ?_
          intro w12 hb12 hg12
          have hb12w : Below w.heap.size w w12 := hb11w.grown hg12 hb11w.size (fun j e => by cases e; exact Nat.le_refl _)
          have hx12 := Blk.grown hx11 hg12 (some_neq hgxne)
          refine hK.out _ _ (HC.out _ hb12w (34 + i) (by omega) _ (by omega)) (fun hHeld => ?_)
          clear hK K
          try simp only [Act.put, List.setIfInBounds_toArray, List.set_cons_zero, List.set_cons_succ]
          refine wpAnyH_done (by kernel_rfl) ?_ _
          rw [splice_whole acc.cells (acc.or (F.at (34 + i))).cells rfl] at hb12
          have k12 : w12.cell? ⟨gx, 1, none⟩ = some (.slice xA m cp) := Blk.cell hx12 1
          have hvn := gfVanishes w12 g F H.out.2.2.2.2 (FcAt.below H.out.1 hb12w hg) xA x.f.b m cp ((HX.out.1.below hb12w).more hb12w.size) HX.out.2.2.1 HX.out.2.2.2.2.2
          have HV := Lib.hid hvn
          have H12 := Lib.hid (And.intro hb12 (And.intro hb12w hx12))
          clear hvn hb12 hb12w hx12 hb11w hs11 hx11 hb11
          go_wp2_with (first
            | (go_at_call 41; refine stopped ?_)
            | fail)
          refine go_on ?_
          refine HV.out.mono ?_
          rintro e w13 ⟨rfl, hb13⟩
          obtain ⟨bv, ebv⟩ : ∃ z, F.vanL x.f.b = z := ⟨_, rfl⟩
          rw [ebv]
          have hbv : bv = true ↔ VanL G (G.fs.getD i f0).b := by rw [HX.out.2.2.2.1, ← ebv]; exact know_vanL HK.out HX.out.2.2.2.2.2
          have hs13 := Blk.below H12.out.1 hb13 H12.out.1.lt
          have hb13w := H12.out.2.1.trans (hb13.mono H12.out.2.1.size)
          have H13 := Lib.hid (And.intro hs13 (And.intro hb13w hbv))
          clear hs13 hb13w hbv hb13 ebv k12
          cases bv
          · have hse := HI.out.2.take (t := F.at (34 + i)) (b := false) HN.out (H.out.2.2.2.2.at _) HL.out H13.out.2.2 HM.out (fun h => by cases h.2)
            rw [Bool.or_false] at hse
            have HE := Lib.hid hse
            clear hse
            go_wp2_with fail
            go_roundw
            case rel => exact ⟨i + 1, v, _, by omega, by first | rfl | go_num, by go_num, ⟨H13.out.1, H13.out.2.1⟩, HE.out⟩
            case measure => simp [intOf]; omega
          · cases v
            · have hse := HI.out.2.take (t := F.at (34 + i)) (b := true) HN.out (H.out.2.2.2.2.at _) HL.out H13.out.2.2 HM.out (fun h => by cases h.1)
              have HE := Lib.hid hse
              clear hse
              go_wp2_with fail
              go_roundw
              case rel => exact ⟨i + 1, true, _, by omega, rfl, by go_num, ⟨H13.out.1, H13.out.2.1⟩, HE.out⟩
              case measure => simp [intOf]; omega
            · go_wp2_with fail
              go_ret
              exact ⟨true, rfl, H13.out.2.1, fun _ => HI.out.2.clash2 (by rw [HG.out.2.2.1]; exact hlt) HN.out rfl (H13.out.2.2.1 (by first | rfl | trivial)), fun _ => rfl⟩
        · go_wp2_with fail
          go_ret
          have h1 := HT.out.2
          rw [decide_eq_true_iff] at h1
          exact ⟨true, rfl, hb9w.trans ((below_undr hb10).mono hb9w.size), fun _ => HI.out.2.clash1 (by rw [HG.out.2.2.1]; exact hlt) HN.out HL.out (HT.out.1.1 h1), fun _ => rfl⟩
      · have hse := HI.out.2.skip (by rw [HX.out.2.2.2.1, HX.out.2.1]; exact hname)
        have HE := Lib.hid hse
        clear hse
        go_wp2_with fail
        go_roundw
        case rel => exact ⟨i + 1, v, acc, by omega, rfl, by go_num, ⟨H9.out.1, hb9w⟩, HE.out⟩
        case measure => simp [intOf]; omega
    · obtain rfl : i = n := by omega
      have hkn : ¬ (i : Int) < (i : Int) := by omega
      have hen := Seen.end_ (t := F.at (18 + X)) (by rw [HG.out.2.2.1]; exact hse) (fun c hc => HK.out.o X c hX hc)
      have hmi := meet_iff hse.ok (H.out.2.2.2.2.at (18 + X))
      have HE := Lib.hid (And.intro hen hmi)
      clear hen hmi
      cases v
      · go_wp2_with fail
        go_quiet (fail)
        rename_i nq
        go_wp2_with fail
        go_ret
        exact ⟨false, rfl, below_drewN hst.2 _, (fun h => by cases h), fun h => by have h1 := (HE.out.1.1 h).1; first | cases h1 | exact h1⟩
      · obtain ⟨tv, etv⟩ : ∃ z, decide (acc.and (F.at (18 + X)) ≠ S4.z) = z := ⟨_, rfl⟩
        have HT := Lib.hid etv
        go_wp2_with fail
        refine wp_region_held_drew (S := fun W : World => Below wr.heap.size wr W) (by kernel_rfl) (Below.refl _ _).drew (fun hHeld => ?_)
        refine wpAnyH_take (i := 0) (v := ?_) (List.getElem?_toArray.trans (List.getElem?_cons_zero)) (by kernel_rfl) (by kernel_rfl) (by kernel_rfl) (fun _ _ _ h => h) (Or.inl ⟨by rfl, ?_⟩) (by assumption) ?_
        rotate_left
        · intro w' hSw; (try dsimp only at hSw); go_simp; try with_reducible rfl
        try simp only [Act.put, List.setIfInBounds_toArray, List.set_cons_zero, List.set_cons_succ]
        refine wpAnyH_take (i := 1) (v := ?_) (List.getElem?_toArray.trans (List.getElem?_cons_succ.trans (List.getElem?_cons_zero))) (by kernel_rfl) (by kernel_rfl) (by kernel_rfl) (fun _ _ _ h => h) (Or.inl ⟨by rfl, ?_⟩) (by assumption) ?_
        rotate_left
        · intro w' hSw; (try dsimp only at hSw); go_simp; try with_reducible rfl
        try simp only [Act.put, List.setIfInBounds_toArray, List.set_cons_zero, List.set_cons_succ]
        refine wpAnyH_take (i := 2) (v := .agg (acc).cells.toArray) (List.getElem?_toArray.trans (List.getElem?_cons_succ.trans (List.getElem?_cons_succ.trans (List.getElem?_cons_zero)))) (by kernel_rfl) (by kernel_rfl) (by kernel_rfl) (fun _ _ _ h => h) (Or.inl ⟨by rfl, ?_⟩) (by assumption) ?_
        · intro w' hSw; exact exec_load_ag 56 (.tmp 7) rfl w.heap.size (0) rfl (acc).cells.toArray _ (Blk.cells (Blk.below hst.1 hSw hst.1.lt)) Tryd.underlying56 rfl set_size
        try simp only [Act.put, List.setIfInBounds_toArray, List.set_cons_zero, List.set_cons_succ]
        refine wpAnyH_take (i := 3) (v := ?_) (List.getElem?_toArray.trans (List.getElem?_cons_succ.trans (List.getElem?_cons_succ.trans (List.getElem?_cons_succ.trans (List.getElem?_cons_zero))))) (by kernel_rfl) (by kernel_rfl) (by kernel_rfl) (fun _ _ _ h => h) (Or.inl ⟨by rfl, ?_⟩) (by assumption) ?_
        rotate_left
        · intro w' hSw; (try dsimp only at hSw); go_simp; try with_reducible rfl
        try simp only [Act.put, List.setIfInBounds_toArray, List.set_cons_zero, List.set_cons_succ]
        refine wpAnyH_take (i := 4) (v := ?_) (List.getElem?_toArray.trans (List.getElem?_cons_succ.trans (List.getElem?_cons_succ.trans (List.getElem?_cons_succ.trans (List.getElem?_cons_succ.trans (List.getElem?_cons_zero)))))) (by kernel_rfl) (by kernel_rfl) (by kernel_rfl) (fun _ _ _ h => h) (Or.inl ⟨by rfl, ?_⟩) (by assumption) ?_
        rotate_left
        · intro w' hSw; (try dsimp only at hSw); go_simp; try with_reducible rfl
        try simp only [Act.put, List.setIfInBounds_toArray, List.set_cons_zero, List.set_cons_succ]
        refine wpAnyH_take (i := 5) (v := ?_) (List.getElem?_toArray.trans (List.getElem?_cons_succ.trans (List.getElem?_cons_succ.trans (List.getElem?_cons_succ.trans (List.getElem?_cons_succ.trans (List.getElem?_cons_succ.trans (List.getElem?_cons_zero))))))) (by kernel_rfl) (by kernel_rfl) (by kernel_rfl) (fun _ _ _ h => h) (Or.inl ⟨by rfl, ?_⟩) (by assumption) ?_
        rotate_left
        · intro w' hSw; (try dsimp only at hSw); go_simp; try with_reducible rfl
        try simp only [Act.put, List.setIfInBounds_toArray, List.set_cons_zero, List.set_cons_succ]
        refine wpAnyH_take (i := 6) (v := ?_) (List.getElem?_toArray.trans (List.getElem?_cons_succ.trans (List.getElem?_cons_succ.trans (List.getElem?_cons_succ.trans (List.getElem?_cons_succ.trans (List.getElem?_cons_succ.trans (List.getElem?_cons_succ.trans (List.getElem?_cons_zero)))))))) (by kernel_rfl) (by kernel_rfl) (by kernel_rfl) (fun _ _ _ h => h) (Or.inl ⟨by rfl, ?_⟩) (by assumption) ?_
        rotate_left
        · intro w' hSw; (try dsimp only at hSw); go_simp; try with_reducible rfl
        try simp only [Act.put, List.setIfInBounds_toArray, List.set_cons_zero, List.set_cons_succ]
        refine wpAnyH_take (i := 7) (v := ?_) (List.getElem?_toArray.trans (List.getElem?_cons_succ.trans (List.getElem?_cons_succ.trans (List.getElem?_cons_succ.trans (List.getElem?_cons_succ.trans (List.getElem?_cons_succ.trans (List.getElem?_cons_succ.trans (List.getElem?_cons_succ.trans (List.getElem?_cons_zero))))))))) (by kernel_rfl) (by kernel_rfl) (by kernel_rfl) (fun _ _ _ h => h) (Or.inl ⟨by rfl, ?_⟩) (by assumption) ?_
        rotate_left
        · intro w' hSw; (try dsimp only at hSw); go_simp; try with_reducible rfl
        try simp only [Act.put, List.setIfInBounds_toArray, List.set_cons_zero, List.set_cons_succ]
        refine wpAnyH_take (i := 8) (v := .agg (F.at (18 + X)).cells.toArray) (List.getElem?_toArray.trans (List.getElem?_cons_succ.trans (List.getElem?_cons_succ.trans (List.getElem?_cons_succ.trans (List.getElem?_cons_succ.trans (List.getElem?_cons_succ.trans (List.getElem?_cons_succ.trans (List.getElem?_cons_succ.trans (List.getElem?_cons_succ.trans (List.getElem?_cons_zero)))))))))) (by kernel_rfl) (by kernel_rfl) (by kernel_rfl) (fun _ _ _ h => h) (Or.inl ⟨by rfl, ?_⟩) (by assumption) ?_
        · intro w' hSw; exact exec_load_ag 56 (.tmp 51) rfl g (72 + X * 4) rfl (F.at (18 + X)).cells.toArray _ (HC.out w' (hst.2.trans (hSw.mono hst.2.size)) (18 + X) (by omega) _ (by omega)) Tryd.underlying56 rfl set_size
        try simp only [Act.put, List.setIfInBounds_toArray, List.set_cons_zero, List.set_cons_succ]
        refine wpAnyH_ready (rs := [9]) (by kernel_rfl) (by simp) ?_
        refine AllReadyH.cons (List.getElem?_toArray.trans (List.getElem?_cons_succ.trans (List.getElem?_cons_succ.trans (List.getElem?_cons_succ.trans (List.getElem?_cons_succ.trans (List.getElem?_cons_succ.trans (List.getElem?_cons_succ.trans (List.getElem?_cons_succ.trans (List.getElem?_cons_succ.trans (List.getElem?_cons_succ.trans (List.getElem?_cons_zero))))))))))) (fun K hK => ?_) AllReadyH.nil
        go_simp
        go_at_call 45
        refine (gsMeet acc (F.at (18 + X)) hse.ok (H.out.2.2.2.2.at _) _).mono ?_
        rintro e w10 ⟨rfl, hb10⟩
        rw [etv]
        refine hK.out _ _ (below_undr hb10) (fun hHeld => ?_)
        clear hK K
        try simp only [Act.put, List.setIfInBounds_toArray, List.set_cons_zero, List.set_cons_succ]
        refine wpAnyH_take (i := 10) (v := ?_) (List.getElem?_toArray.trans (List.getElem?_cons_succ.trans (List.getElem?_cons_succ.trans (List.getElem?_cons_succ.trans (List.getElem?_cons_succ.trans (List.getElem?_cons_succ.trans (List.getElem?_cons_succ.trans (List.getElem?_cons_succ.trans (List.getElem?_cons_succ.trans (List.getElem?_cons_succ.trans (List.getElem?_cons_succ.trans (List.getElem?_cons_zero)))))))))))) (by kernel_rfl) (by kernel_rfl) (by kernel_rfl) (fun _ _ _ h => h) (Or.inl ⟨by rfl, ?_⟩) (by assumption) ?_
        rotate_left
        · intro w' hSw; (try dsimp only at hSw); go_simp; try with_reducible rfl
        try simp only [Act.put, List.setIfInBounds_toArray, List.set_cons_zero, List.set_cons_succ]
        refine wpAnyH_take (i := 11) (v := ?_) (List.getElem?_toArray.trans (List.getElem?_cons_succ.trans (List.getElem?_cons_succ.trans (List.getElem?_cons_succ.trans (List.getElem?_cons_succ.trans (List.getElem?_cons_succ.trans (List.getElem?_cons_succ.trans (List.getElem?_cons_succ.trans (List.getElem?_cons_succ.trans (List.getElem?_cons_succ.trans (List.getElem?_cons_succ.trans (List.getElem?_cons_succ.trans (List.getElem?_cons_zero))))))))))))) (by kernel_rfl) (by kernel_rfl) (by kernel_rfl) (fun _ _ _ h => h) (Or.inl ⟨by rfl, ?_⟩) (by assumption) ?_
        rotate_left
        · intro w' hSw; (try dsimp only at hSw); go_simp; try with_reducible rfl
        try simp only [Act.put, List.setIfInBounds_toArray, List.set_cons_zero, List.set_cons_succ]
        refine wpAnyH_done (by kernel_rfl) ?_ _
        go_wp2_with fail
        go_ret
        refine ⟨tv, rfl, hst.2.trans ((below_undr hb10).mono hst.2.size), fun h => ?_, fun h => ?_⟩
        · have h1 := HT.out
          rw [h, decide_eq_true_iff] at h1
          exact HE.out.1.2 ⟨by first | rfl | trivial, HE.out.2.1 h1⟩
        · rw [← HT.out, decide_eq_true_iff]
          exact HE.out.2.2 (HE.out.1.1 h).2
end Go.Proofs.YthfbmihpdkkcjaaDoor
