/-
  The law's few and short, by their contracts. Conditions: each theorem's own premises.
-/
import Derived.Test.YthfbmihpdkkcjaaDoorGramSpec
namespace Go.Proofs.YthfbmihpdkkcjaaDoor
open Go.RowKit

def cutF (f : Fm) : Fm := ⟨f.n, f.b.take 9⟩
def fewG (G : Gm) : Gm := ⟨G.k, (G.fs.take 50).map cutF⟩
def cutV (x : FmV) : FmV := ⟨cutF x.f, x.A, x.c⟩
theorem fmOk_cut {f : Fm} (h : FmOk f) : FmOk (cutF f) := ⟨h.1, fun s hs => h.2 s (List.mem_of_mem_take hs)⟩
theorem Vs.take_ {w : World} {B : Nat} {A : Option Addr} {vs : List Value} (h : Vs w B A vs) (k : Nat) : Vs w B A (vs.take k) := fun hn => by
  obtain ⟨b, o, e, hb, hc⟩ := h (by rw [List.length_take] at hn; omega)
  refine ⟨b, o, e, hb, fun j v hj => hc j v ?_⟩
  rw [List.getElem?_take] at hj
  split at hj
  · exact hj
  · cases hj
theorem bodyAt_cut {w : World} {B : Nat} {x : FmV} (h : BodyAt w B x) : BodyAt w B (cutV x) :=
  ⟨by show Vs w B x.A (svs (x.f.b.take 9)); rw [svs_take]; exact h.vs.take_ _, by show (x.f.b.take 9).length ≤ x.c; rw [List.length_take]; have := h.cap; omega, fmOk_cut h.ok⟩
theorem BodyAt.grown {w W : World} {B g : Nat} {x : FmV} (h : BodyAt w B x) (hg : w.grownBy W (some g)) (hB : B ≤ g) (hw : B ≤ w.heap.size) : BodyAt W B x :=
  ⟨h.vs.keep fun p hp => World.cell?_of_block (w := w) (hg.block p.block (by omega) (fun e => by simp only [Option.some.injEq] at e; omega)), h.cap, h.ok⟩
theorem small_few (G : Gm) : SmallG (fewG G) := by
  refine ⟨by simp [fewG]; omega, fun f hf => ?_⟩
  obtain ⟨x, _, rfl⟩ := List.mem_map.1 hf
  simp [cutF]
  omega
theorem fm_info : (Tryd.prog.info? 46).map (fun i => (i.zero, i.size, i.bytes)) = some (some (.agg #[.int .i64 0, .slice none 0 0]), 2, 32) := by kernel_rfl
theorem gm_zero : (Tryd.prog.info? 25).map (·.zero) = some (some (.agg #[.int .i64 0, .slice none 0 0])) := by kernel_rfl
theorem gm_size : (Tryd.prog.info? 25).map (·.size) = some 2 := by kernel_rfl
theorem fm_zero : (Tryd.prog.info? 46).map (·.zero) = some (some (.agg #[.int .i64 0, .slice none 0 0])) := by kernel_rfl
theorem fm_size : (Tryd.prog.info? 46).map (·.size) = some 2 := by kernel_rfl
theorem two_one (k : Int) (A : Option Addr) (n c : Nat) : ∀ u ∈ [Value.int .i64 k, .slice A n c], u.oneCell' = true := by
  intro u hu
  simp only [List.mem_cons, List.not_mem_nil, or_false] at hu
  rcases hu with rfl | rfl <;> rfl
theorem sizeAl (w : World) (o : Obj) : (w.alloc o).heap.size = w.heap.size + 1 := by simp
theorem below_alloc1 {B : Nat} {w w' : World} (h : Below B w w') (hB : B ≤ w'.heap.size) (o : Obj) : Below B w (w'.alloc o) := h.alloc hB o

theorem gmShort (A : Option Addr) (n cp : Nat) (m : Nat) (hm : m ≤ 1000) (hn : n ≤ 9223372036854775807) (hnc : n ≤ cp) (w : World) : Calls Tryd.prog 10 #[.slice A n cp, .int .i64 (m : Int)] w fun e w' => e = .returned (.slice A (min n m) cp) ∧ w = w' := by
  by_cases h : m < n
  · have hi : (n : Int) > (m : Int) := by omega
    have hc : (m : Int) ≤ (cp : Int) := by omega
    have h0 : (0 : Int) ≤ (m : Int) := by omega
    rw [Nat.min_eq_right (by omega)]
    go_enter Tryd.func10, Tryd.ntmps10
    go_wp2_with fail
    go_ret
    exact ⟨rfl, rfl⟩
  · have hi : ¬ (n : Int) > (m : Int) := by omega
    rw [Nat.min_eq_left (by omega)]
    go_enter Tryd.func10, Tryd.ntmps10
    go_wp2_with fail
    go_ret
    exact ⟨rfl, rfl⟩

/-- few on its way -/
structure FewAt (w W : World) (k : Int) (A : Option Addr) (n c : Nat) (A1 : Option Addr) (i c1 : Nat) (vs : List Value) : Prop where
  b0 : Blk W w.heap.size 25 #[.int .i64 k, .slice A n c]
  b1 : Blk W (w.heap.size + 1) 25 #[.int .i64 0, .slice none 0 0]
  b2 : Blk W (w.heap.size + 1 + 1) 25 #[.int .i64 k, .slice A1 i c1]
  row : W.ownsRow (w.heap.size + 3) 46 2 (.slice A1 i c1) i vs
  bel : Below w.heap.size w W
  siz : w.heap.size + 3 ≤ W.heap.size
theorem FewAt.below {w W W' : World} {k : Int} {A A1 : Option Addr} {n c i c1 : Nat} {vs : List Value} (h : FewAt w W k A n c A1 i c1 vs) (hb : Below W.heap.size W W') : FewAt w W' k A n c A1 i c1 vs :=
  ⟨h.b0.below hb h.b0.lt, h.b1.below hb h.b1.lt, h.b2.below hb h.b2.lt, row_below h.row hb, h.bel.trans (hb.mono h.bel.size), Nat.le_trans h.siz hb.size⟩
theorem FewAt.grown {w W W' : World} {k : Int} {A A1 : Option Addr} {n c i c1 g : Nat} {vs : List Value} (h : FewAt w W k A n c A1 i c1 vs) (hg : W.grownBy W' (some g)) (h3 : w.heap.size + 3 ≤ g) (hne : (Value.slice A1 i c1).ownBlock ≠ some g) : FewAt w W' k A n c A1 i c1 vs :=
  ⟨h.b0.grown hg (fun e => by simp only [Option.some.injEq] at e; omega), h.b1.grown hg (fun e => by simp only [Option.some.injEq] at e; omega), h.b2.grown hg (fun e => by simp only [Option.some.injEq] at e; omega), row_grown h.row hg (fun j e1 e2 => hne (by rw [e1]; exact e2.symm)), h.bel.grown hg h.bel.size (fun j e => by cases e; omega), Nat.le_trans h.siz hg.size⟩

set_option maxRecDepth 100000 in
set_option maxHeartbeats 4000000 in
set_option linter.unusedSimpArgs false in
theorem gmFew (w : World) (B : Nat) (hB : B ≤ w.heap.size) (G : Gm) (A : Option Addr) (L : List FmV) (n c : Nat) (hA : GmAt w B A L G) (hn : L.length = n) (hm : n ≤ 9223372036854775807) :
    Calls Tryd.prog 7 #[gmv G.k A n c] w fun e w' => ∃ A' L' c', e = .returned (gmv G.k A' L'.length c') ∧ L'.length ≤ c' ∧ GmAt w' w'.heap.size A' L' (fewG G) ∧ (∀ (g : Nat) (W : World), B ≤ g → g < w.heap.size → w'.grownBy W (some g) → GmAt W W.heap.size A' L' (fewG G)) ∧ Below w.heap.size w w' := by
  obtain ⟨i1, hi0, hz0, hz1, hz2⟩ := info_parts fm_info
  have H := Lib.hid (And.intro hA (And.intro hn hB))
  clear hA hn hB
  unfold gmv
  obtain ⟨k, ek⟩ : ∃ k, G.k = k := ⟨_, rfl⟩
  rw [ek]
  go_enter Tryd.func7, Tryd.ntmps7
  go_wp2_with (first
    | (refine wpList_box rfl 25 (.tmp 0) rfl #[.int .i64 k, .slice A n c] rfl ?_; intro w1 hb1 hw1 hz1)
    | (with_reducible refine st_alloc 25 ?_; refine stopped ?_)
    | fail)
  refine go_on ?_
  refine wpList_alloc rfl 25 rfl #[.int .i64 0, .slice none 0 0] gm_zero ?_
  intro w2 hb2 hw2 hz2'
  rw [hz1] at hb2 hz2' ⊢
  simp only [Act.put, List.setIfInBounds_toArray, List.set_cons_zero, List.set_cons_succ]
  have hk2 := hb1.below hw2 hb1.lt
  have hl2 := hw1.trans (hw2.mono hw1.size)
  have c0 : w2.cell? ⟨w.heap.size, 0, none⟩ = some (.int .i64 k) := by rw [hk2.cell]; rfl
  refine wpList_nil ?_
  go_wp2_with (first
    | (with_reducible refine st_alloc 25 ?_; refine stopped ?_)
    | fail)
  refine go_on ?_
  refine wpList_alloc rfl 25 rfl #[.int .i64 0, .slice none 0 0] gm_zero ?_
  intro w3 hb3 hw3 hz3
  rw [hz2'] at hb3 hz3 ⊢
  simp only [Act.put, List.setIfInBounds_toArray, List.set_cons_zero, List.set_cons_succ]
  go_wp2_with (first
    | (with_reducible refine st_store 25 ?_; refine stopped ?_)
    | fail)
  refine go_on ?_
  refine wpList_store_whole rfl 25 (.tmp 3) (.tmp 8) rfl (w.heap.size + 1 + 1) [.int .i64 k, .slice none 0 0] rfl rfl 25 [.int .i64 0, .slice none 0 0] hb3 gm_size rfl (two_one _ _ _ _) ?_
  intro w4 hb4 hg4
  simp only [Act.put, List.setIfInBounds_toArray, List.set_cons_zero, List.set_cons_succ]
  refine wpList_nil ?_
  have hk4 := (hk2.below hw3 hk2.lt).grown hg4 (by simp; omega)
  have hr4 := (hb2.below hw3 hb2.lt).grown hg4 (by simp)
  have hl3 := hl2.trans (hw3.mono hl2.size)
  have hl4 : Below w.heap.size w w4 := hl3.grown hg4 hl3.size (fun j e => by cases e; omega)
  have hs4 : w.heap.size + 3 ≤ w4.heap.size := by have := hg4.size; omega
  have H4 := Lib.hid (And.intro hk4 (And.intro hr4 (And.intro hb4 (And.intro hl4 hs4))))
  clear hb1 hw1 hz1 hb2 hw2 hz2' hk2 hl2 c0 hb3 hw3 hz3 hb4 hg4 hk4 hr4 hl3 hl4 hs4
  go_wp2_with fail
  go_loopw [4] (fun u wz => ∃ (i : Nat) (A1 : Option Addr) (c1 : Nat), i ≤ n ∧ i ≤ 50 ∧ u = .int .i64 (i : Int) ∧ Blk wz w.heap.size 25 #[.int .i64 k, .slice A n c] ∧ Blk wz (w.heap.size + 1) 25 #[.int .i64 0, .slice none 0 0] ∧ Blk wz (w.heap.size + 1 + 1) 25 #[.int .i64 k, .slice A1 i c1] ∧ wz.ownsRow (w.heap.size + 3) 46 2 (.slice A1 i c1) i (fvs ((L.take i).map cutV)) ∧ Below w.heap.size w wz ∧ w.heap.size + 3 ≤ wz.heap.size) (fun u _ => 50 - (intOf u).toNat)
  case atStart => exact ⟨0, none, 0, by omega, by omega, rfl, H4.out.1, H4.out.2.1, H4.out.2.2.1, row_nil _ _ _ _, H4.out.2.2.2.1, H4.out.2.2.2.2⟩
  case round =>
    obtain ⟨i, A1, c1, hin, hi50, rfl, kb0, kb1, kb2, hrow, hbel, hbs⟩ := hrel
    have m1 : wr.cell? ⟨w.heap.size, 1, none⟩ = some (.slice A n c) := by rw [kb0.cell]; rfl
    by_cases hlt : i < n ∧ i < 50
    · have hin' : (i : Int) < (n : Int) := by omega
      have hi0' : (0 : Int) ≤ (i : Int) := by omega
      have hi5 : (i : Int) < 50 := by omega
      have hlen : i < L.length := by rw [H.out.2.1]; exact hlt.1
      obtain ⟨x, hx⟩ : ∃ x, L[i]? = some x := ⟨_, List.getElem?_eq_getElem hlen⟩
      obtain ⟨b, o, rfl, hbB, hc⟩ := H.out.1.vs (by rw [fvs_length]; omega)
      have d0 := hc _ _ (fvs_get hx (t := 0) rfl)
      have d1 := hc _ _ (fvs_get hx (t := 1) rfl)
      have hbx := H.out.1.bs x (List.mem_of_getElem? hx)
      have d0' := (hbel.cell (p := ⟨b, o + i * 2, none⟩) (Nat.lt_of_lt_of_le hbB H.out.2.2)).trans (by simpa using d0)
      have d1' := (hbel.cell (p := ⟨b, o + i * 2 + 1, none⟩) (Nat.lt_of_lt_of_le hbB H.out.2.2)).trans (by simpa [Nat.add_assoc] using d1)
      have HX := Lib.hid (And.intro hx hbx)
      obtain ⟨fn, efn⟩ : ∃ z, x.f.n = z := ⟨_, rfl⟩
      obtain ⟨xl, exl⟩ : ∃ z, x.f.b.length = z := ⟨_, rfl⟩
      rw [efn] at d0'
      rw [exl] at d1'
      have HI := Lib.hid (FewAt.mk (w := w) kb0 kb1 kb2 hrow hbel hbs)
      clear hbx d0 d1 hc kb0 kb1 kb2 hrow hbel hbs
      go_wp2_with (first
        | (with_reducible refine st_alloc 46 ?_; refine stopped ?_)
        | fail)
      refine go_on ?_
      refine wpList_alloc rfl 46 rfl #[.int .i64 0, .slice none 0 0] fm_zero ?_
      intro w6 hb6 hw6 hz6
      have hg5 : w.heap.size + 3 ≤ wr.heap.size := HI.out.siz
      have hne5 : (Value.slice A1 i c1).ownBlock ≠ some wr.heap.size := fun e => Nat.lt_irrefl _ (World.ownsRow.lt HI.out.row _ e).2
      have H6 := Lib.hid (And.intro (HI.out.below hw6) hb6)
      obtain ⟨g5, eg5⟩ : ∃ y, wr.heap.size = y := ⟨_, rfl⟩
      rw [eg5] at hg5 hne5 H6
      simp only [Act.put, List.setIfInBounds_toArray, List.set_cons_zero, List.set_cons_succ]
      rw [eg5]
      clear eg5 hb6 hw6 hz6 hx
      go_wp2_with (first
        | (with_reducible refine st_store 46 ?_; refine stopped ?_)
        | fail)
      refine go_on ?_
      refine wpList_store_whole rfl 46 (.tmp 5) (.tmp 24) rfl g5 [.int .i64 fn, .slice x.A xl x.c] rfl rfl 46 [.int .i64 0, .slice none 0 0] H6.out.2 fm_size rfl (two_one _ _ _ _) ?_
      intro w7 hb7 hg7
      have H7 := Lib.hid (And.intro (H6.out.1.grown hg7 hg5 hne5) hb7)
      simp only [Act.put, List.setIfInBounds_toArray, List.set_cons_zero, List.set_cons_succ]
      refine wpList_nil ?_
      have m5 : w7.cell? ⟨g5, 1, none⟩ = some (.slice x.A xl x.c) := by rw [H7.out.2.cell]; rfl
      have m4 : w7.cell? ⟨g5, 0, none⟩ = some (.int .i64 fn) := by rw [H7.out.2.cell]; rfl
      have m2 : w7.cell? ⟨w.heap.size + 1 + 1, 1, none⟩ = some (.slice A1 i c1) := by rw [H7.out.1.b2.cell]; rfl
      have f5 := H7.out.2.frozen 1
      have hlg : w.heap.size + 1 + 1 < g5 := by omega
      have hsn : fvs ((L.take i).map cutV) ++ [Value.int .i64 fn, .slice x.A (min 9 xl) x.c] = fvs ((L.take (i + 1)).map cutV) := by
        obtain ⟨hl', ex⟩ := List.getElem?_eq_some_iff.1 HX.out.1
        rw [List.take_succ_eq_append_getElem hl', List.map_append, fvs_append, ex]
        have e9 : fvs ([x].map cutV) = [Value.int .i64 fn, .slice x.A (min 9 xl) x.c] := by
          show (cutV x).cells ++ [] = _
          rw [List.append_nil]
          show [Value.int .i64 x.f.n, .slice x.A (x.f.b.take 9).length x.c] = _
          rw [List.length_take, efn, exl]
        exact congrArg (fvs ((L.take i).map cutV) ++ ·) e9.symm
      have HS := Lib.hid hsn
      have hcap := HX.out.2.cap
      rw [exl] at hcap
      clear hsn hb7 hg7
      by_cases hx9 : xl > 9
      · have hx9i : (xl : Int) > 9 := by omega
        have hc9 : (9 : Int) ≤ (x.c : Int) := by omega
        rw [Nat.min_eq_left (by omega)] at HS
        have H8 := Lib.hid (And.intro (H7.out.1.grown (only_setCell (g := g5) (p := ⟨g5, 1, none⟩) (only_refl w7 _) (.inl rfl) (.slice x.A 9 x.c)) hg5 hne5) (H7.out.2.set_ 1 (.slice x.A 9 x.c)))
        go_wp2_with (first
          | (at_builtin; refine stopped ?_)
          | fail)
        obtain ⟨w8, ew8⟩ : ∃ W, w7.setCell ⟨g5, 1, none⟩ (.slice x.A 9 x.c) = W := ⟨_, rfl⟩
        have hs8 : w7.heap.size = w8.heap.size := by rw [← ew8]; simp [World.setCell]
        rw [ew8] at H8 ⊢
        rw [hs8]
        refine go_on ?_
        refine wpList_append_row _ rfl (.tmp 34) (.tmp 36) 23 rfl (w.heap.size + 3) 46 i1 _ 2 32 Tryd.underlying23 hi0 hz0 hz1 hz2 rfl (by decide) (.slice A1 i c1) i (fvs ((L.take i).map cutV)) rfl (row_alloc H8.out.1.row _) (w8.heap.size + 1) (some ⟨w8.heap.size, 0, none⟩) 1 1 [.int .i64 fn, .slice x.A 9 x.c] rfl (vs_of_blk (Blk.new w8 46 #[.int .i64 fn, .slice x.A 9 x.c]) (Nat.lt_succ_self _)) rfl (two_one _ _ _ _) (by omega) (by unfold maxLen; omega) (by have := H8.out.1.siz; rw [sizeAl]; omega) ?_
        intro v9 w9 hown9 hg9 _
        have hA9 := H8.out.1.below (below_alloc w8 (.cells #[.int .i64 fn, .slice x.A 9 x.c] 46))
        have hlr := World.ownsRow.lt hA9.row
        have q0 := hA9.b0.grown hg9 (fun e => by have := (hlr _ e.symm).1; omega)
        have q1 := hA9.b1.grown hg9 (fun e => by have := (hlr _ e.symm).1; omega)
        have q2 := hA9.b2.grown hg9 (fun e => by have := (hlr _ e.symm).1; omega)
        have q3 := hA9.bel.grown hg9 hA9.bel.size (fun j e => by have := (hlr _ e).1; omega)
        have q4 := Nat.le_trans hA9.siz hg9.size
        rw [HS.out] at hown9
        obtain ⟨A9, c9, rfl, _, _, _, _⟩ := vs_of_row hown9
        have r2 : w9.cell? ⟨w.heap.size + 1 + 1, 1, none⟩ = some (.slice A1 i c1) := by rw [q2.cell]; rfl
        have f2 := q2.frozen 1
        have hblk : Blk (w9.setCell ⟨w.heap.size + 1 + 1, 1, none⟩ (.slice A9 (i + 1) c9)) (w.heap.size + 1 + 1) 25 #[.int .i64 k, .slice A9 (i + 1) c9] := q2.set_ 1 _
        have hkp : Kept (fun j => j = w.heap.size + 1 + 1) w9 (w9.setCell ⟨w.heap.size + 1 + 1, 1, none⟩ (.slice A9 (i + 1) c9)) := Kept.set _ w9 ⟨w.heap.size + 1 + 1, 1, none⟩ _ (.inl rfl)
        have hZ : FewAt w (w9.setCell ⟨w.heap.size + 1 + 1, 1, none⟩ (.slice A9 (i + 1) c9)) k (some ⟨b, o, none⟩) n c A9 (i + 1) c9 (fvs ((L.take (i + 1)).map cutV)) :=
          ⟨hkp.blk q0 (by omega), hkp.blk q1 (by omega), hblk, row_keep hown9 hkp (fun j e1 e2 => by have := (World.ownsRow.lt hown9 _ e1).1; omega), q3.trans (hkp.below (fun j e => by omega) q3.size), Nat.le_trans q4 hkp.size⟩
        have HZ := Lib.hid hZ
        clear hA9 hlr q0 q1 q2 q3 q4 hblk hkp hZ hown9 hg9
        simp only [Act.put, List.setIfInBounds_toArray, List.set_cons_zero, List.set_cons_succ]
        go_wp2_with fail
        go_roundw
        case rel => exact ⟨i + 1, A9, c9, by omega, by omega, by go_num, HZ.out.b0, HZ.out.b1, HZ.out.b2, HZ.out.row, HZ.out.bel, HZ.out.siz⟩
        case measure => simp only [intOf]; omega
      · have hx9i : ¬ (xl : Int) > 9 := by omega
        rw [Nat.min_eq_right (by omega)] at HS
        have m9 : w7.cell? ⟨w.heap.size + 1 + 1, 1, none⟩ = some (.slice A1 i c1) := by rw [H7.out.1.b2.cell]; rfl
        have p0 : w7.cell? ⟨g5, 0, none⟩ = some (.int .i64 fn) := by rw [H7.out.2.cell]; rfl
        have p1 : w7.cell? ⟨g5, 1, none⟩ = some (.slice x.A xl x.c) := by rw [H7.out.2.cell]; rfl
        go_wp2_with (first
          | (at_builtin; refine stopped ?_)
          | fail)
        refine go_on ?_
        refine wpList_append_row _ rfl (.tmp 34) (.tmp 36) 23 rfl (w.heap.size + 3) 46 i1 _ 2 32 Tryd.underlying23 hi0 hz0 hz1 hz2 rfl (by decide) (.slice A1 i c1) i (fvs ((L.take i).map cutV)) rfl (row_alloc H7.out.1.row _) (w7.heap.size + 1) (some ⟨w7.heap.size, 0, none⟩) 1 1 [.int .i64 fn, .slice x.A xl x.c] rfl (vs_of_blk (Blk.new w7 46 #[.int .i64 fn, .slice x.A xl x.c]) (Nat.lt_succ_self _)) rfl (two_one _ _ _ _) (by omega) (by unfold maxLen; omega) (by have := H7.out.1.siz; rw [sizeAl]; omega) ?_
        intro v9 w9 hown9 hg9 _
        have hA9 := H7.out.1.below (below_alloc w7 (.cells #[.int .i64 fn, .slice x.A xl x.c] 46))
        have hlr := World.ownsRow.lt hA9.row
        have q0 := hA9.b0.grown hg9 (fun e => by have := (hlr _ e.symm).1; omega)
        have q1 := hA9.b1.grown hg9 (fun e => by have := (hlr _ e.symm).1; omega)
        have q2 := hA9.b2.grown hg9 (fun e => by have := (hlr _ e.symm).1; omega)
        have q3 := hA9.bel.grown hg9 hA9.bel.size (fun j e => by have := (hlr _ e).1; omega)
        have q4 := Nat.le_trans hA9.siz hg9.size
        rw [HS.out] at hown9
        obtain ⟨A9, c9, rfl, _, _, _, _⟩ := vs_of_row hown9
        have r2 : w9.cell? ⟨w.heap.size + 1 + 1, 1, none⟩ = some (.slice A1 i c1) := by rw [q2.cell]; rfl
        have f2 := q2.frozen 1
        have hblk : Blk (w9.setCell ⟨w.heap.size + 1 + 1, 1, none⟩ (.slice A9 (i + 1) c9)) (w.heap.size + 1 + 1) 25 #[.int .i64 k, .slice A9 (i + 1) c9] := q2.set_ 1 _
        have hkp : Kept (fun j => j = w.heap.size + 1 + 1) w9 (w9.setCell ⟨w.heap.size + 1 + 1, 1, none⟩ (.slice A9 (i + 1) c9)) := Kept.set _ w9 ⟨w.heap.size + 1 + 1, 1, none⟩ _ (.inl rfl)
        have hZ : FewAt w (w9.setCell ⟨w.heap.size + 1 + 1, 1, none⟩ (.slice A9 (i + 1) c9)) k (some ⟨b, o, none⟩) n c A9 (i + 1) c9 (fvs ((L.take (i + 1)).map cutV)) :=
          ⟨hkp.blk q0 (by omega), hkp.blk q1 (by omega), hblk, row_keep hown9 hkp (fun j e1 e2 => by have := (World.ownsRow.lt hown9 _ e1).1; omega), q3.trans (hkp.below (fun j e => by omega) q3.size), Nat.le_trans q4 hkp.size⟩
        have HZ := Lib.hid hZ
        clear hA9 hlr q0 q1 q2 q3 q4 hblk hkp hZ hown9 hg9
        simp only [Act.put, List.setIfInBounds_toArray, List.set_cons_zero, List.set_cons_succ]
        go_wp2_with fail
        go_roundw
        case rel => exact ⟨i + 1, A9, c9, by omega, by omega, by go_num, HZ.out.b0, HZ.out.b1, HZ.out.b2, HZ.out.row, HZ.out.bel, HZ.out.siz⟩
        case measure => simp only [intOf]; omega
    · have hlen' : (L.take i).map cutV = (L.take 50).map cutV := by
        congr 1
        rcases (by omega : i = n ∨ i = 50) with e | e
        · rw [e, List.take_of_length_le (by rw [H.out.2.1]; exact Nat.le_refl _), List.take_of_length_le (by rw [H.out.2.1]; omega)]
        · rw [e]
      have hli : ((L.take 50).map cutV).length = i := by rw [List.length_map, List.length_take, H.out.2.1]; omega
      have hfs : ((L.take 50).map cutV).map (·.f) = (fewG G).fs := by
        show _ = (G.fs.take 50).map cutF
        rw [← H.out.1.fs, List.map_map, ← List.map_take, List.map_map]
        rfl
      have HI := Lib.hid (FewAt.mk (w := w) kb0 kb1 kb2 hrow hbel hbs)
      have HE := Lib.hid (And.intro hlen' (And.intro hli hfs))
      clear kb0 kb1 kb2 hrow hbel hbs hlen' hli hfs
      have fin : ∀ w6, Blk w6 (w.heap.size + 1) 25 #[.int .i64 k, .slice A1 i c1] → wr.grownBy w6 (some (w.heap.size + 1)) →
          ∃ A' L' c', Ending.returned (.agg #[.int .i64 k, .slice A1 i c1]) = .returned (.agg #[.int .i64 k, .slice A' (L' : List FmV).length c']) ∧ L'.length ≤ c' ∧ GmAt w6 w6.heap.size A' L' (fewG G) ∧ (∀ (g : Nat) (W : World), B ≤ g → g < w.heap.size → w6.grownBy W (some g) → GmAt W W.heap.size A' L' (fewG G)) ∧ Below w.heap.size w w6 := fun w6 h6 hg6 => by
        refine ⟨A1, (L.take 50).map cutV, c1, by rw [HE.out.2.1], by rw [HE.out.2.1]; obtain ⟨A9, c9, e9, hc9, _⟩ := vs_of_row HI.out.row; cases e9; exact hc9, ?_⟩
        have hl6 : Below w.heap.size w w6 := HI.out.bel.grown hg6 HI.out.bel.size (fun j e => by cases e; omega)
        have hr6 := row_grown HI.out.row hg6 (fun j e1 e2 => by have := (World.ownsRow.lt HI.out.row _ e1).1; cases e2; omega)
        rw [HE.out.1] at hr6
        obtain ⟨A9, c9, e9, _, _, hvs, _⟩ := vs_of_row hr6
        cases e9
        have hb6 : ∀ y ∈ (L.take 50).map cutV, BodyAt w6 B y := fun y hy => by
          obtain ⟨x, hx, rfl⟩ := List.mem_map.1 hy
          exact (bodyAt_cut (H.out.1.bs x (List.mem_of_mem_take hx))).below (hl6.mono H.out.2.2)
        have hBw6 : B ≤ w6.heap.size := Nat.le_trans H.out.2.2 hl6.size
        refine ⟨⟨HE.out.2.2, hvs, fun y hy => (hb6 y hy).more hBw6, by rw [show (fewG G).k = G.k from rfl]; exact H.out.1.k⟩, fun g W hBg hgw hgr => ?_, hl6⟩
        have hrW := row_grown hr6 hgr (fun j e1 e2 => by have := (World.ownsRow.lt hr6 _ e1).1; cases e2; omega)
        obtain ⟨A9, c9, e9, _, _, hvsW, _⟩ := vs_of_row hrW
        cases e9
        exact ⟨HE.out.2.2, hvsW, fun y hy => ((hb6 y hy).grown hgr hBg hBw6).more (Nat.le_trans hBw6 hgr.size), by rw [show (fewG G).k = G.k from rfl]; exact H.out.1.k⟩
      have HFin := Lib.hid fin
      clear fin
      by_cases h1 : (i : Int) < (n : Int)
      · have h2 : ¬ (i : Int) < 50 := by omega
        go_wp2_with (first
          | (with_reducible refine st_load 25 ?_; refine stopped ?_)
          | fail)
        refine go_on ?_
        refine wpList_load_at rfl 25 (.tmp 3) rfl (w.heap.size + 1 + 1) 0 rfl #[.int .i64 k, .slice A1 i c1] _ (Blk.cells HI.out.b2) Tryd.underlying25 rfl gm_size ?_
        refine wpList_store_whole rfl 25 (.tmp 2) (.tmp 39) rfl (w.heap.size + 1) [.int .i64 k, .slice A1 i c1] rfl rfl 25 [.int .i64 0, .slice none 0 0] HI.out.b1 gm_size rfl (two_one _ _ _ _) ?_
        intro w6 hb6 hg6
        have hfin := HFin.out w6 hb6 hg6
        simp only [Act.put, List.setIfInBounds_toArray, List.set_cons_zero, List.set_cons_succ]
        refine wpList_nil ?_
        repeat (first | go_values | go_skip | go_guarded | go_step)
        exact bodyPost_row rfl (w.heap.size + 1) rfl 25 _ _ hb6 Tryd.underlying25 rfl gm_size rfl hfin
      · skip
        go_wp2_with (first
          | (with_reducible refine st_load 25 ?_; refine stopped ?_)
          | fail)
        refine go_on ?_
        refine wpList_load_at rfl 25 (.tmp 3) rfl (w.heap.size + 1 + 1) 0 rfl #[.int .i64 k, .slice A1 i c1] _ (Blk.cells HI.out.b2) Tryd.underlying25 rfl gm_size ?_
        refine wpList_store_whole rfl 25 (.tmp 2) (.tmp 39) rfl (w.heap.size + 1) [.int .i64 k, .slice A1 i c1] rfl rfl 25 [.int .i64 0, .slice none 0 0] HI.out.b1 gm_size rfl (two_one _ _ _ _) ?_
        intro w6 hb6 hg6
        have hfin := HFin.out w6 hb6 hg6
        simp only [Act.put, List.setIfInBounds_toArray, List.set_cons_zero, List.set_cons_succ]
        refine wpList_nil ?_
        repeat (first | go_values | go_skip | go_guarded | go_step)
        exact bodyPost_row rfl (w.heap.size + 1) rfl 25 _ _ hb6 Tryd.underlying25 rfl gm_size rfl hfin
end Go.Proofs.YthfbmihpdkkcjaaDoor
