/-
  Package gram's Check, Vanishes and First, by their contracts. Conditions: each theorem's own premises.
-/
import Derived.Test.YthfbmihpdkkcjaaDoorGramFit
namespace Go.Proofs.YthfbmihpdkkcjaaDoor
open Go.RowKit

set_option maxRecDepth 100000 in
set_option maxHeartbeats 4000000 in
set_option linter.unusedSimpArgs false in
theorem gmCheck (w : World) (G : Gm) (A : Option Addr) (L : List FmV) (n c : Nat) (hA : GmAt w w.heap.size A L G) (hn : L.length = n) (_hc : n ≤ c) (hs : SmallG G) (_hG : HasErr w) : Calls Tryd.prog 8 #[gmv G.k A n c] w (GCheckPost w G) := by
  have hfi := fun (W : World) (hW : Below w.heap.size w W) => gfFit W G A L n c ((hA.below hW).more hW.size) hn hs
  unfold gmv at hfi ⊢
  clear hA hn hs
  obtain ⟨gv, egv⟩ : ∃ gv : List Value, [.int .i64 G.k, .slice A n c] = gv := ⟨_, rfl⟩
  have egv' : (#[.int .i64 G.k, .slice A n c] : Array Value) = gv.toArray := by rw [← egv]
  have hg2 : gv.length = 2 := by rw [← egv]; rfl
  rw [egv'] at hfi ⊢
  have HC := Lib.hid hfi
  clear hfi egv egv'
  go_enter Tryd.func8, Tryd.ntmps8
  go_wp2_with (first
    | (refine wpList_box (o := ⟨some 1, _, _, _, _, _⟩) rfl 25 (.tmp 0) rfl gv.toArray rfl ?_; intro w1 hb1 hw1 hz1)
    | (with_reducible refine st_load 25 ?_; refine stopped ?_)
    | fail)
  refine go_on ?_
  refine wpList_load_at rfl 25 (.tmp 1) rfl w.heap.size 0 rfl gv.toArray _ (Blk.cells hb1) Tryd.underlying25 rfl (by rw [List.size_toArray, hg2]; exact gram_size) ?_
  simp only [Act.put, List.setIfInBounds_toArray, List.set_cons_zero, List.set_cons_succ]
  have HW := Lib.hid hw1
  clear hb1 hw1 hz1
  go_wp2_with (first
    | (go_at_call 16; refine stopped ?_)
    | fail)
  refine go_on ?_
  refine (HC.out w1 HW.out).mono ?_
  rintro e w2 ⟨r, v, p, rfl, hci, hch, hb2, _⟩
  go_wp2_with fail
  go_ret
  exact ⟨r, v, rfl, hci, hch, HW.out.trans (hb2.mono HW.out.size)⟩
theorem wpList_load_wn {P : Program} {w : World} {ops : Array Oper} {rest : List Oper} {o : Oper} {a : Act} {Q : Exit → Act → World → Prop} (hgw : Region.wanted o (yielded ops a.tmps) = true) (ty : TypeId) (x : Operand) (ho : o.op = .load ty x)
    (g off : Nat) (hx : a.eval x = .pointer (some ⟨g, off, none⟩)) (cs : Array Value) (d : TypeDesc) (hc : Cells w g off cs)
    (hu : P.underlying ty = some d) (hd : agg? d = true) (hi : (P.info? ty).map (·.size) = some cs.size)
    (h : wpList P ops Q rest (a.put o.dst (.agg cs)) w) : wpList P ops Q (o :: rest) a w := by
  refine wpList_step fun K hK => ?_
  rw [if_pos hgw]
  unfold Oper.wp execOp
  simp only [ho, hx, Instr.loadAt, Instr.sureAddr, Sem.run_bind, Sem.run_pure, Result.andThen_ok, run_loadVar_at g off ty cs d hc hu hd hi]
  exact hK _ _ h
/-- what studyName answers -/
def NamePost (w : World) (G : Gm) (e : Ending) (w' : World) : Prop :=
  ∃ (p : Value) (b : Bool), e = .returned (.tuple #[p, .bool b]) ∧ Below w.heap.size w w' ∧ (WellG G → b = true) ∧
    (b = true → ∃ (g : Nat) (F : Fc), p = .pointer (some ⟨g, 0, none⟩) ∧ w.heap.size ≤ g ∧ FcAt w' g F ∧ F.Ok ∧ Know G F)
set_option maxRecDepth 100000 in
set_option maxHeartbeats 4000000 in
set_option linter.unusedSimpArgs false in
theorem gfName (w : World) (G : Gm) (A : Option Addr) (L : List FmV) (n c : Nat) (hA : GmAt w w.heap.size A L G) (hn : L.length = n) (hs : SmallG G) : Calls Tryd.prog 18 #[gmv G.k A n c, .int .i64 0] w (NamePost w G) := by
  have hsh := fun (W : World) (hW : Below w.heap.size w W) => gfShape W G A L n c ((hA.below hW).more hW.size) hn hs
  have hstu := fun (W : World) (hW : Below w.heap.size w W) (hG : GrOk G) => gfStudy W G hG A L n c ((hA.below hW).more hW.size) hn
  have hok := hA.ok
  unfold gmv at hsh hstu ⊢
  clear hA hn hs
  obtain ⟨K, eK⟩ : ∃ K, G.k = K := ⟨_, rfl⟩
  rw [eK] at hsh hstu ⊢
  obtain ⟨gv, egv⟩ : ∃ gv : List Value, [.int .i64 K, .slice A n c] = gv := ⟨_, rfl⟩
  have egv' : (#[.int .i64 K, .slice A n c] : Array Value) = gv.toArray := by rw [← egv]
  have hg2 : gv.length = 2 := by rw [← egv]; rfl
  rw [egv'] at hsh hstu ⊢
  have HC := Lib.hid (And.intro hsh (And.intro hstu (And.intro eK (And.intro egv hok))))
  clear hsh hstu eK egv egv' hok
  go_enter Tryd.func18, Tryd.ntmps18
  go_wp2_with (first
    | (refine wpList_box (o := ⟨some 2, _, _, _, _, _⟩) rfl 25 (.tmp 0) rfl gv.toArray rfl ?_; intro w1 hb1 hw1 hz1)
    | (with_reducible refine st_load 25 ?_; refine stopped ?_)
    | fail)
  refine go_on ?_
  refine wpList_load_at rfl 25 (.tmp 2) rfl w.heap.size 0 rfl gv.toArray _ (Blk.cells hb1) Tryd.underlying25 rfl (by rw [List.size_toArray, hg2]; exact gram_size) ?_
  simp only [Act.put, List.setIfInBounds_toArray, List.set_cons_zero, List.set_cons_succ]
  have HW := Lib.hid (And.intro hw1 hb1)
  clear hb1 hw1 hz1
  go_wp2_with (first
    | (go_at_call 27; refine stopped ?_)
    | fail)
  refine go_on ?_
  refine (HC.out.1 w1 HW.out.1).mono ?_
  rintro e w2 ⟨v2, rfl, hb2, hcase⟩
  have hbw2 := HW.out.1.trans (hb2.mono HW.out.1.size)
  have hm2 := HW.out.2.below hb2 HW.out.2.lt
  rcases hcase with ⟨rfl, hwell⟩ | ⟨i, hch, hci⟩
  · have hG := grOk_of hwell HC.out.2.2.2.2
    have hK1 : ¬ K ≤ 0 := by have := hG.k; rw [HC.out.2.2.1] at this; omega
    have k0 : w2.cell? ⟨w.heap.size, 0, none⟩ = some (.int .i64 K) := by rw [Blk.cell hm2, ← HC.out.2.2.2.1]; rfl
    have H2 := Lib.hid (And.intro hbw2 (And.intro hm2 (And.intro hwell hG)))
    clear hb2 hbw2 hm2 hwell hG
    go_wp2_with (first
      | (with_reducible refine st_load 25 ?_; refine stopped ?_)
      | fail)
    refine go_on ?_
    refine wpList_load_at rfl 25 (.tmp 2) rfl w.heap.size 0 rfl gv.toArray _ (Blk.cells H2.out.2.1) Tryd.underlying25 rfl (by rw [List.size_toArray, hg2]; exact gram_size) ?_
    simp only [Act.put, List.setIfInBounds_toArray, List.set_cons_zero, List.set_cons_succ]
    go_wp2_with (first
      | (go_at_call 28; refine stopped ?_)
      | fail)
    refine go_on ?_
    refine (HC.out.2.1 w2 H2.out.1 H2.out.2.2.2).mono ?_
    rintro e w3 ⟨g, F, rfl, hgge, hf, hF, hkn, hrm, hb3⟩
    have HZ := Lib.hid (And.intro (H2.out.1.trans (hb3.mono H2.out.1.size)) (And.intro (Nat.le_trans H2.out.1.size hgge) (And.intro hf (And.intro hF hkn))))
    clear hgge hf hF hkn hrm hb3 k0
    go_wp2_with fail
    go_ret2
    exact ⟨_, true, rfl, HZ.out.1, fun _ => rfl, fun _ => ⟨g, F, rfl, HZ.out.2⟩⟩
  · have hnw : ¬ WellG G := fun h => by
      cases hci with
      | big hb => exact h.1 hb
      | ill _ hi hf _ => exact h.2 _ (getD_mem hi) hf
    have HZ := Lib.hid (And.intro hnw hbw2)
    obtain ⟨g9, u9, rfl, _, _⟩ := hch
    clear hci hbw2 hm2 hb2 hnw
    go_wp2_with fail
    go_ret2
    exact ⟨_, false, rfl, HZ.out.2, fun h => absurd h HZ.out.1, fun h => by cases h⟩
set_option maxRecDepth 100000 in
set_option maxHeartbeats 4000000 in
set_option linter.unusedSimpArgs false in
theorem gmVanishes (w : World) (G : Gm) (A : Option Addr) (L : List FmV) (n c : Nat) (hA : GmAt w w.heap.size A L G) (hn : L.length = n) (_hc : n ≤ c) (hs : SmallG G) (_hG : HasErr w) : Calls Tryd.prog 12 #[gmv G.k A n c, .int .i64 0] w (GVanPost w G) := by
  have hfi := fun (W : World) (hW : Below w.heap.size w W) => gfName W G A L n c ((hA.below hW).more hW.size) hn hs
  unfold gmv at hfi ⊢
  clear hA hn hs
  obtain ⟨gv, egv⟩ : ∃ gv : List Value, [.int .i64 G.k, .slice A n c] = gv := ⟨_, rfl⟩
  have egv' : (#[.int .i64 G.k, .slice A n c] : Array Value) = gv.toArray := by rw [← egv]
  have hg2 : gv.length = 2 := by rw [← egv]; rfl
  rw [egv'] at hfi ⊢
  have HC := Lib.hid hfi
  clear hfi egv egv'
  go_enter Tryd.func12, Tryd.ntmps12
  go_wp2_with (first
    | (refine wpList_box (o := ⟨some 2, _, _, _, _, _⟩) rfl 25 (.tmp 0) rfl gv.toArray rfl ?_; intro w1 hb1 hw1 hz1)
    | (with_reducible refine st_load 25 ?_; refine stopped ?_)
    | fail)
  refine go_on ?_
  refine wpList_load_at rfl 25 (.tmp 2) rfl w.heap.size 0 rfl gv.toArray _ (Blk.cells hb1) Tryd.underlying25 rfl (by rw [List.size_toArray, hg2]; exact gram_size) ?_
  simp only [Act.put, List.setIfInBounds_toArray, List.set_cons_zero, List.set_cons_succ]
  have HW := Lib.hid hw1
  clear hb1 hw1 hz1
  go_wp2_with (first
    | (go_at_call 18; refine stopped ?_)
    | fail)
  refine go_on ?_
  refine (HC.out w1 HW.out).mono ?_
  rintro e w2 ⟨p, b, rfl, hb2, hwb, hbp⟩
  have H2 := Lib.hid (And.intro (HW.out.trans (hb2.mono HW.out.size)) hwb)
  clear hb2 hwb
  cases b with
  | false =>
    clear hbp
    go_wp2_with fail
    go_ret
    exact ⟨false, rfl, fun hF => by have h1 := H2.out.2 hF.1; first | cases h1 | exact h1.elim, H2.out.1⟩
  | true =>
    obtain ⟨g, F, rfl, _, hf, hF, hkn⟩ := hbp rfl
    have hcF := FcAt.cs hf hF (i := 1) (o := 4) (by decide) rfl
    have HH := Lib.hid (And.intro hcF (And.intro (fun W => gsHas (F.at 1) (hF.at 1) 0 (by decide) W) (hkn.v 0 (by decide))))
    clear hbp hf hF hkn hcF
    go_wp2_with (first
      | (with_reducible refine st_load 56 ?_; refine stopped ?_)
      | fail)
    refine go_on ?_
    refine wpList_load_wn rfl 56 (.tmp 17) rfl g 4 rfl (F.at 1).cells.toArray _ HH.out.1 Tryd.underlying56 rfl set_size ?_
    simp only [Act.put, List.setIfInBounds_toArray, List.set_cons_zero, List.set_cons_succ]
    go_wp2_with (first
      | (go_at_call 19; refine stopped ?_)
      | fail)
    refine go_on ?_
    refine (HH.out.2.1 _).mono ?_
    rintro e w3 ⟨rfl, hb3⟩
    have HZ := Lib.hid (H2.out.1.trans (hb3.mono H2.out.1.size))
    clear hb3
    go_wp2_with fail
    go_ret
    exact ⟨_, rfl, fun _ => HH.out.2.2, HZ.out⟩
theorem zeros_256 : Tryd.zeroCells39 = (blS S4.z 0).toArray := by kernel_rfl
set_option maxRecDepth 100000 in
set_option maxHeartbeats 4000000 in
set_option linter.unusedSimpArgs false in
theorem gmFirst (w : World) (G : Gm) (A : Option Addr) (L : List FmV) (n c : Nat) (hA : GmAt w w.heap.size A L G) (hn : L.length = n) (_hc : n ≤ c) (hs : SmallG G) (_hG : HasErr w) : Calls Tryd.prog 13 #[gmv G.k A n c, .int .i64 0] w (GFirPost w G) := by
  have hfi := fun (W : World) (hW : Below w.heap.size w W) => gfName W G A L n c ((hA.below hW).more hW.size) hn hs
  unfold gmv at hfi ⊢
  clear hA hn hs
  obtain ⟨gv, egv⟩ : ∃ gv : List Value, [.int .i64 G.k, .slice A n c] = gv := ⟨_, rfl⟩
  have egv' : (#[.int .i64 G.k, .slice A n c] : Array Value) = gv.toArray := by rw [← egv]
  have hg2 : gv.length = 2 := by rw [← egv]; rfl
  rw [egv'] at hfi ⊢
  have HC := Lib.hid hfi
  clear hfi egv egv'
  go_enter Tryd.func13, Tryd.ntmps13
  go_wp2_with (first
    | (refine wpList_box (o := ⟨some 2, _, _, _, _, _⟩) rfl 25 (.tmp 0) rfl gv.toArray rfl ?_; intro w1 hb1 hw1 hz1)
    | (refine wpList_alloc (o := ⟨some 4, _, _, _, _, _⟩) rfl 39 rfl _ bl_zero ?_; intro w2 hb2 hw2 hz2)
    | (with_reducible refine st_load 25 ?_; refine stopped ?_)
    | fail)
  refine go_on ?_
  obtain ⟨g2, eg2⟩ : ∃ z, w1.heap.size = z := ⟨_, rfl⟩
  have hg2w : w.heap.size ≤ g2 := by omega
  rw [eg2] at hb2 ⊢
  have hbw2 := hw1.trans (hw2.mono hw1.size)
  have hb1' := hb1.below hw2 hb1.lt
  refine wpList_load_at rfl 25 (.tmp 2) rfl w.heap.size 0 rfl gv.toArray _ (Blk.cells hb1') Tryd.underlying25 rfl (by rw [List.size_toArray, hg2]; exact gram_size) ?_
  simp only [Act.put, List.setIfInBounds_toArray, List.set_cons_zero, List.set_cons_succ]
  have HW := Lib.hid (And.intro hbw2 hb2)
  clear hb1 hw1 hz1 hb2 hw2 hz2 hbw2 hb1' eg2
  go_wp2_with (first
    | (go_at_call 18; refine stopped ?_)
    | fail)
  refine go_on ?_
  refine (HC.out w2 HW.out.1).mono ?_
  rintro e w3 ⟨p, b, rfl, hb3, hwb, hbp⟩
  have H2 := Lib.hid (And.intro (HW.out.1.trans (hb3.mono HW.out.1.size)) (And.intro hwb (Blk.below HW.out.2 hb3 HW.out.2.lt)))
  clear hb3 hwb
  cases b with
  | false =>
    clear hbp
    obtain ⟨Z, eZ⟩ : ∃ Z, blS S4.z 0 = Z := ⟨_, rfl⟩
    have hsz : Z.length = 256 := by rw [← eZ]; exact blS_length _ 0
    have h1 : ∀ v ∈ Z, v.oneCell' = true := by rw [← eZ]; exact blS_one _ 0
    have hl : Z = ((List.range 256).map fun _ => false).map .bool := by rw [← eZ]; unfold blS; rw [List.map_map]; apply List.map_congr_left; intro i _; simp
    have hzz := zeros_256
    have hres := H2.out.2.2
    rw [eZ] at hres hzz
    have HZ := Lib.hid hzz
    clear eZ hzz
    go_wp2_with (first
      | (with_reducible refine st_store 39 ?_; refine stopped ?_)
      | fail)
    refine go_on ?_
    rw [HZ.out]
    refine wpList_store_whole rfl 39 (.tmp 4) (.tmp 15) rfl g2 Z rfl rfl 39 Z hres (by rw [hsz]; exact bl_size) rfl h1 ?_
    intro w8 hb8 hg8
    refine wpList_nil ?_
    simp only [Act.put, List.setIfInBounds_toArray, List.set_cons_zero, List.set_cons_succ]
    go_wp2_with fail
    refine bodyPost_row rfl g2 rfl 39 _ _ hb8 Tryd.underlying39 rfl (by rw [List.size_toArray, hsz]; exact bl_size) rfl ⟨(List.range 256).map fun _ => false, by simp, by rw [hl], fun hF => by have h1 := H2.out.2.1 hF.1; first | cases h1 | exact h1.elim, H2.out.1.grown hg8 H2.out.1.size (fun j e => by cases e; omega)⟩
  | true =>
    obtain ⟨g, F, rfl, _, hf, hF, hkn⟩ := hbp rfl
    have hcF := FcAt.cs hf hF (i := 2) (o := 8) (by decide) rfl
    have HH := Lib.hid (And.intro hcF (And.intro (fun W => gsEach (F.at 2) (hF.at 2) W) (fun c (hc : c < 256) => hkn.f 0 c (by decide) hc)))
    clear hbp hf hF hkn hcF
    go_wp2_with (first
      | (with_reducible refine st_load 56 ?_; refine stopped ?_)
      | fail)
    refine go_on ?_
    refine wpList_load_at rfl 56 (.tmp 20) rfl g 8 rfl (F.at 2).cells.toArray _ HH.out.1 Tryd.underlying56 rfl set_size ?_
    simp only [Act.put, List.setIfInBounds_toArray, List.set_cons_zero, List.set_cons_succ]
    go_wp2_with (first
      | (go_at_call 20; refine stopped ?_)
      | fail)
    refine go_on ?_
    refine (HH.out.2.1 _).mono ?_
    rintro e w4 ⟨rfl, hb4⟩
    have hbw4 := H2.out.1.trans (hb4.mono H2.out.1.size)
    have hres := Blk.below H2.out.2.2 hb4 H2.out.2.2.lt
    obtain ⟨l, el⟩ : ∃ l, (List.range 256).map (F.at 2).has = l := ⟨_, rfl⟩
    have hl : l.length = 256 := by rw [← el]; simp
    have hl2 : (l.map Value.bool).length = 256 := by rw [List.length_map]; exact hl
    have h1 : ∀ v ∈ l.map Value.bool, v.oneCell' = true := fun v hv => by
      obtain ⟨i, _, rfl⟩ := List.mem_map.1 hv
      rfl
    rw [el]
    obtain ⟨Y, eY⟩ : ∃ Y, l.map Value.bool = Y := ⟨_, rfl⟩
    rw [eY] at hl2 h1 ⊢
    obtain ⟨Z, eZ⟩ : ∃ Z, blS S4.z 0 = Z := ⟨_, rfl⟩
    have hsz : Z.length = 256 := by rw [← eZ]; exact blS_length _ 0
    rw [eZ] at hres
    clear eZ
    go_wp2_with (first
      | (with_reducible refine st_store 39 ?_; refine stopped ?_)
      | fail)
    refine go_on ?_
    refine wpList_store_whole rfl 39 (.tmp 4) (.tmp 22) rfl g2 Y rfl rfl 39 Z hres (by rw [hl2]; exact bl_size) (by rw [hl2]; exact hsz) h1 ?_
    intro w8 hb8 hg8
    refine wpList_nil ?_
    simp only [Act.put, List.setIfInBounds_toArray, List.set_cons_zero, List.set_cons_succ]
    go_wp2_with fail
    refine bodyPost_row rfl g2 rfl 39 _ _ hb8 Tryd.underlying39 rfl (by rw [List.size_toArray, hl2]; exact bl_size) rfl ⟨l, hl, by rw [eY], fun _ c hc => ?_, hbw4.grown hg8 hbw4.size (fun j e => by cases e; omega)⟩
    rw [← el, List.getD_eq_getElem?_getD, List.getElem?_map, List.getElem?_range hc]
    exact HH.out.2.2 c hc
end Go.Proofs.YthfbmihpdkkcjaaDoor
