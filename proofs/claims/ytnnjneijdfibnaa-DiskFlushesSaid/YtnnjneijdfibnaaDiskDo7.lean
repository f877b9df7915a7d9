/-
  The law's Do where it asks what a sector has. Conditions: the theorem's own premises.
-/
import Derived.Test.YtnnjneijdfibnaaDiskDo6
namespace Go.Proofs.Ytnnjneijdfibnaa
open Go.RowKit

set_option maxRecDepth 100000 in
set_option maxHeartbeats 4000000 in
set_option linter.unusedSimpArgs false in
theorem do_has (w : World) (gd : Nat) (F : Nat → Prop) (m : Dk) (k : Nat) (cs : List Value) (d : Dk) (a : ActV) (S : Option Addr) (n c : Nat) (h : DoPre w gd F m k cs d a S n) (hdo : a.do_ < 0 ∨ 9 < a.do_) :
    Calls Try.prog 25 #[.pointer (some ⟨gd, 0, none⟩), .agg cs.toArray, .agg (actCells a S c).toArray] w (DoPost w gd F k cs d S n) := by
  obtain ⟨hok, A0, W0, S0, ca0, cw0, cv0, ecs, hA0, hW0, hS0⟩ := h.ref
  have hRef : RefIs w w.heap.size cs d := h.ref
  have hlen : cs.length = 5 := by rw [ecs]; rfl
  have hone : ∀ v ∈ cs, v.oneCell' = true := by rw [ecs]; exact refCells_one _ _ _ _ _ _ _
  have HC5 := Lib.hid (And.intro hlen (And.intro hone ecs))
  have HH := Lib.hid h
  obtain ⟨X, eX⟩ : ∃ X, actCells a S c = X := ⟨_, rfl⟩
  have HX := Lib.hid eX
  rw [eX]
  obtain ⟨C, eC⟩ : ∃ C, cs.toArray = C := ⟨_, rfl⟩
  obtain ⟨Y, eY⟩ : ∃ Y, X.toArray = Y := ⟨_, rfl⟩
  rw [eC, eY]
  have HCY := Lib.hid (And.intro eC eY)
  clear hok hA0 hW0 hS0 hlen hone h hRef eX eC eY
  clear ecs
  go_enter Try.func25, Try.ntmps25
  go_wp2_with (first | (with_reducible refine st_box 57 ?_; refine stopped ?_) | fail)
  refine go_on ?_
  refine wpList_box rfl 57 (.tmp 1) rfl C rfl ?_
  intro w1 hb1 hw1 hz1
  refine wpList_box rfl 44 (.tmp 2) rfl Y rfl ?_
  intro w2 hb2 hw2 hz2
  refine wpList_alloc rfl 57 rfl _ rdisk_zero ?_
  intro w3 hb3 hw3 hz3
  obtain ⟨g4, e4⟩ : ∃ g, w.heap.size = g := ⟨_, rfl⟩
  have e5 : w1.heap.size = g4 + 1 := by omega
  have e6 : w2.heap.size = g4 + 2 := by omega
  rw [e4] at hb1 hw1 ⊢
  rw [e5] at hb2 hw2 ⊢
  rw [e6] at hb3 hw3 ⊢
  simp only [Act.put, List.setIfInBounds_toArray, List.set_cons_zero, List.set_cons_succ]
  rw [← HCY.out.1] at hb1
  rw [← HCY.out.2] at hb2
  have hbw : Below g4 w w3 := (hw1.trans (hw2.mono (by omega))).trans (hw3.mono (by omega))
  have hst : DoS w w3 gd g4 F F m cs d S n cs d X := ⟨HH.out.code.below (e4.symm ▸ hbw), (HH.out.ref.below (e4.symm ▸ hbw)).more (by omega), HH.out.far, HH.out.ref.beyond (by omega), HH.out.ref.beyond (by omega), fun _ _ h _ => h,
    (hb1.below hw2 (by omega)).below hw3 (by omega), hb2.below hw3 (by omega), hb3, e4, fun g hg => by have := HH.out.code.lt g hg; omega, .of_below (e4.symm ▸ hbw), fun _ => .inl⟩
  have HS := Lib.hid hst
  have hcd : w3.cell? ⟨g4 + 1, 0, none⟩ = some (.int .i64 a.do_) := by rw [hst.b5.cell, ← HX.out]; rfl
  have hca : w3.cell? ⟨g4 + 1, 1, none⟩ = some (.int .i64 a.at_) := by rw [hst.b5.cell, ← HX.out]; rfl
  have hco : w3.cell? ⟨g4 + 1, 2, none⟩ = some (.int .i64 a.off) := by rw [hst.b5.cell, ← HX.out]; rfl
  have hcf : w3.cell? ⟨g4 + 1, 3, none⟩ = some (.int .u8 (a.fill.toNat : Int)) := by rw [hst.b5.cell, ← HX.out]; rfl
  have hck : w3.cell? ⟨g4 + 1, 4, none⟩ = some (.slice S n c) := by rw [hst.b5.cell, ← HX.out, ← HH.out.keep]; rfl
  have hbase := e4
  clear hb1 hb2 hb3 hw1 hw2 hw3 hz1 hz2 hz3 e4 e5 e6 hbw hst
  obtain ⟨pd, epd⟩ : ∃ x, a.do_ = x := ⟨_, rfl⟩
  obtain ⟨pa, epa⟩ : ∃ x, a.at_ = x := ⟨_, rfl⟩
  obtain ⟨po, epo⟩ : ∃ x, a.off = x := ⟨_, rfl⟩
  obtain ⟨fl, efl⟩ : ∃ x, a.fill.toNat = x := ⟨_, rfl⟩
  rw [epd] at hcd
  rw [epa] at hca
  rw [epo] at hco
  rw [efl] at hcf
  have HAt := Lib.hid (And.intro epd (And.intro epa (And.intro epo efl)))
  rw [epd] at hdo
  have n0 : ¬ pd = 0 := by omega
  have n1 : ¬ pd = 1 := by omega
  have n2 : ¬ pd = 2 := by omega
  have n3 : ¬ pd = 3 := by omega
  have n4 : ¬ pd = 4 := by omega
  have n5 : ¬ pd = 5 := by omega
  have n6 : ¬ pd = 6 := by omega
  have n7 : ¬ pd = 7 := by omega
  have n8 : ¬ pd = 8 := by omega
  have n9 : ¬ pd = 9 := by omega
  have hc0 : w3.cell? ⟨g4, 0, none⟩ = some (.slice A0 4 ca0) := by rw [HS.out.b4.cell, HC5.out.2.2, ← HH.out.d4]; rfl
  clear epd epa epo efl hdo
  by_cases hp0 : pa < 0
  · have hr : m.hasAt pa = ([], 4) := by unfold Dk.hasAt; rw [show inside m pa = false by unfold inside; rw [HH.out.m4]; simp; omega]; rfl
    have hhs := dkHas w3 gd F m HS.out.code pa
    rw [hr] at hhs
    have HHs := Lib.hid hhs
    clear hhs hr
    go_wp2_with fail
    refine HHs.out.mono ?_
    rintro e w4 ⟨v4, rfl, hown4, hb4⟩
    obtain ⟨A4, c4, rfl, _, _⟩ := Held.own hown4 HS.out.code.lt
    have HS4 := Lib.hid (HS.out.below hb4)
    have hca4 : w4.cell? ⟨g4 + 1, 1, none⟩ = some (.int .i64 pa) := by rw [HS4.out.b5.cell, ← HX.out, ← HAt.out.2.1]; rfl
    have hc04 : w4.cell? ⟨g4, 0, none⟩ = some (.slice A0 4 ca0) := by rw [HS4.out.b4.cell, HC5.out.2.2, ← HH.out.d4]; rfl
    simp only [List.length_nil]
    clear hown4 hb4 hca hco hcf hck hc0
    go_wp2_with (first | (with_reducible refine st_load 57 ?_; refine stopped ?_) | fail)
    refine go_on ?_
    refine wpList_load_at rfl 57 (.tmp 4) rfl g4 0 rfl cs.toArray _ (Blk.cells HS4.out.b4) Try.underlying57 rfl (rsize_arr HC5.out.1) ?_
    simp only [Act.put, List.setIfInBounds_toArray, List.set_cons_zero, List.set_cons_succ]
    go_wp2_with (first | (with_reducible refine st_store 57 ?_; refine stopped ?_) | fail)
    refine go_on ?_
    refine wpList_store_whole rfl 57 (.tmp 6) (.tmp 219) rfl (g4 + 2) cs rfl rfl 57 rzero HS4.out.b6 (rsize_of (And.intro HC5.out.1 HC5.out.2.1).1) (by rw [(And.intro HC5.out.1 HC5.out.2.1).1]; rfl) (And.intro HC5.out.1 HC5.out.2.1).2 ?_
    intro w8 hb8 hg8
    simp only [Act.put, List.setIfInBounds_toArray, List.set_cons_zero, List.set_cons_succ]
    repeat (first | go_values | go_skip | go_guarded | go_step)
    refine bodyPost_rowv rfl (g4 + 2) rfl (.bool _) rfl 57 _ _ hb8 Try.underlying57 rfl (rsize_arr (And.intro HC5.out.1 HC5.out.2.1).1) rfl ?_
    exact HS4.out.done hg8 _ (by have := HH.out.km; omega) (by have := HH.out.kd; omega) HH.out.m4 HH.out.d4 HH.out.md
  · by_cases hp4 : pa < 4
    · obtain ⟨p, rfl⟩ : ∃ p : Nat, pa = (p : Int) := ⟨pa.toNat, by omega⟩
      have hp4' : p < 4 := by omega
      obtain ⟨L, eL⟩ : ∃ x, m.has.getD p [] = x := ⟨_, rfl⟩
      have hL : L.length = 64 := eL ▸ getD_len HH.out.code.ok.len (by rw [HH.out.m4]; exact hp4')
      have hr : m.hasAt (p : Int) = (L, 0) := by
        unfold Dk.hasAt
        rw [show inside m (p : Int) = true by unfold inside; rw [HH.out.m4]; simp; omega, if_pos rfl, Int.toNat_natCast, eL]
      obtain ⟨sB, esB⟩ : ∃ x : ByteArray, (⟨L.toArray⟩ : ByteArray) = x := ⟨_, rfl⟩
      have hhs := dkHas w3 gd F m HS.out.code (p : Int)
      rw [hr] at hhs
      have HHs := Lib.hid hhs
      have HLq := Lib.hid (And.intro hL (And.intro esB eL))
      clear hhs hr hL esB eL
      go_wp2_with fail
      refine HHs.out.mono ?_
      rintro e w4 ⟨v4, rfl, hown4, hb4⟩
      obtain ⟨A4, c4, rfl, _, hH4⟩ := Held.own (F := fun g => F g ∨ g ≤ g4 + 2) hown4 (fun g hg => hg.elim (HS.out.code.lt g) (fun h => by have := HS.out.siz; omega))
      simp only [HLq.out.1]
      simp only at hH4
      have HS4 := Lib.hid (HS.out.below hb4)
      have hca4 : w4.cell? ⟨g4 + 1, 1, none⟩ = some (.int .i64 (p : Int)) := by rw [HS4.out.b5.cell, ← HX.out, ← HAt.out.2.1]; rfl
      have hc04 : w4.cell? ⟨g4, 0, none⟩ = some (.slice A0 4 ca0) := by rw [HS4.out.b4.cell, HC5.out.2.2, ← HH.out.d4]; rfl
      obtain ⟨bh, oh, eA0, hbh, hch⟩ : ∃ bh oh, A0 = some ⟨bh, oh, none⟩ ∧ bh ≠ g4 + 2 ∧ w4.cell? ⟨bh, oh + p, none⟩ = some (.string sB) := by
        obtain ⟨_, A', W', S', ca', cw', cv', e', hA', _, _⟩ := HS4.out.ref
        have e1 := HC5.out.2.2.symm.trans e'
        simp only [refCells, List.cons.injEq, Value.slice.injEq] at e1
        obtain ⟨⟨rfl, _, _⟩, _⟩ := e1
        obtain ⟨bh, oh, eA, hb, hc⟩ := hA' (by rw [svs_length, HH.out.d4]; decide)
        refine ⟨bh, oh, eA, fun e2 => ?_, ?_⟩
        · exact (HS4.out.far6 _ _ _ _ _ _ HC5.out.2.2).1 (by rw [HH.out.d4]; decide) bh oh eA e2
        · have := hc p _ (svs_get (by rw [HH.out.d4]; exact hp4'))
          rw [this, ← HH.out.md, HLq.out.2.2, sv, HLq.out.2.1]
      have hconv := (hH4.conv (P := Try.prog) HLq.out.1 Try.underlying27 Try.underlying5 c4 Try.underlying9 w4.drew ((Below.refl _ _).drew))
      rw [HLq.out.2.1] at hconv
      subst eA0
      have HH4 := Lib.hid hH4
      have HSd := Lib.hid (HS4.out.below ((Below.refl w4.heap.size w4).drew))
      have hS0 : (fun w' => Blk w' g4 57 cs.toArray ∧ w'.cell? ⟨g4, 0, none⟩ = some (.slice (some ⟨bh, oh, none⟩) 4 ca0) ∧ w'.cell? ⟨g4 + 1, 1, none⟩ = some (.int .i64 (p : Int)) ∧ w'.cell? ⟨bh, oh + p, none⟩ = some (.string sB) ∧ (convert 27 9 (.slice A4 64 c4)).run Try.prog w' = .ok (.string sB) w') w4.drew := ⟨HS4.out.b4, hc04, hca4, hch, hconv⟩
      have HS0 := Lib.hid hS0
      have hpi : (p : Int) < 4 := by omega
      have hp0i : (0 : Int) ≤ (p : Int) := by omega
      clear hown4 hb4 hca hco hcf hck hc0 hH4 hconv
      go_wp2_with fail
      refine wp_region_held_drew (S := fun w' => Blk w' g4 57 cs.toArray ∧ w'.cell? ⟨g4, 0, none⟩ = some (.slice (some ⟨bh, oh, none⟩) 4 ca0) ∧ w'.cell? ⟨g4 + 1, 1, none⟩ = some (.int .i64 (p : Int)) ∧ w'.cell? ⟨bh, oh + p, none⟩ = some (.string sB) ∧ (convert 27 9 (.slice A4 64 c4)).run Try.prog w' = .ok (.string sB) w') (by kernel_rfl) hS0 (fun hHeld => ?_)
      refine wpAnyH_take (i := 0) (v := .agg cs.toArray) (List.getElem?_toArray.trans (List.getElem?_cons_zero)) (by kernel_rfl) (by kernel_rfl) (by kernel_rfl) (fun _ _ _ h => h) (Or.inl ⟨by rfl, ?_⟩) (by assumption) ?_
      · intro w' hSw; exact exec_load_row 57 (.tmp 4) rfl g4 0 rfl cs.toArray _ (Blk.cells hSw.1) Try.underlying57 rfl (rsize_arr HC5.out.1)
      try simp only [Act.put, List.setIfInBounds_toArray, List.set_cons_zero, List.set_cons_succ]
      refine wpAnyH_take (i := 1) (v := ?_) (List.getElem?_toArray.trans (List.getElem?_cons_succ.trans (List.getElem?_cons_zero))) (by kernel_rfl) (by kernel_rfl) (by kernel_rfl) (fun _ _ _ h => h) (Or.inl ⟨by rfl, ?_⟩) (by assumption) ?_
      rotate_left
      · intro w' hSw; (try dsimp only at hSw); go_simp; try with_reducible rfl
      try simp only [Act.put, List.setIfInBounds_toArray, List.set_cons_zero, List.set_cons_succ]
      refine wpAnyH_take (i := 2) (v := ?_) (List.getElem?_toArray.trans (List.getElem?_cons_succ.trans (List.getElem?_cons_succ.trans (List.getElem?_cons_zero)))) (by kernel_rfl) (by kernel_rfl) (by kernel_rfl) (fun _ _ _ h => h) (Or.inl ⟨by rfl, ?_⟩) (by assumption) ?_
      rotate_left
      · intro w' hSw; (try dsimp only at hSw); go_simp; try with_reducible rfl
      try simp only [Act.put, List.setIfInBounds_toArray, List.set_cons_zero, List.set_cons_succ]
      refine wpAnyH_take (i := 3) (v := ?_) (List.getElem?_toArray.trans (List.getElem?_cons_succ.trans (List.getElem?_cons_succ.trans (List.getElem?_cons_succ.trans (List.getElem?_cons_zero))))) (by kernel_rfl) (by kernel_rfl) (by kernel_rfl) (fun _ _ _ h => h) (Or.inl ⟨by rfl, ?_⟩) (by assumption) ?_
      rotate_left
      · intro w' hSw; (try dsimp only at hSw); go_simp; try with_reducible rfl
      try simp only [Act.put, List.setIfInBounds_toArray, List.set_cons_zero, List.set_cons_succ]
      refine wpAnyH_take (i := 4) (v := ?_) (List.getElem?_toArray.trans (List.getElem?_cons_succ.trans (List.getElem?_cons_succ.trans (List.getElem?_cons_succ.trans (List.getElem?_cons_succ.trans (List.getElem?_cons_zero)))))) (by kernel_rfl) (by kernel_rfl) (by kernel_rfl) (fun _ _ _ h => h) (Or.inl ⟨by rfl, ?_⟩) (by assumption) ?_
      rotate_left
      · intro w' hSw; (try dsimp only at hSw); go_simp; try with_reducible rfl
      try simp only [Act.put, List.setIfInBounds_toArray, List.set_cons_zero, List.set_cons_succ]
      refine wpAnyH_take (i := 5) (v := ?_) (List.getElem?_toArray.trans (List.getElem?_cons_succ.trans (List.getElem?_cons_succ.trans (List.getElem?_cons_succ.trans (List.getElem?_cons_succ.trans (List.getElem?_cons_succ.trans (List.getElem?_cons_zero))))))) (by kernel_rfl) (by kernel_rfl) (by kernel_rfl) (fun _ _ _ h => h) (Or.inl ⟨by rfl, ?_⟩) (by assumption) ?_
      rotate_left
      · intro w' hSw; (try dsimp only at hSw); go_simp; try with_reducible rfl
      try simp only [Act.put, List.setIfInBounds_toArray, List.set_cons_zero, List.set_cons_succ]
      refine wpAnyH_take (i := 6) (v := ?_) (List.getElem?_toArray.trans (List.getElem?_cons_succ.trans (List.getElem?_cons_succ.trans (List.getElem?_cons_succ.trans (List.getElem?_cons_succ.trans (List.getElem?_cons_succ.trans (List.getElem?_cons_succ.trans (List.getElem?_cons_zero)))))))) (by kernel_rfl) (by kernel_rfl) (by kernel_rfl) (fun _ _ _ h => h) (Or.inl ⟨by rfl, ?_⟩) (by assumption) ?_
      rotate_left
      · intro w' hSw; (try dsimp only at hSw); go_simp; try with_reducible rfl
      try simp only [Act.put, List.setIfInBounds_toArray, List.set_cons_zero, List.set_cons_succ]
      refine wpAnyH_take (i := 7) (v := ?_) (List.getElem?_toArray.trans (List.getElem?_cons_succ.trans (List.getElem?_cons_succ.trans (List.getElem?_cons_succ.trans (List.getElem?_cons_succ.trans (List.getElem?_cons_succ.trans (List.getElem?_cons_succ.trans (List.getElem?_cons_succ.trans (List.getElem?_cons_zero))))))))) (by kernel_rfl) (by kernel_rfl) (by kernel_rfl) (fun _ _ _ h => h) (Or.inl ⟨by rfl, ?_⟩) (by assumption) ?_
      rotate_left
      · intro w' hSw; (try dsimp only at hSw); go_simp; try with_reducible rfl
      try simp only [Act.put, List.setIfInBounds_toArray, List.set_cons_zero, List.set_cons_succ]
      refine wpAnyH_take (i := 8) (v := ?_) (List.getElem?_toArray.trans (List.getElem?_cons_succ.trans (List.getElem?_cons_succ.trans (List.getElem?_cons_succ.trans (List.getElem?_cons_succ.trans (List.getElem?_cons_succ.trans (List.getElem?_cons_succ.trans (List.getElem?_cons_succ.trans (List.getElem?_cons_succ.trans (List.getElem?_cons_zero)))))))))) (by kernel_rfl) (by kernel_rfl) (by kernel_rfl) (fun _ _ _ h => h) (Or.inl ⟨by rfl, ?_⟩) (by assumption) ?_
      rotate_left
      · intro w' hSw; (try dsimp only at hSw); go_simp; try with_reducible rfl
      try simp only [Act.put, List.setIfInBounds_toArray, List.set_cons_zero, List.set_cons_succ]
      refine wpAnyH_take (i := 9) (v := ?_) (List.getElem?_toArray.trans (List.getElem?_cons_succ.trans (List.getElem?_cons_succ.trans (List.getElem?_cons_succ.trans (List.getElem?_cons_succ.trans (List.getElem?_cons_succ.trans (List.getElem?_cons_succ.trans (List.getElem?_cons_succ.trans (List.getElem?_cons_succ.trans (List.getElem?_cons_succ.trans (List.getElem?_cons_zero))))))))))) (by kernel_rfl) (by kernel_rfl) (by kernel_rfl) (fun _ _ _ h => h) (Or.inl ⟨by rfl, ?_⟩) (by assumption) ?_
      rotate_left
      · intro w' hSw; (try dsimp only at hSw); go_simp; try with_reducible rfl
      try simp only [Act.put, List.setIfInBounds_toArray, List.set_cons_zero, List.set_cons_succ]
      refine wpAnyH_take (i := 10) (v := ?_) (List.getElem?_toArray.trans (List.getElem?_cons_succ.trans (List.getElem?_cons_succ.trans (List.getElem?_cons_succ.trans (List.getElem?_cons_succ.trans (List.getElem?_cons_succ.trans (List.getElem?_cons_succ.trans (List.getElem?_cons_succ.trans (List.getElem?_cons_succ.trans (List.getElem?_cons_succ.trans (List.getElem?_cons_succ.trans (List.getElem?_cons_zero)))))))))))) (by kernel_rfl) (by kernel_rfl) (by kernel_rfl) (fun _ _ _ h => h) (Or.inl ⟨by rfl, ?_⟩) (by assumption) ?_
      rotate_left
      · intro w' hSw; (try dsimp only at hSw); go_simp; try with_reducible rfl
      try simp only [Act.put, List.setIfInBounds_toArray, List.set_cons_zero, List.set_cons_succ]
      refine wpAnyH_take (i := 11) (v := ?_) (List.getElem?_toArray.trans (List.getElem?_cons_succ.trans (List.getElem?_cons_succ.trans (List.getElem?_cons_succ.trans (List.getElem?_cons_succ.trans (List.getElem?_cons_succ.trans (List.getElem?_cons_succ.trans (List.getElem?_cons_succ.trans (List.getElem?_cons_succ.trans (List.getElem?_cons_succ.trans (List.getElem?_cons_succ.trans (List.getElem?_cons_succ.trans (List.getElem?_cons_zero))))))))))))) (by kernel_rfl) (by kernel_rfl) (by kernel_rfl) (fun _ _ _ h => h) (Or.inl ⟨by rfl, ?_⟩) (by assumption) ?_
      rotate_left
      · intro w' hSw; (try dsimp only at hSw); go_simp; try with_reducible rfl
      try simp only [Act.put, List.setIfInBounds_toArray, List.set_cons_zero, List.set_cons_succ]
      refine wpAnyH_take (i := 12) (v := ?_) (List.getElem?_toArray.trans (List.getElem?_cons_succ.trans (List.getElem?_cons_succ.trans (List.getElem?_cons_succ.trans (List.getElem?_cons_succ.trans (List.getElem?_cons_succ.trans (List.getElem?_cons_succ.trans (List.getElem?_cons_succ.trans (List.getElem?_cons_succ.trans (List.getElem?_cons_succ.trans (List.getElem?_cons_succ.trans (List.getElem?_cons_succ.trans (List.getElem?_cons_succ.trans (List.getElem?_cons_zero)))))))))))))) (by kernel_rfl) (by kernel_rfl) (by kernel_rfl) (fun _ _ _ h => h) (Or.inl ⟨by rfl, ?_⟩) (by assumption) ?_
      rotate_left
      · intro w' hSw; (try dsimp only at hSw); go_simp; try with_reducible rfl
      try simp only [Act.put, List.setIfInBounds_toArray, List.set_cons_zero, List.set_cons_succ]
      refine wpAnyH_take (i := 13) (v := ?_) (List.getElem?_toArray.trans (List.getElem?_cons_succ.trans (List.getElem?_cons_succ.trans (List.getElem?_cons_succ.trans (List.getElem?_cons_succ.trans (List.getElem?_cons_succ.trans (List.getElem?_cons_succ.trans (List.getElem?_cons_succ.trans (List.getElem?_cons_succ.trans (List.getElem?_cons_succ.trans (List.getElem?_cons_succ.trans (List.getElem?_cons_succ.trans (List.getElem?_cons_succ.trans (List.getElem?_cons_succ.trans (List.getElem?_cons_zero))))))))))))))) (by kernel_rfl) (by kernel_rfl) (by kernel_rfl) (fun _ _ _ h => h) (Or.inl ⟨by rfl, ?_⟩) (by assumption) ?_
      rotate_left
      · intro w' hSw; (try dsimp only at hSw); go_simp; try with_reducible rfl
      try simp only [Act.put, List.setIfInBounds_toArray, List.set_cons_zero, List.set_cons_succ]
      refine wpAnyH_ready (rs := [14]) (by kernel_rfl) (by simp) ?_
      refine AllReadyH.cons (List.getElem?_toArray.trans (List.getElem?_cons_succ.trans (List.getElem?_cons_succ.trans (List.getElem?_cons_succ.trans (List.getElem?_cons_succ.trans (List.getElem?_cons_succ.trans (List.getElem?_cons_succ.trans (List.getElem?_cons_succ.trans (List.getElem?_cons_succ.trans (List.getElem?_cons_succ.trans (List.getElem?_cons_succ.trans (List.getElem?_cons_succ.trans (List.getElem?_cons_succ.trans (List.getElem?_cons_succ.trans (List.getElem?_cons_succ.trans (List.getElem?_cons_zero)))))))))))))))) (fun K hK => ?_) AllReadyH.nil
      refine wp_store_row 57 (.tmp 6) (.tmp 227) rfl (g4 + 2) cs rfl rfl 57 rzero HSd.out.b6 (rsize_of HC5.out.1) (by rw [HC5.out.1]; rfl) HC5.out.2.1 ?_
      intro w8 hb8 hg8
      have hS8 : (fun w' => Blk w' g4 57 cs.toArray ∧ w'.cell? ⟨g4, 0, none⟩ = some (.slice (some ⟨bh, oh, none⟩) 4 ca0) ∧ w'.cell? ⟨g4 + 1, 1, none⟩ = some (.int .i64 (p : Int)) ∧ w'.cell? ⟨bh, oh + p, none⟩ = some (.string sB) ∧ (convert 27 9 (.slice A4 64 c4)).run Try.prog w' = .ok (.string sB) w') w8 := by
        have hx := HS0.out
        have hk8 : Kept (· = g4 + 2) w4.drew w8 := .of_grown hg8 (fun g e => .inl (Option.some.inj e).symm)
        refine ⟨hk8.blk hx.1 (by omega), (World.cell?_of_block (hk8.block g4 HSd.out.b4.lt (by omega))).trans hx.2.1, (World.cell?_of_block (hk8.block (g4 + 1) HSd.out.b5.lt (by omega))).trans hx.2.2.1, (World.cell?_of_block (hk8.block bh (World.block_lt_of_cell? _ _ hx.2.2.2.1) hbh)).trans hx.2.2.2.1, ?_⟩
        have h8 : Held w8 (fun g => F g ∨ g ≤ g4 + 2) A4 L := (HH4.out.below (w' := w4.drew) ((Below.refl _ _).drew)).step (hk8.mono (fun g e => .inr (by omega))) (fun _ => .inl)
        have := h8.conv (P := Try.prog) HLq.out.1 Try.underlying27 Try.underlying5 c4 Try.underlying9 w8 (Below.refl _ _)
        rw [HLq.out.2.1] at this
        exact this
      refine hK.out _ _ hS8 (fun hHeld => ?_)
      clear hK K
      try simp only [Act.put, List.setIfInBounds_toArray, List.set_cons_zero, List.set_cons_succ]
      refine wpAnyH_take (i := 15) (v := ?_) (List.getElem?_toArray.trans (List.getElem?_cons_succ.trans (List.getElem?_cons_succ.trans (List.getElem?_cons_succ.trans (List.getElem?_cons_succ.trans (List.getElem?_cons_succ.trans (List.getElem?_cons_succ.trans (List.getElem?_cons_succ.trans (List.getElem?_cons_succ.trans (List.getElem?_cons_succ.trans (List.getElem?_cons_succ.trans (List.getElem?_cons_succ.trans (List.getElem?_cons_succ.trans (List.getElem?_cons_succ.trans (List.getElem?_cons_succ.trans (List.getElem?_cons_succ.trans (List.getElem?_cons_zero))))))))))))))))) (by kernel_rfl) (by kernel_rfl) (by kernel_rfl) (fun _ _ _ h => h) (Or.inl ⟨by rfl, ?_⟩) (by assumption) ?_
      rotate_left
      · intro w' hSw; (try dsimp only at hSw); go_simp; try with_reducible rfl
      try simp only [Act.put, List.setIfInBounds_toArray, List.set_cons_zero, List.set_cons_succ]
      refine wpAnyH_done (by kernel_rfl) ?_ _
      repeat (first | go_values | go_skip | go_guarded | go_step)
      refine bodyPost_rowv rfl (g4 + 2) rfl (.bool _) rfl 57 _ _ hb8 Try.underlying57 rfl (rsize_arr (And.intro HC5.out.1 HC5.out.2.1).1) rfl ?_
      exact HSd.out.done hg8 _ (by have := HH.out.km; omega) (by have := HH.out.kd; omega) HH.out.m4 HH.out.d4 HH.out.md
    · have hge : pa ≥ 4 := by omega
      have hr : m.hasAt pa = ([], 4) := by unfold Dk.hasAt; rw [show inside m pa = false by unfold inside; rw [HH.out.m4]; simp; omega]; rfl
      have hhs := dkHas w3 gd F m HS.out.code pa
      rw [hr] at hhs
      have HHs := Lib.hid hhs
      clear hhs hr
      go_wp2_with fail
      refine HHs.out.mono ?_
      rintro e w4 ⟨v4, rfl, hown4, hb4⟩
      obtain ⟨A4, c4, rfl, _, _⟩ := Held.own hown4 HS.out.code.lt
      have HS4 := Lib.hid (HS.out.below hb4)
      have hca4 : w4.cell? ⟨g4 + 1, 1, none⟩ = some (.int .i64 pa) := by rw [HS4.out.b5.cell, ← HX.out, ← HAt.out.2.1]; rfl
      have hc04 : w4.cell? ⟨g4, 0, none⟩ = some (.slice A0 4 ca0) := by rw [HS4.out.b4.cell, HC5.out.2.2, ← HH.out.d4]; rfl
      simp only [List.length_nil]
      clear hown4 hb4 hca hco hcf hck hc0
      go_wp2_with (first | (with_reducible refine st_load 57 ?_; refine stopped ?_) | fail)
      refine go_on ?_
      refine wpList_load_at rfl 57 (.tmp 4) rfl g4 0 rfl cs.toArray _ (Blk.cells HS4.out.b4) Try.underlying57 rfl (rsize_arr HC5.out.1) ?_
      simp only [Act.put, List.setIfInBounds_toArray, List.set_cons_zero, List.set_cons_succ]
      go_wp2_with (first | (with_reducible refine st_store 57 ?_; refine stopped ?_) | fail)
      refine go_on ?_
      refine wpList_store_whole rfl 57 (.tmp 6) (.tmp 219) rfl (g4 + 2) cs rfl rfl 57 rzero HS4.out.b6 (rsize_of (And.intro HC5.out.1 HC5.out.2.1).1) (by rw [(And.intro HC5.out.1 HC5.out.2.1).1]; rfl) (And.intro HC5.out.1 HC5.out.2.1).2 ?_
      intro w8 hb8 hg8
      simp only [Act.put, List.setIfInBounds_toArray, List.set_cons_zero, List.set_cons_succ]
      repeat (first | go_values | go_skip | go_guarded | go_step)
      refine bodyPost_rowv rfl (g4 + 2) rfl (.bool _) rfl 57 _ _ hb8 Try.underlying57 rfl (rsize_arr (And.intro HC5.out.1 HC5.out.2.1).1) rfl ?_
      exact HS4.out.done hg8 _ (by have := HH.out.km; omega) (by have := HH.out.kd; omega) HH.out.m4 HH.out.d4 HH.out.md
end Go.Proofs.Ytnnjneijdfibnaa
