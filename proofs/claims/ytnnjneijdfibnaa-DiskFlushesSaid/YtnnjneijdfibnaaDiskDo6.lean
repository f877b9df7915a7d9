/-
  The law's Do where it loads. Conditions: the theorem's own premises.
-/
import Derived.Test.YtnnjneijdfibnaaDiskDo5
namespace Go.Proofs.Ytnnjneijdfibnaa
open Go.RowKit

theorem load_waits (m : Dk) (b : List UInt8) : (m.load b).1.waits.length ≤ m.waits.length := by
  unfold Dk.load
  split
  · exact Nat.le_refl _
  · simp
theorem load_has (m : Dk) (b : List UInt8) : (m.load b).1.has.length = m.has.length := by
  unfold Dk.load
  split
  · rfl
  · exact cutsN_length _ _
theorem bs_take {w : World} {B : Nat} {A : Option Addr} {l : List UInt8} (h : Bs w B A l) (k : Nat) : Bs w B A (l.take k) := fun hn => by
  rw [List.length_take] at hn
  obtain ⟨b, o, e, hb, hc⟩ := h (by omega)
  refine ⟨b, o, e, hb, fun j hj => ?_⟩
  rw [List.length_take] at hj
  rw [hc j (by omega)]
  simp
theorem blk_bs {w : World} {g : Nat} {t : TypeId} {M : List UInt8} (h : Blk w g t (bv M).toArray) : Bs w w.heap.size (some ⟨g, 0, none⟩) M := fun _ => ⟨g, 0, rfl, h.lt, fun j hj => by rw [h.cell, Nat.zero_add, List.getElem?_toArray]; exact bv_get hj⟩
set_option maxRecDepth 100000 in
set_option maxHeartbeats 4000000 in
set_option linter.unusedSimpArgs false in
theorem do_load (w : World) (gd : Nat) (F : Nat → Prop) (m : Dk) (k : Nat) (cs : List Value) (d : Dk) (a : ActV) (S : Option Addr) (n c : Nat) (h : DoPre w gd F m k cs d a S n) (hdo : a.do_ = 9) :
    Calls Try.prog 25 #[.pointer (some ⟨gd, 0, none⟩), .agg cs.toArray, .agg (actCells a S c).toArray] w (DoPost w gd F k cs d S n) := by
  obtain ⟨hok, A0, W0, S0, ca0, cw0, cv0, ecs, hA0, hW0, hS0⟩ := h.ref
  have hRef : RefIs w w.heap.size cs d := h.ref
  have hlen : cs.length = 5 := by rw [ecs]; rfl
  have hone : ∀ v ∈ cs, v.oneCell' = true := by rw [ecs]; exact refCells_one _ _ _ _ _ _ _
  have HC5 := Lib.hid (And.intro hlen (And.intro hone ecs))
  have HH := Lib.hid h
  obtain ⟨X, eX⟩ : ∃ X, actCells a S c = X := ⟨_, rfl⟩
  have HX := Lib.hid eX
  rw [eX]
  obtain ⟨C, eC⟩ : ∃ C, cs.toArray = C := ⟨_, rfl⟩
  obtain ⟨Y, eY⟩ : ∃ Y, X.toArray = Y := ⟨_, rfl⟩
  rw [eC, eY]
  have HCY := Lib.hid (And.intro eC eY)
  clear hok hA0 hW0 hS0 hlen hone h hRef eX eC eY
  clear ecs
  go_enter Try.func25, Try.ntmps25
  go_wp2_with (first | (with_reducible refine st_box 57 ?_; refine stopped ?_) | fail)
  refine go_on ?_
  refine wpList_box rfl 57 (.tmp 1) rfl C rfl ?_
  intro w1 hb1 hw1 hz1
  refine wpList_box rfl 44 (.tmp 2) rfl Y rfl ?_
  intro w2 hb2 hw2 hz2
  refine wpList_alloc rfl 57 rfl _ rdisk_zero ?_
  intro w3 hb3 hw3 hz3
  obtain ⟨g4, e4⟩ : ∃ g, w.heap.size = g := ⟨_, rfl⟩
  have e5 : w1.heap.size = g4 + 1 := by omega
  have e6 : w2.heap.size = g4 + 2 := by omega
  rw [e4] at hb1 hw1 ⊢
  rw [e5] at hb2 hw2 ⊢
  rw [e6] at hb3 hw3 ⊢
  simp only [Act.put, List.setIfInBounds_toArray, List.set_cons_zero, List.set_cons_succ]
  rw [← HCY.out.1] at hb1
  rw [← HCY.out.2] at hb2
  have hbw : Below g4 w w3 := (hw1.trans (hw2.mono (by omega))).trans (hw3.mono (by omega))
  have hst : DoS w w3 gd g4 F F m cs d S n cs d X := ⟨HH.out.code.below (e4.symm ▸ hbw), (HH.out.ref.below (e4.symm ▸ hbw)).more (by omega), HH.out.far, HH.out.ref.beyond (by omega), HH.out.ref.beyond (by omega), fun _ _ h _ => h,
    (hb1.below hw2 (by omega)).below hw3 (by omega), hb2.below hw3 (by omega), hb3, e4, fun g hg => by have := HH.out.code.lt g hg; omega, .of_below (e4.symm ▸ hbw), fun _ => .inl⟩
  have HS := Lib.hid hst
  have hcd : w3.cell? ⟨g4 + 1, 0, none⟩ = some (.int .i64 a.do_) := by rw [hst.b5.cell, ← HX.out]; rfl
  have hca : w3.cell? ⟨g4 + 1, 1, none⟩ = some (.int .i64 a.at_) := by rw [hst.b5.cell, ← HX.out]; rfl
  have hco : w3.cell? ⟨g4 + 1, 2, none⟩ = some (.int .i64 a.off) := by rw [hst.b5.cell, ← HX.out]; rfl
  have hcf : w3.cell? ⟨g4 + 1, 3, none⟩ = some (.int .u8 (a.fill.toNat : Int)) := by rw [hst.b5.cell, ← HX.out]; rfl
  have hck : w3.cell? ⟨g4 + 1, 4, none⟩ = some (.slice S n c) := by rw [hst.b5.cell, ← HX.out, ← HH.out.keep]; rfl
  have hbase := e4
  clear hb1 hb2 hb3 hw1 hw2 hw3 hz1 hz2 hz3 e4 e5 e6 hbw hst
  obtain ⟨pd, epd⟩ : ∃ x, a.do_ = x := ⟨_, rfl⟩
  obtain ⟨pa, epa⟩ : ∃ x, a.at_ = x := ⟨_, rfl⟩
  obtain ⟨po, epo⟩ : ∃ x, a.off = x := ⟨_, rfl⟩
  obtain ⟨fl, efl⟩ : ∃ x, a.fill.toNat = x := ⟨_, rfl⟩
  rw [epd] at hcd
  rw [epa] at hca
  rw [epo] at hco
  rw [efl] at hcf
  have HAt := Lib.hid (And.intro epd (And.intro epa (And.intro epo efl)))
  rw [hdo] at epd
  subst epd
  clear epa epo efl hdo
  have hc0 : w3.cell? ⟨g4, 0, none⟩ = some (.slice A0 4 ca0) := by rw [HS.out.b4.cell, HC5.out.2.2, ← HH.out.d4]; rfl
  obtain ⟨r, er, hr0, hr1⟩ : ∃ r, Int.tmod po 2 = r ∧ -1 ≤ r ∧ r ≤ 1 := by
    refine ⟨_, rfl, ?_, ?_⟩
    · have := Int.lt_tmod_of_pos po (show (0 : Int) < 2 by decide)
      omega
    · have := Int.tmod_lt_of_pos po (show (0 : Int) < 2 by decide)
      omega
  have hwr : IntKind.i64.wrap r = r := IntWalk.i64_in _ (by omega)
  obtain ⟨nb, hnb⟩ : ∃ nb : Nat, 256 + r = (nb : Int) := ⟨(256 + r).toNat, by omega⟩
  have hnb2 : 255 ≤ nb ∧ nb ≤ 257 := by omega
  go_wp2_with (first
    | (refine wpList_make_bs rfl (.tmp 166) (.tmp 166) rfl nb rfl rfl (by omega) ?_; intro w4 hb4 hw4 hz4; refine stopped ?_)
    | fail)
  refine go_on ?_
  clear er
  obtain ⟨gb, egb⟩ : ∃ g, w3.heap.size = g := ⟨_, rfl⟩
  have HS4 := Lib.hid (HS.out.below hw4)
  rw [egb] at hb4 ⊢
  have hca4 : w4.cell? ⟨g4 + 1, 1, none⟩ = some (.int .i64 pa) := by rw [HS4.out.b5.cell, ← HX.out, ← HAt.out.2.1]; rfl
  have hcf4 : w4.cell? ⟨g4 + 1, 3, none⟩ = some (.int .u8 (fl : Int)) := by rw [HS4.out.b5.cell, ← HX.out, ← HAt.out.2.2.2]; rfl
  have hc04 : w4.cell? ⟨g4, 0, none⟩ = some (.slice A0 4 ca0) := by rw [HS4.out.b4.cell, HC5.out.2.2, ← HH.out.d4]; rfl
  have HB4 := Lib.hid (And.intro hb4 egb)
  clear hb4 hw4 hz4 egb hca hco hcf hck hc0
  by_cases hp0 : 0 ≤ pa
  · have hge : pa ≥ 0 := hp0
    by_cases hp4 : pa < 4
    · obtain ⟨p, rfl⟩ : ∃ p : Nat, pa = (p : Int) := ⟨pa.toNat, by omega⟩
      obtain ⟨o, eo⟩ : ∃ o, 64 * p = o := ⟨_, rfl⟩
      have hoi : (64 : Int) * (p : Int) = (o : Int) := by omega
      have hwo : IntKind.i64.wrap (o : Int) = (o : Int) := IntWalk.i64_in _ (by omega)
      have hob : o ≤ nb := by omega
      have hob2 : (o : Int) ≤ (nb : Int) := by omega
      have ho192 : o ≤ 192 := by omega
      have hnbo : ¬ nb = o := by omega
      obtain ⟨L, eL⟩ : ∃ x, List.replicate 64 a.fill = x := ⟨_, rfl⟩
      have hL : L.length = 64 := by rw [← eL]; simp
      have hsec : ∀ w : World, Calls Try.prog 20 #[.int .u8 (fl : Int), .int .i64 0] w (OwnPost w L) := fun w => by
        rw [← HAt.out.2.2.2, ← eL]
        exact sector_any w a.fill 0
      have HSec := Lib.hid (And.intro hsec hL)
      have HSd := Lib.hid (HS4.out.below ((Below.refl w4.heap.size w4).drew))
      clear hsec eL hL eo
      go_wp2_with fail
      have hS0 : (fun w' : World => w'.cell? ⟨g4 + 1, 1, none⟩ = some (.int .i64 (p : Int)) ∧ w'.cell? ⟨g4 + 1, 3, none⟩ = some (.int .u8 (fl : Int))) w4.drew := ⟨hca4, hcf4⟩
      refine wp_region_held_drew (S := fun w' => w'.cell? ⟨g4 + 1, 1, none⟩ = some (.int .i64 (p : Int)) ∧ w'.cell? ⟨g4 + 1, 3, none⟩ = some (.int .u8 (fl : Int))) (by kernel_rfl) hS0 (fun hHeld => ?_)
      refine wpAnyH_take (i := 0) (v := ?_) (List.getElem?_toArray.trans (List.getElem?_cons_zero)) (by kernel_rfl) (by kernel_rfl) (by kernel_rfl) (fun _ _ _ h => h) (Or.inl ⟨by rfl, ?_⟩) (by assumption) ?_
      rotate_left
      · intro w' hSw; (try dsimp only at hSw); go_simp; try with_reducible rfl
      try simp only [Act.put, List.setIfInBounds_toArray, List.set_cons_zero, List.set_cons_succ]
      refine wpAnyH_take (i := 1) (v := ?_) (List.getElem?_toArray.trans (List.getElem?_cons_succ.trans (List.getElem?_cons_zero))) (by kernel_rfl) (by kernel_rfl) (by kernel_rfl) (fun _ _ _ h => h) (Or.inl ⟨by rfl, ?_⟩) (by assumption) ?_
      rotate_left
      · intro w' hSw; (try dsimp only at hSw); go_simp; try with_reducible rfl
      try simp only [Act.put, List.setIfInBounds_toArray, List.set_cons_zero, List.set_cons_succ]
      refine wpAnyH_take (i := 2) (v := ?_) (List.getElem?_toArray.trans (List.getElem?_cons_succ.trans (List.getElem?_cons_succ.trans (List.getElem?_cons_zero)))) (by kernel_rfl) (by kernel_rfl) (by kernel_rfl) (fun _ _ _ h => h) (Or.inl ⟨by rfl, ?_⟩) (by assumption) ?_
      rotate_left
      · intro w' hSw; (try dsimp only at hSw); go_simp; try with_reducible rfl
      try simp only [Act.put, List.setIfInBounds_toArray, List.set_cons_zero, List.set_cons_succ]
      refine wpAnyH_take (i := 3) (v := ?_) (List.getElem?_toArray.trans (List.getElem?_cons_succ.trans (List.getElem?_cons_succ.trans (List.getElem?_cons_succ.trans (List.getElem?_cons_zero))))) (by kernel_rfl) (by kernel_rfl) (by kernel_rfl) (fun _ _ _ h => h) (Or.inl ⟨by rfl, ?_⟩) (by assumption) ?_
      rotate_left
      · intro w' hSw; (try dsimp only at hSw); go_simp; try with_reducible rfl
      try simp only [Act.put, List.setIfInBounds_toArray, List.set_cons_zero, List.set_cons_succ]
      refine wpAnyH_take (i := 4) (v := ?_) (List.getElem?_toArray.trans (List.getElem?_cons_succ.trans (List.getElem?_cons_succ.trans (List.getElem?_cons_succ.trans (List.getElem?_cons_succ.trans (List.getElem?_cons_zero)))))) (by kernel_rfl) (by kernel_rfl) (by kernel_rfl) (fun _ _ _ h => h) (Or.inl ⟨by rfl, ?_⟩) (by assumption) ?_
      rotate_left
      · intro w' hSw; (try dsimp only at hSw); go_simp; try with_reducible rfl
      try simp only [Act.put, List.setIfInBounds_toArray, List.set_cons_zero, List.set_cons_succ]
      refine wpAnyH_take (i := 5) (v := ?_) (List.getElem?_toArray.trans (List.getElem?_cons_succ.trans (List.getElem?_cons_succ.trans (List.getElem?_cons_succ.trans (List.getElem?_cons_succ.trans (List.getElem?_cons_succ.trans (List.getElem?_cons_zero))))))) (by kernel_rfl) (by kernel_rfl) (by kernel_rfl) (fun _ _ _ h => h) (Or.inl ⟨by rfl, ?_⟩) (by assumption) ?_
      rotate_left
      · intro w' hSw; (try dsimp only at hSw); go_simp; try with_reducible rfl
      try simp only [Act.put, List.setIfInBounds_toArray, List.set_cons_zero, List.set_cons_succ]
      refine wpAnyH_take (i := 6) (v := ?_) (List.getElem?_toArray.trans (List.getElem?_cons_succ.trans (List.getElem?_cons_succ.trans (List.getElem?_cons_succ.trans (List.getElem?_cons_succ.trans (List.getElem?_cons_succ.trans (List.getElem?_cons_succ.trans (List.getElem?_cons_zero)))))))) (by kernel_rfl) (by kernel_rfl) (by kernel_rfl) (fun _ _ _ h => h) (Or.inl ⟨by rfl, ?_⟩) (by assumption) ?_
      rotate_left
      · intro w' hSw; (try dsimp only at hSw); go_simp; try with_reducible rfl
      try simp only [Act.put, List.setIfInBounds_toArray, List.set_cons_zero, List.set_cons_succ]
      refine wpAnyH_ready (rs := [7]) (by kernel_rfl) (by simp) ?_
      refine AllReadyH.cons (List.getElem?_toArray.trans (List.getElem?_cons_succ.trans (List.getElem?_cons_succ.trans (List.getElem?_cons_succ.trans (List.getElem?_cons_succ.trans (List.getElem?_cons_succ.trans (List.getElem?_cons_succ.trans (List.getElem?_cons_succ.trans (List.getElem?_cons_zero))))))))) (fun K hK => ?_) AllReadyH.nil
      go_simp
      refine (HSec.out.1 _).mono ?_
      rintro e w5 ⟨v5, rfl, hown5, hb5⟩
      obtain ⟨A5, c5, rfl, hbs5, _⟩ := hown5.slice
      rw [HSec.out.2]
      have HS5 := Lib.hid (HSd.out.below hb5)
      have hB5 : Blk w5 gb 5 (bv (List.replicate nb 0)).toArray := HB4.out.1.below (w := w4.drew) hb5 HB4.out.1.lt
      have hS5 : (fun w' : World => w'.cell? ⟨g4 + 1, 1, none⟩ = some (.int .i64 (p : Int)) ∧ w'.cell? ⟨g4 + 1, 3, none⟩ = some (.int .u8 (fl : Int))) w5 := ⟨(hb5.cell (p := ⟨g4 + 1, 1, none⟩) HSd.out.b5.lt).trans hca4, (hb5.cell (p := ⟨g4 + 1, 3, none⟩) HSd.out.b5.lt).trans hcf4⟩
      have HB5 := Lib.hid (And.intro hB5 hbs5)
      clear hown5 hbs5 hb5 hB5
      refine hK.out _ _ hS5 (fun hHeld => ?_)
      clear hK K
      try simp only [Act.put, List.setIfInBounds_toArray, List.set_cons_zero, List.set_cons_succ]
      refine wpAnyH_ready (rs := [8]) (by kernel_rfl) (by simp) ?_
      refine AllReadyH.cons (List.getElem?_toArray.trans (List.getElem?_cons_succ.trans (List.getElem?_cons_succ.trans (List.getElem?_cons_succ.trans (List.getElem?_cons_succ.trans (List.getElem?_cons_succ.trans (List.getElem?_cons_succ.trans (List.getElem?_cons_succ.trans (List.getElem?_cons_succ.trans (List.getElem?_cons_zero)))))))))) (fun K hK => ?_) AllReadyH.nil
      have hq1 : ((bv (L.take (min 64 (nb - o)))).length) = Nat.min 64 (nb - o) := by rw [bv_length, List.length_take, HSec.out.2]; exact Nat.min_eq_left (Nat.min_le_left _ _)
      have hqle : (bv (L.take (min 64 (nb - o)))).length ≤ nb - o := by rw [hq1]; exact Nat.min_le_right _ _
      refine wp_copy_to (.tmp 183) (.tmp 186) 27 27 rfl 5 Try.underlying27 u8_size gb o (nb - o) (nb - o) 64 c5 A5 rfl rfl (bv (List.replicate nb 0)) 5 HB5.out.1 (bv (L.take (min 64 (nb - o)))) hq1 (bs_src (bs_take HB5.out.2 _)) (by rw [bv_length (List.replicate nb 0), List.length_replicate]; omega) (bv_one _) ?_
      intro w6 hb6 hg6
      have hS6 : (fun w' : World => w'.cell? ⟨g4 + 1, 1, none⟩ = some (.int .i64 (p : Int)) ∧ w'.cell? ⟨g4 + 1, 3, none⟩ = some (.int .u8 (fl : Int))) w6 := by
        have hne : gb ≠ g4 + 1 := by have := HS.out.siz; have := HB4.out.2; omega
        exact ⟨(World.cell?_of_block (hg6.block (g4 + 1) HS5.out.b5.lt (some_neq (Ne.symm hne)))).trans hS5.1, (World.cell?_of_block (hg6.block (g4 + 1) HS5.out.b5.lt (some_neq (Ne.symm hne)))).trans hS5.2⟩
      refine hK.out _ _ hS6 (fun _ => ?_)
      clear hK K
      refine wpAnyH_done (by kernel_rfl) ?_ _
      have HSx := Lib.hid (HS5.out.other (G := (· = gb)) (.of_grown hg6 (fun g e => .inl (Option.some.inj e).symm)) (fun g e => by
        subst e
        have h2 := HB4.out.2
        refine ⟨fun hf => by have := HS.out.code.lt _ hf; omega, HS.out.ref.beyond (by omega), by have := HS.out.siz; omega⟩))
      obtain ⟨M, eM⟩ : ∃ M, splice (List.replicate nb (0 : UInt8)) o (L.take (min 64 (nb - o))) = M := ⟨_, rfl⟩
      rw [bv_splice, eM] at hb6
      have hMl : M.length = nb := by
        rw [← eM, splice_length _ _ _ (by rw [List.length_take, HSec.out.2, List.length_replicate]; omega)]
        simp
      have HM := Lib.hid (And.intro hb6 hMl)
      clear hb6 hg6 eM hMl hq1 hqle hS6 hS5 hca4 hcf4 hc04
      have hM5 : Blk w6 gb 5 (bv M).toArray ∧ M.length = nb := HM.out
      have hconv := bs_conv (P := Try.prog) (blk_bs HM.out.1) HM.out.2 Try.underlying27 Try.underlying5 nb Try.underlying9 w6 (Below.refl _ _)
      obtain ⟨sB, esB⟩ : ∃ x : ByteArray, (⟨M.toArray⟩ : ByteArray) = x := ⟨_, rfl⟩
      rw [esB] at hconv
      clear hM5
      go_wp2_with (first | (with_reducible refine st_load 57 ?_; refine stopped ?_) | fail)
      refine go_on ?_
      refine wpList_load_at rfl 57 (.tmp 4) rfl g4 0 rfl cs.toArray _ (Blk.cells HSx.out.b4) Try.underlying57 rfl (rsize_arr HC5.out.1) ?_
      simp only [Act.put, List.setIfInBounds_toArray, List.set_cons_zero, List.set_cons_succ]
      obtain ⟨dw, edw⟩ : ∃ x, d.load M = x := ⟨_, rfl⟩
      have hrc := refLoad_any w6 cs d HSx.out.ref M
      rw [edw, show sv M = .string sB from congrArg Value.string esB] at hrc
      have HRc := Lib.hid hrc
      clear hrc esB
      have hw1 := load_waits d M
      have hw2 := load_has d M
      rw [edw] at hw1 hw2
      have HEd := Lib.hid edw
      clear edw
      go_wp2_with fail
      refine HRc.out.mono ?_
      rintro e w7 ⟨cs5, rfl, hR5, hf5, hb5⟩
      have hsh := hR5.shape
      have HR5 := Lib.hid (And.intro hR5 (And.intro hf5 (And.intro hb5 hsh)))
      clear hR5 hf5 hb5 hsh
      obtain ⟨nd, end_⟩ : ∃ x, dw.2 = x := ⟨_, rfl⟩
      rw [end_]
      clear end_
      go_wp2_with (first | (with_reducible refine st_store 57 ?_; refine stopped ?_) | fail)
      refine go_on ?_
      refine wpList_store_whole rfl 57 (.tmp 4) (.tmp 193) rfl g4 cs5 rfl rfl 57 cs (HSx.out.b4.below HR5.out.2.2.1 (by have := HSx.out.siz; omega)) (rsize_of HR5.out.2.2.2.1) (by rw [HC5.out.1, HR5.out.2.2.2.1]) HR5.out.2.2.2.2 ?_
      intro w8 hb8 hg8
      simp only [Act.put, List.setIfInBounds_toArray, List.set_cons_zero, List.set_cons_succ]
      have HS8 := Lib.hid (HSx.out.onRef HR5.out.1 HR5.out.2.1 HR5.out.2.2.1 hg8 hb8)
      have HSd := Lib.hid (HS8.out.below ((Below.refl w8.heap.size w8).drew))
      have hgb : gb ≠ g4 := by have := HS.out.siz; have := HB4.out.2; omega
      have hM8' : Blk w8 gb 5 (bv M).toArray := (HM.out.1.below HR5.out.2.2.1 HM.out.1.lt).grown hg8 (some_neq hgb)
      have hM8 : Blk w8.drew gb 5 (bv M).toArray := hM8'
      have HM8 := Lib.hid hM8
      clear hb8 hg8 hM8 hM8' hconv
      go_wp2_with fail
      obtain ⟨mw, emw⟩ : ∃ x, m.load M = x := ⟨_, rfl⟩
      have hlc := dkLoad w8.drew gd F m HSd.out.code (some ⟨gb, 0, none⟩) M nb (blk_bs HM8.out)
      rw [emw, HM.out.2] at hlc
      have hw3 := load_waits m M
      have hw4 := load_has m M
      rw [emw] at hw3 hw4
      have HMd := Lib.hid (show mw = dw by rw [← emw, ← HEd.out, HH.out.md])
      have HLc := Lib.hid hlc
      clear hlc emw
      have hS0 : (fun w' : World => Blk w' g4 57 cs5.toArray) w8.drew := HS8.out.b4
      refine wp_region_held_drew (S := fun w' => Blk w' g4 57 cs5.toArray) (by kernel_rfl) hS0 (fun hHeld => ?_)
      refine wpAnyH_take (i := 1) (v := ?_) (List.getElem?_toArray.trans (List.getElem?_cons_succ.trans (List.getElem?_cons_zero))) (by kernel_rfl) (by kernel_rfl) (by kernel_rfl) (fun _ _ _ h => h) (Or.inl ⟨by rfl, ?_⟩) (by assumption) ?_
      rotate_left
      · intro w' hSw; (try dsimp only at hSw); go_simp; try with_reducible rfl
      try simp only [Act.put, List.setIfInBounds_toArray, List.set_cons_zero, List.set_cons_succ]
      refine wpAnyH_take (i := 2) (v := ?_) (List.getElem?_toArray.trans (List.getElem?_cons_succ.trans (List.getElem?_cons_succ.trans (List.getElem?_cons_zero)))) (by kernel_rfl) (by kernel_rfl) (by kernel_rfl) (fun _ _ _ h => h) (Or.inl ⟨by rfl, ?_⟩) (by assumption) ?_
      rotate_left
      · intro w' hSw; (try dsimp only at hSw); go_simp; try with_reducible rfl
      try simp only [Act.put, List.setIfInBounds_toArray, List.set_cons_zero, List.set_cons_succ]
      refine wpAnyH_take (i := 4) (v := ?_) (List.getElem?_toArray.trans (List.getElem?_cons_succ.trans (List.getElem?_cons_succ.trans (List.getElem?_cons_succ.trans (List.getElem?_cons_succ.trans (List.getElem?_cons_zero)))))) (by kernel_rfl) (by kernel_rfl) (by kernel_rfl) (fun _ _ _ h => h) (Or.inl ⟨by rfl, ?_⟩) (by assumption) ?_
      rotate_left
      · intro w' hSw; (try dsimp only at hSw); go_simp; try with_reducible rfl
      try simp only [Act.put, List.setIfInBounds_toArray, List.set_cons_zero, List.set_cons_succ]
      refine wpAnyH_take (i := 0) (v := .agg cs5.toArray) (List.getElem?_toArray.trans (List.getElem?_cons_zero)) (by kernel_rfl) (by kernel_rfl) (by kernel_rfl) (fun _ _ _ h => h) (Or.inl ⟨by rfl, ?_⟩) (by assumption) ?_
      · intro w' hSw; exact exec_load_row 57 (.tmp 4) rfl g4 0 rfl cs5.toArray _ (Blk.cells hSw) Try.underlying57 rfl (rsize_arr HR5.out.2.2.2.1)
      try simp only [Act.put, List.setIfInBounds_toArray, List.set_cons_zero, List.set_cons_succ]
      refine wpAnyH_ready (rs := [3]) (by kernel_rfl) (by simp) ?_
      refine AllReadyH.cons (List.getElem?_toArray.trans (List.getElem?_cons_succ.trans (List.getElem?_cons_succ.trans (List.getElem?_cons_succ.trans (List.getElem?_cons_zero))))) (fun K hK => ?_) AllReadyH.nil
      go_simp
      refine HLc.out.mono ?_
      rintro e w9 ⟨rfl, h9, hk9⟩
      have HS9 := Lib.hid (HSd.out.onCode h9 hk9 (fun _ => .inl))
      obtain ⟨nm, enm⟩ : ∃ x, mw.2 = x := ⟨_, rfl⟩
      rw [enm]
      have hS9 : (fun w' : World => Blk w' g4 57 cs5.toArray) w9 := HS9.out.b4
      clear h9 hk9 enm
      refine hK.out _ _ hS9 (fun hHeld => ?_)
      clear hK K
      try simp only [Act.put, List.setIfInBounds_toArray, List.set_cons_zero, List.set_cons_succ]
      refine wpAnyH_take (i := 5) (v := ?_) (List.getElem?_toArray.trans (List.getElem?_cons_succ.trans (List.getElem?_cons_succ.trans (List.getElem?_cons_succ.trans (List.getElem?_cons_succ.trans (List.getElem?_cons_succ.trans (List.getElem?_cons_zero))))))) (by kernel_rfl) (by kernel_rfl) (by kernel_rfl) (fun _ _ _ h => h) (Or.inl ⟨by rfl, ?_⟩) (by assumption) ?_
      rotate_left
      · intro w' hSw; (try dsimp only at hSw); go_simp; try with_reducible rfl
      try simp only [Act.put, List.setIfInBounds_toArray, List.set_cons_zero, List.set_cons_succ]
      refine wpAnyH_ready (rs := [6]) (by kernel_rfl) (by simp) ?_
      refine AllReadyH.cons (List.getElem?_toArray.trans (List.getElem?_cons_succ.trans (List.getElem?_cons_succ.trans (List.getElem?_cons_succ.trans (List.getElem?_cons_succ.trans (List.getElem?_cons_succ.trans (List.getElem?_cons_succ.trans (List.getElem?_cons_zero)))))))) (fun K hK => ?_) AllReadyH.nil
      refine wp_store_row 57 (.tmp 6) (.tmp 195) rfl (g4 + 2) cs5 rfl rfl 57 rzero HS9.out.b6 (rsize_of HR5.out.2.2.2.1) (by rw [HR5.out.2.2.2.1]; rfl) HR5.out.2.2.2.2 ?_
      intro w10 hb10 hg10
      have hS10 : (fun w' : World => Blk w' g4 57 cs5.toArray) w10 := HS9.out.b4.grown hg10 (some_neq (by omega))
      refine hK.out _ _ hS10 (fun hHeld => ?_)
      clear hK K
      try simp only [Act.put, List.setIfInBounds_toArray, List.set_cons_zero, List.set_cons_succ]
      refine wpAnyH_take (i := 7) (v := ?_) (List.getElem?_toArray.trans (List.getElem?_cons_succ.trans (List.getElem?_cons_succ.trans (List.getElem?_cons_succ.trans (List.getElem?_cons_succ.trans (List.getElem?_cons_succ.trans (List.getElem?_cons_succ.trans (List.getElem?_cons_succ.trans (List.getElem?_cons_zero))))))))) (by kernel_rfl) (by kernel_rfl) (by kernel_rfl) (fun _ _ _ h => h) (Or.inl ⟨by rfl, ?_⟩) (by assumption) ?_
      rotate_left
      · intro w' hSw; (try dsimp only at hSw); go_simp; try with_reducible rfl
      try simp only [Act.put, List.setIfInBounds_toArray, List.set_cons_zero, List.set_cons_succ]
      refine wpAnyH_done (by kernel_rfl) ?_ _
      repeat (first | go_values | go_skip | go_guarded | go_step)
      refine bodyPost_rowv rfl (g4 + 2) rfl (.bool _) rfl 57 _ _ hb10 Try.underlying57 rfl (rsize_arr HR5.out.2.2.2.1) rfl ?_
      exact HS9.out.done hg10 _ (by have := HH.out.km; omega) (by have := HH.out.kd; omega) (by rw [hw4]; exact HH.out.m4) (by rw [hw2]; exact HH.out.d4) (by rw [HMd.out])
    · have hdone : True := trivial
      obtain ⟨M, eM⟩ : ∃ M, List.replicate nb (0 : UInt8) = M := ⟨_, rfl⟩
      have HM := Lib.hid (And.intro (eM ▸ HB4.out.1) (show M.length = nb by rw [← eM]; simp))
      have HSx := Lib.hid HS4.out
      clear eM
      have hM5 : Blk w4 gb 5 (bv M).toArray ∧ M.length = nb := HM.out
      have hconv := bs_conv (P := Try.prog) (blk_bs HM.out.1) HM.out.2 Try.underlying27 Try.underlying5 nb Try.underlying9 w4 (Below.refl _ _)
      obtain ⟨sB, esB⟩ : ∃ x : ByteArray, (⟨M.toArray⟩ : ByteArray) = x := ⟨_, rfl⟩
      rw [esB] at hconv
      clear hM5
      go_wp2_with (first | (with_reducible refine st_load 57 ?_; refine stopped ?_) | fail)
      refine go_on ?_
      refine wpList_load_at rfl 57 (.tmp 4) rfl g4 0 rfl cs.toArray _ (Blk.cells HSx.out.b4) Try.underlying57 rfl (rsize_arr HC5.out.1) ?_
      simp only [Act.put, List.setIfInBounds_toArray, List.set_cons_zero, List.set_cons_succ]
      obtain ⟨dw, edw⟩ : ∃ x, d.load M = x := ⟨_, rfl⟩
      have hrc := refLoad_any w4 cs d HSx.out.ref M
      rw [edw, show sv M = .string sB from congrArg Value.string esB] at hrc
      have HRc := Lib.hid hrc
      clear hrc esB
      have hw1 := load_waits d M
      have hw2 := load_has d M
      rw [edw] at hw1 hw2
      have HEd := Lib.hid edw
      clear edw
      go_wp2_with fail
      refine HRc.out.mono ?_
      rintro e w7 ⟨cs5, rfl, hR5, hf5, hb5⟩
      have hsh := hR5.shape
      have HR5 := Lib.hid (And.intro hR5 (And.intro hf5 (And.intro hb5 hsh)))
      clear hR5 hf5 hb5 hsh
      obtain ⟨nd, end_⟩ : ∃ x, dw.2 = x := ⟨_, rfl⟩
      rw [end_]
      clear end_
      go_wp2_with (first | (with_reducible refine st_store 57 ?_; refine stopped ?_) | fail)
      refine go_on ?_
      refine wpList_store_whole rfl 57 (.tmp 4) (.tmp 193) rfl g4 cs5 rfl rfl 57 cs (HSx.out.b4.below HR5.out.2.2.1 (by have := HSx.out.siz; omega)) (rsize_of HR5.out.2.2.2.1) (by rw [HC5.out.1, HR5.out.2.2.2.1]) HR5.out.2.2.2.2 ?_
      intro w8 hb8 hg8
      simp only [Act.put, List.setIfInBounds_toArray, List.set_cons_zero, List.set_cons_succ]
      have HS8 := Lib.hid (HSx.out.onRef HR5.out.1 HR5.out.2.1 HR5.out.2.2.1 hg8 hb8)
      have HSd := Lib.hid (HS8.out.below ((Below.refl w8.heap.size w8).drew))
      have hgb : gb ≠ g4 := by have := HS.out.siz; have := HB4.out.2; omega
      have hM8' : Blk w8 gb 5 (bv M).toArray := (HM.out.1.below HR5.out.2.2.1 HM.out.1.lt).grown hg8 (some_neq hgb)
      have hM8 : Blk w8.drew gb 5 (bv M).toArray := hM8'
      have HM8 := Lib.hid hM8
      clear hb8 hg8 hM8 hM8' hconv
      go_wp2_with fail
      obtain ⟨mw, emw⟩ : ∃ x, m.load M = x := ⟨_, rfl⟩
      have hlc := dkLoad w8.drew gd F m HSd.out.code (some ⟨gb, 0, none⟩) M nb (blk_bs HM8.out)
      rw [emw, HM.out.2] at hlc
      have hw3 := load_waits m M
      have hw4 := load_has m M
      rw [emw] at hw3 hw4
      have HMd := Lib.hid (show mw = dw by rw [← emw, ← HEd.out, HH.out.md])
      have HLc := Lib.hid hlc
      clear hlc emw
      have hS0 : (fun w' : World => Blk w' g4 57 cs5.toArray) w8.drew := HS8.out.b4
      refine wp_region_held_drew (S := fun w' => Blk w' g4 57 cs5.toArray) (by kernel_rfl) hS0 (fun hHeld => ?_)
      refine wpAnyH_take (i := 1) (v := ?_) (List.getElem?_toArray.trans (List.getElem?_cons_succ.trans (List.getElem?_cons_zero))) (by kernel_rfl) (by kernel_rfl) (by kernel_rfl) (fun _ _ _ h => h) (Or.inl ⟨by rfl, ?_⟩) (by assumption) ?_
      rotate_left
      · intro w' hSw; (try dsimp only at hSw); go_simp; try with_reducible rfl
      try simp only [Act.put, List.setIfInBounds_toArray, List.set_cons_zero, List.set_cons_succ]
      refine wpAnyH_take (i := 2) (v := ?_) (List.getElem?_toArray.trans (List.getElem?_cons_succ.trans (List.getElem?_cons_succ.trans (List.getElem?_cons_zero)))) (by kernel_rfl) (by kernel_rfl) (by kernel_rfl) (fun _ _ _ h => h) (Or.inl ⟨by rfl, ?_⟩) (by assumption) ?_
      rotate_left
      · intro w' hSw; (try dsimp only at hSw); go_simp; try with_reducible rfl
      try simp only [Act.put, List.setIfInBounds_toArray, List.set_cons_zero, List.set_cons_succ]
      refine wpAnyH_take (i := 4) (v := ?_) (List.getElem?_toArray.trans (List.getElem?_cons_succ.trans (List.getElem?_cons_succ.trans (List.getElem?_cons_succ.trans (List.getElem?_cons_succ.trans (List.getElem?_cons_zero)))))) (by kernel_rfl) (by kernel_rfl) (by kernel_rfl) (fun _ _ _ h => h) (Or.inl ⟨by rfl, ?_⟩) (by assumption) ?_
      rotate_left
      · intro w' hSw; (try dsimp only at hSw); go_simp; try with_reducible rfl
      try simp only [Act.put, List.setIfInBounds_toArray, List.set_cons_zero, List.set_cons_succ]
      refine wpAnyH_take (i := 0) (v := .agg cs5.toArray) (List.getElem?_toArray.trans (List.getElem?_cons_zero)) (by kernel_rfl) (by kernel_rfl) (by kernel_rfl) (fun _ _ _ h => h) (Or.inl ⟨by rfl, ?_⟩) (by assumption) ?_
      · intro w' hSw; exact exec_load_row 57 (.tmp 4) rfl g4 0 rfl cs5.toArray _ (Blk.cells hSw) Try.underlying57 rfl (rsize_arr HR5.out.2.2.2.1)
      try simp only [Act.put, List.setIfInBounds_toArray, List.set_cons_zero, List.set_cons_succ]
      refine wpAnyH_ready (rs := [3]) (by kernel_rfl) (by simp) ?_
      refine AllReadyH.cons (List.getElem?_toArray.trans (List.getElem?_cons_succ.trans (List.getElem?_cons_succ.trans (List.getElem?_cons_succ.trans (List.getElem?_cons_zero))))) (fun K hK => ?_) AllReadyH.nil
      go_simp
      refine HLc.out.mono ?_
      rintro e w9 ⟨rfl, h9, hk9⟩
      have HS9 := Lib.hid (HSd.out.onCode h9 hk9 (fun _ => .inl))
      obtain ⟨nm, enm⟩ : ∃ x, mw.2 = x := ⟨_, rfl⟩
      rw [enm]
      have hS9 : (fun w' : World => Blk w' g4 57 cs5.toArray) w9 := HS9.out.b4
      clear h9 hk9 enm
      refine hK.out _ _ hS9 (fun hHeld => ?_)
      clear hK K
      try simp only [Act.put, List.setIfInBounds_toArray, List.set_cons_zero, List.set_cons_succ]
      refine wpAnyH_take (i := 5) (v := ?_) (List.getElem?_toArray.trans (List.getElem?_cons_succ.trans (List.getElem?_cons_succ.trans (List.getElem?_cons_succ.trans (List.getElem?_cons_succ.trans (List.getElem?_cons_succ.trans (List.getElem?_cons_zero))))))) (by kernel_rfl) (by kernel_rfl) (by kernel_rfl) (fun _ _ _ h => h) (Or.inl ⟨by rfl, ?_⟩) (by assumption) ?_
      rotate_left
      · intro w' hSw; (try dsimp only at hSw); go_simp; try with_reducible rfl
      try simp only [Act.put, List.setIfInBounds_toArray, List.set_cons_zero, List.set_cons_succ]
      refine wpAnyH_ready (rs := [6]) (by kernel_rfl) (by simp) ?_
      refine AllReadyH.cons (List.getElem?_toArray.trans (List.getElem?_cons_succ.trans (List.getElem?_cons_succ.trans (List.getElem?_cons_succ.trans (List.getElem?_cons_succ.trans (List.getElem?_cons_succ.trans (List.getElem?_cons_succ.trans (List.getElem?_cons_zero)))))))) (fun K hK => ?_) AllReadyH.nil
      refine wp_store_row 57 (.tmp 6) (.tmp 195) rfl (g4 + 2) cs5 rfl rfl 57 rzero HS9.out.b6 (rsize_of HR5.out.2.2.2.1) (by rw [HR5.out.2.2.2.1]; rfl) HR5.out.2.2.2.2 ?_
      intro w10 hb10 hg10
      have hS10 : (fun w' : World => Blk w' g4 57 cs5.toArray) w10 := HS9.out.b4.grown hg10 (some_neq (by omega))
      refine hK.out _ _ hS10 (fun hHeld => ?_)
      clear hK K
      try simp only [Act.put, List.setIfInBounds_toArray, List.set_cons_zero, List.set_cons_succ]
      refine wpAnyH_take (i := 7) (v := ?_) (List.getElem?_toArray.trans (List.getElem?_cons_succ.trans (List.getElem?_cons_succ.trans (List.getElem?_cons_succ.trans (List.getElem?_cons_succ.trans (List.getElem?_cons_succ.trans (List.getElem?_cons_succ.trans (List.getElem?_cons_succ.trans (List.getElem?_cons_zero))))))))) (by kernel_rfl) (by kernel_rfl) (by kernel_rfl) (fun _ _ _ h => h) (Or.inl ⟨by rfl, ?_⟩) (by assumption) ?_
      rotate_left
      · intro w' hSw; (try dsimp only at hSw); go_simp; try with_reducible rfl
      try simp only [Act.put, List.setIfInBounds_toArray, List.set_cons_zero, List.set_cons_succ]
      refine wpAnyH_done (by kernel_rfl) ?_ _
      repeat (first | go_values | go_skip | go_guarded | go_step)
      refine bodyPost_rowv rfl (g4 + 2) rfl (.bool _) rfl 57 _ _ hb10 Try.underlying57 rfl (rsize_arr HR5.out.2.2.2.1) rfl ?_
      exact HS9.out.done hg10 _ (by have := HH.out.km; omega) (by have := HH.out.kd; omega) (by rw [hw4]; exact HH.out.m4) (by rw [hw2]; exact HH.out.d4) (by rw [HMd.out])
  · have hge : ¬ pa ≥ 0 := hp0
    obtain ⟨M, eM⟩ : ∃ M, List.replicate nb (0 : UInt8) = M := ⟨_, rfl⟩
    have HM := Lib.hid (And.intro (eM ▸ HB4.out.1) (show M.length = nb by rw [← eM]; simp))
    have HSx := Lib.hid HS4.out
    clear eM
    have hM5 : Blk w4 gb 5 (bv M).toArray ∧ M.length = nb := HM.out
    have hconv := bs_conv (P := Try.prog) (blk_bs HM.out.1) HM.out.2 Try.underlying27 Try.underlying5 nb Try.underlying9 w4 (Below.refl _ _)
    obtain ⟨sB, esB⟩ : ∃ x : ByteArray, (⟨M.toArray⟩ : ByteArray) = x := ⟨_, rfl⟩
    rw [esB] at hconv
    clear hM5
    go_wp2_with (first | (with_reducible refine st_load 57 ?_; refine stopped ?_) | fail)
    refine go_on ?_
    refine wpList_load_at rfl 57 (.tmp 4) rfl g4 0 rfl cs.toArray _ (Blk.cells HSx.out.b4) Try.underlying57 rfl (rsize_arr HC5.out.1) ?_
    simp only [Act.put, List.setIfInBounds_toArray, List.set_cons_zero, List.set_cons_succ]
    obtain ⟨dw, edw⟩ : ∃ x, d.load M = x := ⟨_, rfl⟩
    have hrc := refLoad_any w4 cs d HSx.out.ref M
    rw [edw, show sv M = .string sB from congrArg Value.string esB] at hrc
    have HRc := Lib.hid hrc
    clear hrc esB
    have hw1 := load_waits d M
    have hw2 := load_has d M
    rw [edw] at hw1 hw2
    have HEd := Lib.hid edw
    clear edw
    go_wp2_with fail
    refine HRc.out.mono ?_
    rintro e w7 ⟨cs5, rfl, hR5, hf5, hb5⟩
    have hsh := hR5.shape
    have HR5 := Lib.hid (And.intro hR5 (And.intro hf5 (And.intro hb5 hsh)))
    clear hR5 hf5 hb5 hsh
    obtain ⟨nd, end_⟩ : ∃ x, dw.2 = x := ⟨_, rfl⟩
    rw [end_]
    clear end_
    go_wp2_with (first | (with_reducible refine st_store 57 ?_; refine stopped ?_) | fail)
    refine go_on ?_
    refine wpList_store_whole rfl 57 (.tmp 4) (.tmp 193) rfl g4 cs5 rfl rfl 57 cs (HSx.out.b4.below HR5.out.2.2.1 (by have := HSx.out.siz; omega)) (rsize_of HR5.out.2.2.2.1) (by rw [HC5.out.1, HR5.out.2.2.2.1]) HR5.out.2.2.2.2 ?_
    intro w8 hb8 hg8
    simp only [Act.put, List.setIfInBounds_toArray, List.set_cons_zero, List.set_cons_succ]
    have HS8 := Lib.hid (HSx.out.onRef HR5.out.1 HR5.out.2.1 HR5.out.2.2.1 hg8 hb8)
    have HSd := Lib.hid (HS8.out.below ((Below.refl w8.heap.size w8).drew))
    have hgb : gb ≠ g4 := by have := HS.out.siz; have := HB4.out.2; omega
    have hM8' : Blk w8 gb 5 (bv M).toArray := (HM.out.1.below HR5.out.2.2.1 HM.out.1.lt).grown hg8 (some_neq hgb)
    have hM8 : Blk w8.drew gb 5 (bv M).toArray := hM8'
    have HM8 := Lib.hid hM8
    clear hb8 hg8 hM8 hM8' hconv
    go_wp2_with fail
    obtain ⟨mw, emw⟩ : ∃ x, m.load M = x := ⟨_, rfl⟩
    have hlc := dkLoad w8.drew gd F m HSd.out.code (some ⟨gb, 0, none⟩) M nb (blk_bs HM8.out)
    rw [emw, HM.out.2] at hlc
    have hw3 := load_waits m M
    have hw4 := load_has m M
    rw [emw] at hw3 hw4
    have HMd := Lib.hid (show mw = dw by rw [← emw, ← HEd.out, HH.out.md])
    have HLc := Lib.hid hlc
    clear hlc emw
    have hS0 : (fun w' : World => Blk w' g4 57 cs5.toArray) w8.drew := HS8.out.b4
    refine wp_region_held_drew (S := fun w' => Blk w' g4 57 cs5.toArray) (by kernel_rfl) hS0 (fun hHeld => ?_)
    refine wpAnyH_take (i := 1) (v := ?_) (List.getElem?_toArray.trans (List.getElem?_cons_succ.trans (List.getElem?_cons_zero))) (by kernel_rfl) (by kernel_rfl) (by kernel_rfl) (fun _ _ _ h => h) (Or.inl ⟨by rfl, ?_⟩) (by assumption) ?_
    rotate_left
    · intro w' hSw; (try dsimp only at hSw); go_simp; try with_reducible rfl
    try simp only [Act.put, List.setIfInBounds_toArray, List.set_cons_zero, List.set_cons_succ]
    refine wpAnyH_take (i := 2) (v := ?_) (List.getElem?_toArray.trans (List.getElem?_cons_succ.trans (List.getElem?_cons_succ.trans (List.getElem?_cons_zero)))) (by kernel_rfl) (by kernel_rfl) (by kernel_rfl) (fun _ _ _ h => h) (Or.inl ⟨by rfl, ?_⟩) (by assumption) ?_
    rotate_left
    · intro w' hSw; (try dsimp only at hSw); go_simp; try with_reducible rfl
    try simp only [Act.put, List.setIfInBounds_toArray, List.set_cons_zero, List.set_cons_succ]
    refine wpAnyH_take (i := 4) (v := ?_) (List.getElem?_toArray.trans (List.getElem?_cons_succ.trans (List.getElem?_cons_succ.trans (List.getElem?_cons_succ.trans (List.getElem?_cons_succ.trans (List.getElem?_cons_zero)))))) (by kernel_rfl) (by kernel_rfl) (by kernel_rfl) (fun _ _ _ h => h) (Or.inl ⟨by rfl, ?_⟩) (by assumption) ?_
    rotate_left
    · intro w' hSw; (try dsimp only at hSw); go_simp; try with_reducible rfl
    try simp only [Act.put, List.setIfInBounds_toArray, List.set_cons_zero, List.set_cons_succ]
    refine wpAnyH_take (i := 0) (v := .agg cs5.toArray) (List.getElem?_toArray.trans (List.getElem?_cons_zero)) (by kernel_rfl) (by kernel_rfl) (by kernel_rfl) (fun _ _ _ h => h) (Or.inl ⟨by rfl, ?_⟩) (by assumption) ?_
    · intro w' hSw; exact exec_load_row 57 (.tmp 4) rfl g4 0 rfl cs5.toArray _ (Blk.cells hSw) Try.underlying57 rfl (rsize_arr HR5.out.2.2.2.1)
    try simp only [Act.put, List.setIfInBounds_toArray, List.set_cons_zero, List.set_cons_succ]
    refine wpAnyH_ready (rs := [3]) (by kernel_rfl) (by simp) ?_
    refine AllReadyH.cons (List.getElem?_toArray.trans (List.getElem?_cons_succ.trans (List.getElem?_cons_succ.trans (List.getElem?_cons_succ.trans (List.getElem?_cons_zero))))) (fun K hK => ?_) AllReadyH.nil
    go_simp
    refine HLc.out.mono ?_
    rintro e w9 ⟨rfl, h9, hk9⟩
    have HS9 := Lib.hid (HSd.out.onCode h9 hk9 (fun _ => .inl))
    obtain ⟨nm, enm⟩ : ∃ x, mw.2 = x := ⟨_, rfl⟩
    rw [enm]
    have hS9 : (fun w' : World => Blk w' g4 57 cs5.toArray) w9 := HS9.out.b4
    clear h9 hk9 enm
    refine hK.out _ _ hS9 (fun hHeld => ?_)
    clear hK K
    try simp only [Act.put, List.setIfInBounds_toArray, List.set_cons_zero, List.set_cons_succ]
    refine wpAnyH_take (i := 5) (v := ?_) (List.getElem?_toArray.trans (List.getElem?_cons_succ.trans (List.getElem?_cons_succ.trans (List.getElem?_cons_succ.trans (List.getElem?_cons_succ.trans (List.getElem?_cons_succ.trans (List.getElem?_cons_zero))))))) (by kernel_rfl) (by kernel_rfl) (by kernel_rfl) (fun _ _ _ h => h) (Or.inl ⟨by rfl, ?_⟩) (by assumption) ?_
    rotate_left
    · intro w' hSw; (try dsimp only at hSw); go_simp; try with_reducible rfl
    try simp only [Act.put, List.setIfInBounds_toArray, List.set_cons_zero, List.set_cons_succ]
    refine wpAnyH_ready (rs := [6]) (by kernel_rfl) (by simp) ?_
    refine AllReadyH.cons (List.getElem?_toArray.trans (List.getElem?_cons_succ.trans (List.getElem?_cons_succ.trans (List.getElem?_cons_succ.trans (List.getElem?_cons_succ.trans (List.getElem?_cons_succ.trans (List.getElem?_cons_succ.trans (List.getElem?_cons_zero)))))))) (fun K hK => ?_) AllReadyH.nil
    refine wp_store_row 57 (.tmp 6) (.tmp 195) rfl (g4 + 2) cs5 rfl rfl 57 rzero HS9.out.b6 (rsize_of HR5.out.2.2.2.1) (by rw [HR5.out.2.2.2.1]; rfl) HR5.out.2.2.2.2 ?_
    intro w10 hb10 hg10
    have hS10 : (fun w' : World => Blk w' g4 57 cs5.toArray) w10 := HS9.out.b4.grown hg10 (some_neq (by omega))
    refine hK.out _ _ hS10 (fun hHeld => ?_)
    clear hK K
    try simp only [Act.put, List.setIfInBounds_toArray, List.set_cons_zero, List.set_cons_succ]
    refine wpAnyH_take (i := 7) (v := ?_) (List.getElem?_toArray.trans (List.getElem?_cons_succ.trans (List.getElem?_cons_succ.trans (List.getElem?_cons_succ.trans (List.getElem?_cons_succ.trans (List.getElem?_cons_succ.trans (List.getElem?_cons_succ.trans (List.getElem?_cons_succ.trans (List.getElem?_cons_zero))))))))) (by kernel_rfl) (by kernel_rfl) (by kernel_rfl) (fun _ _ _ h => h) (Or.inl ⟨by rfl, ?_⟩) (by assumption) ?_
    rotate_left
    · intro w' hSw; (try dsimp only at hSw); go_simp; try with_reducible rfl
    try simp only [Act.put, List.setIfInBounds_toArray, List.set_cons_zero, List.set_cons_succ]
    refine wpAnyH_done (by kernel_rfl) ?_ _
    repeat (first | go_values | go_skip | go_guarded | go_step)
    refine bodyPost_rowv rfl (g4 + 2) rfl (.bool _) rfl 57 _ _ hb10 Try.underlying57 rfl (rsize_arr HR5.out.2.2.2.1) rfl ?_
    exact HS9.out.done hg10 _ (by have := HH.out.km; omega) (by have := HH.out.kd; omega) (by rw [hw4]; exact HH.out.m4) (by rw [hw2]; exact HH.out.d4) (by rw [HMd.out])
end Go.Proofs.Ytnnjneijdfibnaa
