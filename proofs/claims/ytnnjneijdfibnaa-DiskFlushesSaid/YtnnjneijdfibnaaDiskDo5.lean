/-
  The law's Do where it writes. Conditions: each theorem's own premises.
-/
import Derived.Test.YtnnjneijdfibnaaDiskDo4
namespace Go.Proofs.Ytnnjneijdfibnaa
open Go.RowKit

theorem write_waits (m : Dk) (k : Int) (b : List UInt8) : (m.write k b).1.waits.length ≤ m.waits.length + 1 := by
  have := step_waits m
  unfold Dk.write
  split
  · exact Nat.le_succ _
  · split
    · exact Nat.le_succ _
    · split
      · simp; exact this
      · simp only; omega
theorem write_has (m : Dk) (k : Int) (b : List UInt8) : (m.write k b).1.has.length = m.has.length := by
  have := step_has m
  unfold Dk.write
  split
  · rfl
  · split
    · rfl
    · split
      · exact this
      · exact this
set_option maxRecDepth 100000 in
set_option maxHeartbeats 4000000 in
set_option linter.unusedSimpArgs false in
theorem do_write0 (w : World) (gd : Nat) (F : Nat → Prop) (m : Dk) (k : Nat) (cs : List Value) (d : Dk) (a : ActV) (S : Option Addr) (n c : Nat) (h : DoPre w gd F m k cs d a S n) (hdo : a.do_ = 0) :
    Calls Try.prog 25 #[.pointer (some ⟨gd, 0, none⟩), .agg cs.toArray, .agg (actCells a S c).toArray] w (DoPost w gd F k cs d S n) := by
  obtain ⟨hok, A0, W0, S0, ca0, cw0, cv0, ecs, hA0, hW0, hS0⟩ := h.ref
  have hRef : RefIs w w.heap.size cs d := h.ref
  have hlen : cs.length = 5 := by rw [ecs]; rfl
  have hone : ∀ v ∈ cs, v.oneCell' = true := by rw [ecs]; exact refCells_one _ _ _ _ _ _ _
  have HC5 := Lib.hid (And.intro hlen (And.intro hone ecs))
  have HH := Lib.hid h
  obtain ⟨X, eX⟩ : ∃ X, actCells a S c = X := ⟨_, rfl⟩
  have HX := Lib.hid eX
  rw [eX]
  obtain ⟨C, eC⟩ : ∃ C, cs.toArray = C := ⟨_, rfl⟩
  obtain ⟨Y, eY⟩ : ∃ Y, X.toArray = Y := ⟨_, rfl⟩
  rw [eC, eY]
  have HCY := Lib.hid (And.intro eC eY)
  clear hok hA0 hW0 hS0 hlen hone h hRef eX eC eY
  clear ecs
  go_enter Try.func25, Try.ntmps25
  go_wp2_with (first | (with_reducible refine st_box 57 ?_; refine stopped ?_) | fail)
  refine go_on ?_
  refine wpList_box rfl 57 (.tmp 1) rfl C rfl ?_
  intro w1 hb1 hw1 hz1
  refine wpList_box rfl 44 (.tmp 2) rfl Y rfl ?_
  intro w2 hb2 hw2 hz2
  refine wpList_alloc rfl 57 rfl _ rdisk_zero ?_
  intro w3 hb3 hw3 hz3
  obtain ⟨g4, e4⟩ : ∃ g, w.heap.size = g := ⟨_, rfl⟩
  have e5 : w1.heap.size = g4 + 1 := by omega
  have e6 : w2.heap.size = g4 + 2 := by omega
  rw [e4] at hb1 hw1 ⊢
  rw [e5] at hb2 hw2 ⊢
  rw [e6] at hb3 hw3 ⊢
  simp only [Act.put, List.setIfInBounds_toArray, List.set_cons_zero, List.set_cons_succ]
  rw [← HCY.out.1] at hb1
  rw [← HCY.out.2] at hb2
  have hbw : Below g4 w w3 := (hw1.trans (hw2.mono (by omega))).trans (hw3.mono (by omega))
  have hst : DoS w w3 gd g4 F F m cs d S n cs d X := ⟨HH.out.code.below (e4.symm ▸ hbw), (HH.out.ref.below (e4.symm ▸ hbw)).more (by omega), HH.out.far, HH.out.ref.beyond (by omega), HH.out.ref.beyond (by omega), fun _ _ h _ => h,
    (hb1.below hw2 (by omega)).below hw3 (by omega), hb2.below hw3 (by omega), hb3, e4, fun g hg => by have := HH.out.code.lt g hg; omega, .of_below (e4.symm ▸ hbw), fun _ => .inl⟩
  have HS := Lib.hid hst
  have hcd : w3.cell? ⟨g4 + 1, 0, none⟩ = some (.int .i64 a.do_) := by rw [hst.b5.cell, ← HX.out]; rfl
  have hca : w3.cell? ⟨g4 + 1, 1, none⟩ = some (.int .i64 a.at_) := by rw [hst.b5.cell, ← HX.out]; rfl
  have hco : w3.cell? ⟨g4 + 1, 2, none⟩ = some (.int .i64 a.off) := by rw [hst.b5.cell, ← HX.out]; rfl
  have hcf : w3.cell? ⟨g4 + 1, 3, none⟩ = some (.int .u8 (a.fill.toNat : Int)) := by rw [hst.b5.cell, ← HX.out]; rfl
  have hck : w3.cell? ⟨g4 + 1, 4, none⟩ = some (.slice S n c) := by rw [hst.b5.cell, ← HX.out, ← HH.out.keep]; rfl
  have hbase := e4
  clear hb1 hb2 hb3 hw1 hw2 hw3 hz1 hz2 hz3 e4 e5 e6 hbw hst
  obtain ⟨pd, epd⟩ : ∃ x, a.do_ = x := ⟨_, rfl⟩
  obtain ⟨pa, epa⟩ : ∃ x, a.at_ = x := ⟨_, rfl⟩
  obtain ⟨po, epo⟩ : ∃ x, a.off = x := ⟨_, rfl⟩
  obtain ⟨fl, efl⟩ : ∃ x, a.fill.toNat = x := ⟨_, rfl⟩
  rw [epd] at hcd
  rw [epa] at hca
  rw [epo] at hco
  rw [efl] at hcf
  have HAt := Lib.hid (And.intro epd (And.intro epa (And.intro epo efl)))
  rw [hdo] at epd
  subst epd
  clear epa epo efl hdo
  obtain ⟨L, eL⟩ : ∃ x, List.replicate (secN a.off) a.fill = x := ⟨_, rfl⟩
  obtain ⟨nb, enb⟩ : ∃ x, L.length = x := ⟨_, rfl⟩
  have hnb : nb ≤ 127 := by rw [← enb, ← eL, List.length_replicate]; exact secN_le a.off
  have hsec : Calls Try.prog 20 #[.int .u8 (fl : Int), .int .i64 po] w3 (OwnPost w3 L) := by
    rw [← HAt.out.2.2.2, ← HAt.out.2.2.1, ← eL]
    exact sector_any w3 a.fill a.off
  have HSec := Lib.hid hsec
  clear hsec eL
  go_wp2_with fail
  refine HSec.out.mono ?_
  rintro e w4 ⟨v4, rfl, hown4, hb4⟩
  obtain ⟨A4, c4, rfl, _, hH4⟩ := Held.own (F := fun g => F g ∨ g ≤ g4 + 2) hown4 (fun g hg => hg.elim (HS.out.code.lt g) (fun h => by have := HS.out.siz; omega))
  have HS4 := Lib.hid (HS.out.below hb4)
  have hca4 : w4.cell? ⟨g4 + 1, 1, none⟩ = some (.int .i64 pa) := by rw [HS4.out.b5.cell, ← HX.out, ← HAt.out.2.1]; rfl
  have hconv := hH4.conv (P := Try.prog) enb Try.underlying27 Try.underlying5 c4 Try.underlying9 w4 (Below.refl _ _)
  obtain ⟨sB, esB⟩ : ∃ x : ByteArray, (⟨L.toArray⟩ : ByteArray) = x := ⟨_, rfl⟩
  rw [esB] at hconv
  have hrow4 := hown4.row enb
  rw [enb] at hrow4
  have HL := Lib.hid (And.intro hH4 (And.intro hrow4 (And.intro enb (And.intro esB hb4))))
  rw [enb]
  clear hH4 hown4 hb4 hrow4 enb esB hca hco hcf hck
  go_wp2_with (first | (with_reducible refine st_load 57 ?_; refine stopped ?_) | fail)
  refine go_on ?_
  refine wpList_load_at rfl 57 (.tmp 4) rfl g4 0 rfl cs.toArray _ (Blk.cells HS4.out.b4) Try.underlying57 rfl (rsize_arr HC5.out.1) ?_
  simp only [Act.put, List.setIfInBounds_toArray, List.set_cons_zero, List.set_cons_succ]
  obtain ⟨dw, edw⟩ : ∃ x, d.write pa L = x := ⟨_, rfl⟩
  have hrc := refWrite_any w4 cs d HS4.out.ref (by have := HH.out.kd; have := HH.out.kk; omega) pa L
  rw [edw, show sv L = .string sB from congrArg Value.string HL.out.2.2.2.1] at hrc
  have HRc := Lib.hid hrc
  clear hrc
  have hw1 := write_waits d pa L
  have hw2 := write_has d pa L
  rw [edw] at hw1 hw2
  have HEd := Lib.hid edw
  clear edw
  go_wp2_with fail
  refine HRc.out.mono ?_
  rintro e w5 ⟨cs5, rfl, hR5, hf5, hb5⟩
  have hsh := hR5.shape
  have HR5 := Lib.hid (And.intro hR5 (And.intro hf5 (And.intro hb5 hsh)))
  clear hR5 hf5 hb5 hsh
  obtain ⟨nd, end_⟩ : ∃ x, dw.2 = x := ⟨_, rfl⟩
  rw [end_]
  clear end_
  go_wp2_with (first | (with_reducible refine st_store 57 ?_; refine stopped ?_) | fail)
  refine go_on ?_
  refine wpList_store_whole rfl 57 (.tmp 4) (.tmp 42) rfl g4 cs5 rfl rfl 57 cs (HS4.out.b4.below HR5.out.2.2.1 (by have := HS4.out.siz; omega)) (rsize_of HR5.out.2.2.2.1) (by rw [HC5.out.1, HR5.out.2.2.2.1]) HR5.out.2.2.2.2 ?_
  intro w6 hb6 hg6
  simp only [Act.put, List.setIfInBounds_toArray, List.set_cons_zero, List.set_cons_succ]
  have HS6 := Lib.hid (HS4.out.onRef HR5.out.1 HR5.out.2.1 HR5.out.2.2.1 hg6 hb6)
  have hca6 : w6.cell? ⟨g4 + 1, 1, none⟩ = some (.int .i64 pa) := by rw [HS6.out.b5.cell, ← HX.out, ← HAt.out.2.1]; rfl
  have hk6 : Kept (· = g4) w5 w6 := .of_grown hg6 (fun g e => .inl (Option.some.inj e).symm)
  have hH6 : Held w6 (fun g => F g ∨ g ≤ g4 + 2) A4 L := (HL.out.1.below HR5.out.2.2.1).step (hk6.mono (fun g e => .inr (by omega))) (fun _ => .inl)
  have hrow6 := row_keep (row_below HL.out.2.1 HR5.out.2.2.1) hk6 (fun g e e2 => by have := (World.ownsRow.lt HL.out.2.1 g e).1; have := HS.out.siz; omega)
  have HL6 := Lib.hid (And.intro hH6 (And.intro hrow6 (Nat.le_trans HR5.out.2.2.1.size hg6.size)))
  clear hg6 hb6 hk6 hH6 hrow6 hca4 hconv
  go_wp2_with fail
  obtain ⟨mw, emw⟩ : ∃ x, m.write pa L = x := ⟨_, rfl⟩
  have hwc := dkWrite w6 gd F m HS6.out.code (by have := HH.out.km; have := HH.out.kk; omega) pa A4 L c4 HL6.out.1.1 (fun g hg => HL6.out.1.2 g (.inl hg))
  rw [emw, HL.out.2.2.1] at hwc
  have hw3 := write_waits m pa L
  have hw4 := write_has m pa L
  rw [emw] at hw3 hw4
  have HMd := Lib.hid (show mw = dw by rw [← emw, ← HEd.out, HH.out.md])
  refine hwc.mono ?_
  rintro e w7 ⟨rfl, F7, h7, hk7, hs7⟩
  obtain ⟨nm, enm⟩ : ∃ x, mw.2 = x := ⟨_, rfl⟩
  rw [enm]
  have HS7 := Lib.hid (HS6.out.onCode h7 hk7 hs7)
  have hrow7 := row_keep HL6.out.2.1 hk7 (fun g e hf => by have := (World.ownsRow.lt HL.out.2.1 g e).1; have := HS.out.code.lt g hf; omega)
  have hnf : ∀ g, (Value.slice A4 nb c4).ownBlock = some g → ¬ F7 g ∧ RefFar cs5 dw.1 g ∧ g4 + 2 < g := fun g e => by
    have h2 := World.ownsRow.lt HL.out.2.1 g e
    refine ⟨fun hf => ?_, HR5.out.2.1 g h2.2 (HS.out.ref.beyond h2.1), by have := HS.out.siz; omega⟩
    rcases hs7 g hf with h3 | h3
    · have := HS.out.code.lt g h3
      omega
    · have := HL6.out.2.2
      omega
  have HR7 := Lib.hid (And.intro hrow7 HL.out.2.2.1)
  have HNf := Lib.hid hnf
  clear hwc emw h7 hk7 hs7 enm hrow7 hnf hca6
  go_wp2_with fail
  go_loopw [11] (fun i wz => ∃ (j : Nat) (l : List UInt8), j ≤ nb ∧ i = .int .i64 (j : Int) ∧ l.length = nb ∧ wz.ownsRow w3.heap.size 5 1 (.slice A4 nb c4) nb (bv l) ∧ Kept (fun g => (Value.slice A4 nb c4).ownBlock = some g) w7 wz) (fun i _ => nb - (intOf i).toNat)
  case atStart => exact ⟨0, _, by omega, rfl, HR7.out.2, HR7.out.1, .refl _ _⟩
  case round =>
    obtain ⟨j, l, hj, rfl, hl, hrow, hkept⟩ := hrel
    by_cases hlt : j < nb
    · obtain ⟨g, x, eA, hcell, hfro⟩ := bytes_row hrow hlt hl
      have HI := Lib.hid (And.intro hrow (And.intro hkept hl))
      have HAe := Lib.hid eA
      subst eA
      have hji : (j : Int) < (nb : Int) := by omega
      have hj0 : (0 : Int) ≤ (j : Int) := by omega
      clear hrow hkept hl
      go_wp2_with fail
      go_roundw
      case rel =>
        have hst := World.ownsRow.stored HI.out.1 j (.int .u8 ((99 : UInt8).toNat : Int))
        rw [bv_set] at hst
        exact ⟨j + 1, l.set j 99, by omega, by go_num, by simp; exact HI.out.2.2, hst.1, HI.out.2.1.trans (Kept.of_grown (F := fun g' => (Value.slice (some ⟨g, 0, none⟩) nb c4).ownBlock = some g') hst.2 (fun g' e => .inl (by simpa [Value.ownBlock] using e))) (fun g' hg => .inl hg)⟩
      case measure => simp [intOf]; omega
    · obtain rfl : j = nb := by omega
      have hnl : ¬ (j : Int) < (j : Int) := by omega
      have HS8 := Lib.hid (HS7.out.other hkept HNf.out)
      clear hrow hkept hl
      go_wp2_with (first | (with_reducible refine st_load 57 ?_; refine stopped ?_) | fail)
      refine go_on ?_
      refine wpList_load_at rfl 57 (.tmp 4) rfl g4 0 rfl cs5.toArray _ (Blk.cells HS8.out.b4) Try.underlying57 rfl (rsize_arr HR5.out.2.2.2.1) ?_
      simp only [Act.put, List.setIfInBounds_toArray, List.set_cons_zero, List.set_cons_succ]
      go_wp2_with (first | (with_reducible refine st_store 57 ?_; refine stopped ?_) | fail)
      refine go_on ?_
      refine wpList_store_whole rfl 57 (.tmp 6) (.tmp 58) rfl (g4 + 2) cs5 rfl rfl 57 rzero HS8.out.b6 (rsize_of HR5.out.2.2.2.1) (by rw [HR5.out.2.2.2.1]; rfl) HR5.out.2.2.2.2 ?_
      intro w9 hb9 hg9
      simp only [Act.put, List.setIfInBounds_toArray, List.set_cons_zero, List.set_cons_succ]
      repeat (first | go_values | go_skip | go_guarded | go_step)
      refine bodyPost_rowv rfl (g4 + 2) rfl (.bool _) rfl 57 _ _ hb9 Try.underlying57 rfl (rsize_arr HR5.out.2.2.2.1) rfl ?_
      exact HS8.out.done hg9 _ (by have := HH.out.km; omega) (by have := HH.out.kd; omega) (by rw [hw4]; exact HH.out.m4) (by rw [hw2]; exact HH.out.d4) (by rw [HMd.out])
set_option maxRecDepth 100000 in
set_option maxHeartbeats 4000000 in
set_option linter.unusedSimpArgs false in
theorem do_write1 (w : World) (gd : Nat) (F : Nat → Prop) (m : Dk) (k : Nat) (cs : List Value) (d : Dk) (a : ActV) (S : Option Addr) (n c : Nat) (h : DoPre w gd F m k cs d a S n) (hdo : a.do_ = 1) :
    Calls Try.prog 25 #[.pointer (some ⟨gd, 0, none⟩), .agg cs.toArray, .agg (actCells a S c).toArray] w (DoPost w gd F k cs d S n) := by
  obtain ⟨hok, A0, W0, S0, ca0, cw0, cv0, ecs, hA0, hW0, hS0⟩ := h.ref
  have hRef : RefIs w w.heap.size cs d := h.ref
  have hlen : cs.length = 5 := by rw [ecs]; rfl
  have hone : ∀ v ∈ cs, v.oneCell' = true := by rw [ecs]; exact refCells_one _ _ _ _ _ _ _
  have HC5 := Lib.hid (And.intro hlen (And.intro hone ecs))
  have HH := Lib.hid h
  obtain ⟨X, eX⟩ : ∃ X, actCells a S c = X := ⟨_, rfl⟩
  have HX := Lib.hid eX
  rw [eX]
  obtain ⟨C, eC⟩ : ∃ C, cs.toArray = C := ⟨_, rfl⟩
  obtain ⟨Y, eY⟩ : ∃ Y, X.toArray = Y := ⟨_, rfl⟩
  rw [eC, eY]
  have HCY := Lib.hid (And.intro eC eY)
  clear hok hA0 hW0 hS0 hlen hone h hRef eX eC eY
  clear ecs
  go_enter Try.func25, Try.ntmps25
  go_wp2_with (first | (with_reducible refine st_box 57 ?_; refine stopped ?_) | fail)
  refine go_on ?_
  refine wpList_box rfl 57 (.tmp 1) rfl C rfl ?_
  intro w1 hb1 hw1 hz1
  refine wpList_box rfl 44 (.tmp 2) rfl Y rfl ?_
  intro w2 hb2 hw2 hz2
  refine wpList_alloc rfl 57 rfl _ rdisk_zero ?_
  intro w3 hb3 hw3 hz3
  obtain ⟨g4, e4⟩ : ∃ g, w.heap.size = g := ⟨_, rfl⟩
  have e5 : w1.heap.size = g4 + 1 := by omega
  have e6 : w2.heap.size = g4 + 2 := by omega
  rw [e4] at hb1 hw1 ⊢
  rw [e5] at hb2 hw2 ⊢
  rw [e6] at hb3 hw3 ⊢
  simp only [Act.put, List.setIfInBounds_toArray, List.set_cons_zero, List.set_cons_succ]
  rw [← HCY.out.1] at hb1
  rw [← HCY.out.2] at hb2
  have hbw : Below g4 w w3 := (hw1.trans (hw2.mono (by omega))).trans (hw3.mono (by omega))
  have hst : DoS w w3 gd g4 F F m cs d S n cs d X := ⟨HH.out.code.below (e4.symm ▸ hbw), (HH.out.ref.below (e4.symm ▸ hbw)).more (by omega), HH.out.far, HH.out.ref.beyond (by omega), HH.out.ref.beyond (by omega), fun _ _ h _ => h,
    (hb1.below hw2 (by omega)).below hw3 (by omega), hb2.below hw3 (by omega), hb3, e4, fun g hg => by have := HH.out.code.lt g hg; omega, .of_below (e4.symm ▸ hbw), fun _ => .inl⟩
  have HS := Lib.hid hst
  have hcd : w3.cell? ⟨g4 + 1, 0, none⟩ = some (.int .i64 a.do_) := by rw [hst.b5.cell, ← HX.out]; rfl
  have hca : w3.cell? ⟨g4 + 1, 1, none⟩ = some (.int .i64 a.at_) := by rw [hst.b5.cell, ← HX.out]; rfl
  have hco : w3.cell? ⟨g4 + 1, 2, none⟩ = some (.int .i64 a.off) := by rw [hst.b5.cell, ← HX.out]; rfl
  have hcf : w3.cell? ⟨g4 + 1, 3, none⟩ = some (.int .u8 (a.fill.toNat : Int)) := by rw [hst.b5.cell, ← HX.out]; rfl
  have hck : w3.cell? ⟨g4 + 1, 4, none⟩ = some (.slice S n c) := by rw [hst.b5.cell, ← HX.out, ← HH.out.keep]; rfl
  have hbase := e4
  clear hb1 hb2 hb3 hw1 hw2 hw3 hz1 hz2 hz3 e4 e5 e6 hbw hst
  obtain ⟨pd, epd⟩ : ∃ x, a.do_ = x := ⟨_, rfl⟩
  obtain ⟨pa, epa⟩ : ∃ x, a.at_ = x := ⟨_, rfl⟩
  obtain ⟨po, epo⟩ : ∃ x, a.off = x := ⟨_, rfl⟩
  obtain ⟨fl, efl⟩ : ∃ x, a.fill.toNat = x := ⟨_, rfl⟩
  rw [epd] at hcd
  rw [epa] at hca
  rw [epo] at hco
  rw [efl] at hcf
  have HAt := Lib.hid (And.intro epd (And.intro epa (And.intro epo efl)))
  rw [hdo] at epd
  subst epd
  clear epa epo efl hdo
  obtain ⟨L, eL⟩ : ∃ x, List.replicate (secN a.off) a.fill = x := ⟨_, rfl⟩
  obtain ⟨nb, enb⟩ : ∃ x, L.length = x := ⟨_, rfl⟩
  have hnb : nb ≤ 127 := by rw [← enb, ← eL, List.length_replicate]; exact secN_le a.off
  have hsec : Calls Try.prog 20 #[.int .u8 (fl : Int), .int .i64 po] w3 (OwnPost w3 L) := by
    rw [← HAt.out.2.2.2, ← HAt.out.2.2.1, ← eL]
    exact sector_any w3 a.fill a.off
  have HSec := Lib.hid hsec
  clear hsec eL
  go_wp2_with fail
  refine HSec.out.mono ?_
  rintro e w4 ⟨v4, rfl, hown4, hb4⟩
  obtain ⟨A4, c4, rfl, _, hH4⟩ := Held.own (F := fun g => F g ∨ g ≤ g4 + 2) hown4 (fun g hg => hg.elim (HS.out.code.lt g) (fun h => by have := HS.out.siz; omega))
  have HS4 := Lib.hid (HS.out.below hb4)
  have hca4 : w4.cell? ⟨g4 + 1, 1, none⟩ = some (.int .i64 pa) := by rw [HS4.out.b5.cell, ← HX.out, ← HAt.out.2.1]; rfl
  have hconv := hH4.conv (P := Try.prog) enb Try.underlying27 Try.underlying5 c4 Try.underlying9 w4 (Below.refl _ _)
  obtain ⟨sB, esB⟩ : ∃ x : ByteArray, (⟨L.toArray⟩ : ByteArray) = x := ⟨_, rfl⟩
  rw [esB] at hconv
  have hrow4 := hown4.row enb
  rw [enb] at hrow4
  have HL := Lib.hid (And.intro hH4 (And.intro hrow4 (And.intro enb (And.intro esB hb4))))
  rw [enb]
  clear hH4 hown4 hb4 hrow4 enb esB hca hco hcf hck
  go_wp2_with (first | (with_reducible refine st_load 57 ?_; refine stopped ?_) | fail)
  refine go_on ?_
  refine wpList_load_at rfl 57 (.tmp 4) rfl g4 0 rfl cs.toArray _ (Blk.cells HS4.out.b4) Try.underlying57 rfl (rsize_arr HC5.out.1) ?_
  simp only [Act.put, List.setIfInBounds_toArray, List.set_cons_zero, List.set_cons_succ]
  obtain ⟨dw, edw⟩ : ∃ x, d.write pa L = x := ⟨_, rfl⟩
  have hrc := refWrite_any w4 cs d HS4.out.ref (by have := HH.out.kd; have := HH.out.kk; omega) pa L
  rw [edw, show sv L = .string sB from congrArg Value.string HL.out.2.2.2.1] at hrc
  have HRc := Lib.hid hrc
  clear hrc
  have hw1 := write_waits d pa L
  have hw2 := write_has d pa L
  rw [edw] at hw1 hw2
  have HEd := Lib.hid edw
  clear edw
  go_wp2_with fail
  refine HRc.out.mono ?_
  rintro e w5 ⟨cs5, rfl, hR5, hf5, hb5⟩
  have hsh := hR5.shape
  have HR5 := Lib.hid (And.intro hR5 (And.intro hf5 (And.intro hb5 hsh)))
  clear hR5 hf5 hb5 hsh
  obtain ⟨nd, end_⟩ : ∃ x, dw.2 = x := ⟨_, rfl⟩
  rw [end_]
  clear end_
  go_wp2_with (first | (with_reducible refine st_store 57 ?_; refine stopped ?_) | fail)
  refine go_on ?_
  refine wpList_store_whole rfl 57 (.tmp 4) (.tmp 42) rfl g4 cs5 rfl rfl 57 cs (HS4.out.b4.below HR5.out.2.2.1 (by have := HS4.out.siz; omega)) (rsize_of HR5.out.2.2.2.1) (by rw [HC5.out.1, HR5.out.2.2.2.1]) HR5.out.2.2.2.2 ?_
  intro w6 hb6 hg6
  simp only [Act.put, List.setIfInBounds_toArray, List.set_cons_zero, List.set_cons_succ]
  have HS6 := Lib.hid (HS4.out.onRef HR5.out.1 HR5.out.2.1 HR5.out.2.2.1 hg6 hb6)
  have hca6 : w6.cell? ⟨g4 + 1, 1, none⟩ = some (.int .i64 pa) := by rw [HS6.out.b5.cell, ← HX.out, ← HAt.out.2.1]; rfl
  have hk6 : Kept (· = g4) w5 w6 := .of_grown hg6 (fun g e => .inl (Option.some.inj e).symm)
  have hH6 : Held w6 (fun g => F g ∨ g ≤ g4 + 2) A4 L := (HL.out.1.below HR5.out.2.2.1).step (hk6.mono (fun g e => .inr (by omega))) (fun _ => .inl)
  have hrow6 := row_keep (row_below HL.out.2.1 HR5.out.2.2.1) hk6 (fun g e e2 => by have := (World.ownsRow.lt HL.out.2.1 g e).1; have := HS.out.siz; omega)
  have HL6 := Lib.hid (And.intro hH6 (And.intro hrow6 (Nat.le_trans HR5.out.2.2.1.size hg6.size)))
  clear hg6 hb6 hk6 hH6 hrow6 hca4 hconv
  go_wp2_with fail
  obtain ⟨mw, emw⟩ : ∃ x, m.write pa L = x := ⟨_, rfl⟩
  have hwc := dkWrite w6 gd F m HS6.out.code (by have := HH.out.km; have := HH.out.kk; omega) pa A4 L c4 HL6.out.1.1 (fun g hg => HL6.out.1.2 g (.inl hg))
  rw [emw, HL.out.2.2.1] at hwc
  have hw3 := write_waits m pa L
  have hw4 := write_has m pa L
  rw [emw] at hw3 hw4
  have HMd := Lib.hid (show mw = dw by rw [← emw, ← HEd.out, HH.out.md])
  refine hwc.mono ?_
  rintro e w7 ⟨rfl, F7, h7, hk7, hs7⟩
  obtain ⟨nm, enm⟩ : ∃ x, mw.2 = x := ⟨_, rfl⟩
  rw [enm]
  have HS7 := Lib.hid (HS6.out.onCode h7 hk7 hs7)
  have hrow7 := row_keep HL6.out.2.1 hk7 (fun g e hf => by have := (World.ownsRow.lt HL.out.2.1 g e).1; have := HS.out.code.lt g hf; omega)
  have hnf : ∀ g, (Value.slice A4 nb c4).ownBlock = some g → ¬ F7 g ∧ RefFar cs5 dw.1 g ∧ g4 + 2 < g := fun g e => by
    have h2 := World.ownsRow.lt HL.out.2.1 g e
    refine ⟨fun hf => ?_, HR5.out.2.1 g h2.2 (HS.out.ref.beyond h2.1), by have := HS.out.siz; omega⟩
    rcases hs7 g hf with h3 | h3
    · have := HS.out.code.lt g h3
      omega
    · have := HL6.out.2.2
      omega
  have HR7 := Lib.hid (And.intro hrow7 HL.out.2.2.1)
  have HNf := Lib.hid hnf
  clear hwc emw h7 hk7 hs7 enm hrow7 hnf hca6
  go_wp2_with fail
  go_loopw [11] (fun i wz => ∃ (j : Nat) (l : List UInt8), j ≤ nb ∧ i = .int .i64 (j : Int) ∧ l.length = nb ∧ wz.ownsRow w3.heap.size 5 1 (.slice A4 nb c4) nb (bv l) ∧ Kept (fun g => (Value.slice A4 nb c4).ownBlock = some g) w7 wz) (fun i _ => nb - (intOf i).toNat)
  case atStart => exact ⟨0, _, by omega, rfl, HR7.out.2, HR7.out.1, .refl _ _⟩
  case round =>
    obtain ⟨j, l, hj, rfl, hl, hrow, hkept⟩ := hrel
    by_cases hlt : j < nb
    · obtain ⟨g, x, eA, hcell, hfro⟩ := bytes_row hrow hlt hl
      have HI := Lib.hid (And.intro hrow (And.intro hkept hl))
      have HAe := Lib.hid eA
      subst eA
      have hji : (j : Int) < (nb : Int) := by omega
      have hj0 : (0 : Int) ≤ (j : Int) := by omega
      clear hrow hkept hl
      go_wp2_with fail
      go_roundw
      case rel =>
        have hst := World.ownsRow.stored HI.out.1 j (.int .u8 ((99 : UInt8).toNat : Int))
        rw [bv_set] at hst
        exact ⟨j + 1, l.set j 99, by omega, by go_num, by simp; exact HI.out.2.2, hst.1, HI.out.2.1.trans (Kept.of_grown (F := fun g' => (Value.slice (some ⟨g, 0, none⟩) nb c4).ownBlock = some g') hst.2 (fun g' e => .inl (by simpa [Value.ownBlock] using e))) (fun g' hg => .inl hg)⟩
      case measure => simp [intOf]; omega
    · obtain rfl : j = nb := by omega
      have hnl : ¬ (j : Int) < (j : Int) := by omega
      have HS8 := Lib.hid (HS7.out.other hkept HNf.out)
      clear hrow hkept hl
      go_wp2_with (first | (with_reducible refine st_load 57 ?_; refine stopped ?_) | fail)
      refine go_on ?_
      refine wpList_load_at rfl 57 (.tmp 4) rfl g4 0 rfl cs5.toArray _ (Blk.cells HS8.out.b4) Try.underlying57 rfl (rsize_arr HR5.out.2.2.2.1) ?_
      simp only [Act.put, List.setIfInBounds_toArray, List.set_cons_zero, List.set_cons_succ]
      go_wp2_with (first | (with_reducible refine st_store 57 ?_; refine stopped ?_) | fail)
      refine go_on ?_
      refine wpList_store_whole rfl 57 (.tmp 6) (.tmp 58) rfl (g4 + 2) cs5 rfl rfl 57 rzero HS8.out.b6 (rsize_of HR5.out.2.2.2.1) (by rw [HR5.out.2.2.2.1]; rfl) HR5.out.2.2.2.2 ?_
      intro w9 hb9 hg9
      simp only [Act.put, List.setIfInBounds_toArray, List.set_cons_zero, List.set_cons_succ]
      repeat (first | go_values | go_skip | go_guarded | go_step)
      refine bodyPost_rowv rfl (g4 + 2) rfl (.bool _) rfl 57 _ _ hb9 Try.underlying57 rfl (rsize_arr HR5.out.2.2.2.1) rfl ?_
      exact HS8.out.done hg9 _ (by have := HH.out.km; omega) (by have := HH.out.kd; omega) (by rw [hw4]; exact HH.out.m4) (by rw [hw2]; exact HH.out.d4) (by rw [HMd.out])
set_option maxRecDepth 100000 in
set_option maxHeartbeats 4000000 in
set_option linter.unusedSimpArgs false in
theorem do_write2 (w : World) (gd : Nat) (F : Nat → Prop) (m : Dk) (k : Nat) (cs : List Value) (d : Dk) (a : ActV) (S : Option Addr) (n c : Nat) (h : DoPre w gd F m k cs d a S n) (hdo : a.do_ = 2) :
    Calls Try.prog 25 #[.pointer (some ⟨gd, 0, none⟩), .agg cs.toArray, .agg (actCells a S c).toArray] w (DoPost w gd F k cs d S n) := by
  obtain ⟨hok, A0, W0, S0, ca0, cw0, cv0, ecs, hA0, hW0, hS0⟩ := h.ref
  have hRef : RefIs w w.heap.size cs d := h.ref
  have hlen : cs.length = 5 := by rw [ecs]; rfl
  have hone : ∀ v ∈ cs, v.oneCell' = true := by rw [ecs]; exact refCells_one _ _ _ _ _ _ _
  have HC5 := Lib.hid (And.intro hlen (And.intro hone ecs))
  have HH := Lib.hid h
  obtain ⟨X, eX⟩ : ∃ X, actCells a S c = X := ⟨_, rfl⟩
  have HX := Lib.hid eX
  rw [eX]
  obtain ⟨C, eC⟩ : ∃ C, cs.toArray = C := ⟨_, rfl⟩
  obtain ⟨Y, eY⟩ : ∃ Y, X.toArray = Y := ⟨_, rfl⟩
  rw [eC, eY]
  have HCY := Lib.hid (And.intro eC eY)
  clear hok hA0 hW0 hS0 hlen hone h hRef eX eC eY
  clear ecs
  go_enter Try.func25, Try.ntmps25
  go_wp2_with (first | (with_reducible refine st_box 57 ?_; refine stopped ?_) | fail)
  refine go_on ?_
  refine wpList_box rfl 57 (.tmp 1) rfl C rfl ?_
  intro w1 hb1 hw1 hz1
  refine wpList_box rfl 44 (.tmp 2) rfl Y rfl ?_
  intro w2 hb2 hw2 hz2
  refine wpList_alloc rfl 57 rfl _ rdisk_zero ?_
  intro w3 hb3 hw3 hz3
  obtain ⟨g4, e4⟩ : ∃ g, w.heap.size = g := ⟨_, rfl⟩
  have e5 : w1.heap.size = g4 + 1 := by omega
  have e6 : w2.heap.size = g4 + 2 := by omega
  rw [e4] at hb1 hw1 ⊢
  rw [e5] at hb2 hw2 ⊢
  rw [e6] at hb3 hw3 ⊢
  simp only [Act.put, List.setIfInBounds_toArray, List.set_cons_zero, List.set_cons_succ]
  rw [← HCY.out.1] at hb1
  rw [← HCY.out.2] at hb2
  have hbw : Below g4 w w3 := (hw1.trans (hw2.mono (by omega))).trans (hw3.mono (by omega))
  have hst : DoS w w3 gd g4 F F m cs d S n cs d X := ⟨HH.out.code.below (e4.symm ▸ hbw), (HH.out.ref.below (e4.symm ▸ hbw)).more (by omega), HH.out.far, HH.out.ref.beyond (by omega), HH.out.ref.beyond (by omega), fun _ _ h _ => h,
    (hb1.below hw2 (by omega)).below hw3 (by omega), hb2.below hw3 (by omega), hb3, e4, fun g hg => by have := HH.out.code.lt g hg; omega, .of_below (e4.symm ▸ hbw), fun _ => .inl⟩
  have HS := Lib.hid hst
  have hcd : w3.cell? ⟨g4 + 1, 0, none⟩ = some (.int .i64 a.do_) := by rw [hst.b5.cell, ← HX.out]; rfl
  have hca : w3.cell? ⟨g4 + 1, 1, none⟩ = some (.int .i64 a.at_) := by rw [hst.b5.cell, ← HX.out]; rfl
  have hco : w3.cell? ⟨g4 + 1, 2, none⟩ = some (.int .i64 a.off) := by rw [hst.b5.cell, ← HX.out]; rfl
  have hcf : w3.cell? ⟨g4 + 1, 3, none⟩ = some (.int .u8 (a.fill.toNat : Int)) := by rw [hst.b5.cell, ← HX.out]; rfl
  have hck : w3.cell? ⟨g4 + 1, 4, none⟩ = some (.slice S n c) := by rw [hst.b5.cell, ← HX.out, ← HH.out.keep]; rfl
  have hbase := e4
  clear hb1 hb2 hb3 hw1 hw2 hw3 hz1 hz2 hz3 e4 e5 e6 hbw hst
  obtain ⟨pd, epd⟩ : ∃ x, a.do_ = x := ⟨_, rfl⟩
  obtain ⟨pa, epa⟩ : ∃ x, a.at_ = x := ⟨_, rfl⟩
  obtain ⟨po, epo⟩ : ∃ x, a.off = x := ⟨_, rfl⟩
  obtain ⟨fl, efl⟩ : ∃ x, a.fill.toNat = x := ⟨_, rfl⟩
  rw [epd] at hcd
  rw [epa] at hca
  rw [epo] at hco
  rw [efl] at hcf
  have HAt := Lib.hid (And.intro epd (And.intro epa (And.intro epo efl)))
  rw [hdo] at epd
  subst epd
  clear epa epo efl hdo
  obtain ⟨L, eL⟩ : ∃ x, List.replicate (secN a.off) a.fill = x := ⟨_, rfl⟩
  obtain ⟨nb, enb⟩ : ∃ x, L.length = x := ⟨_, rfl⟩
  have hnb : nb ≤ 127 := by rw [← enb, ← eL, List.length_replicate]; exact secN_le a.off
  have hsec : Calls Try.prog 20 #[.int .u8 (fl : Int), .int .i64 po] w3 (OwnPost w3 L) := by
    rw [← HAt.out.2.2.2, ← HAt.out.2.2.1, ← eL]
    exact sector_any w3 a.fill a.off
  have HSec := Lib.hid hsec
  clear hsec eL
  go_wp2_with fail
  refine HSec.out.mono ?_
  rintro e w4 ⟨v4, rfl, hown4, hb4⟩
  obtain ⟨A4, c4, rfl, _, hH4⟩ := Held.own (F := fun g => F g ∨ g ≤ g4 + 2) hown4 (fun g hg => hg.elim (HS.out.code.lt g) (fun h => by have := HS.out.siz; omega))
  have HS4 := Lib.hid (HS.out.below hb4)
  have hca4 : w4.cell? ⟨g4 + 1, 1, none⟩ = some (.int .i64 pa) := by rw [HS4.out.b5.cell, ← HX.out, ← HAt.out.2.1]; rfl
  have hconv := hH4.conv (P := Try.prog) enb Try.underlying27 Try.underlying5 c4 Try.underlying9 w4 (Below.refl _ _)
  obtain ⟨sB, esB⟩ : ∃ x : ByteArray, (⟨L.toArray⟩ : ByteArray) = x := ⟨_, rfl⟩
  rw [esB] at hconv
  have hrow4 := hown4.row enb
  rw [enb] at hrow4
  have HL := Lib.hid (And.intro hH4 (And.intro hrow4 (And.intro enb (And.intro esB hb4))))
  rw [enb]
  clear hH4 hown4 hb4 hrow4 enb esB hca hco hcf hck
  go_wp2_with (first | (with_reducible refine st_load 57 ?_; refine stopped ?_) | fail)
  refine go_on ?_
  refine wpList_load_at rfl 57 (.tmp 4) rfl g4 0 rfl cs.toArray _ (Blk.cells HS4.out.b4) Try.underlying57 rfl (rsize_arr HC5.out.1) ?_
  simp only [Act.put, List.setIfInBounds_toArray, List.set_cons_zero, List.set_cons_succ]
  obtain ⟨dw, edw⟩ : ∃ x, d.write pa L = x := ⟨_, rfl⟩
  have hrc := refWrite_any w4 cs d HS4.out.ref (by have := HH.out.kd; have := HH.out.kk; omega) pa L
  rw [edw, show sv L = .string sB from congrArg Value.string HL.out.2.2.2.1] at hrc
  have HRc := Lib.hid hrc
  clear hrc
  have hw1 := write_waits d pa L
  have hw2 := write_has d pa L
  rw [edw] at hw1 hw2
  have HEd := Lib.hid edw
  clear edw
  go_wp2_with fail
  refine HRc.out.mono ?_
  rintro e w5 ⟨cs5, rfl, hR5, hf5, hb5⟩
  have hsh := hR5.shape
  have HR5 := Lib.hid (And.intro hR5 (And.intro hf5 (And.intro hb5 hsh)))
  clear hR5 hf5 hb5 hsh
  obtain ⟨nd, end_⟩ : ∃ x, dw.2 = x := ⟨_, rfl⟩
  rw [end_]
  clear end_
  go_wp2_with (first | (with_reducible refine st_store 57 ?_; refine stopped ?_) | fail)
  refine go_on ?_
  refine wpList_store_whole rfl 57 (.tmp 4) (.tmp 42) rfl g4 cs5 rfl rfl 57 cs (HS4.out.b4.below HR5.out.2.2.1 (by have := HS4.out.siz; omega)) (rsize_of HR5.out.2.2.2.1) (by rw [HC5.out.1, HR5.out.2.2.2.1]) HR5.out.2.2.2.2 ?_
  intro w6 hb6 hg6
  simp only [Act.put, List.setIfInBounds_toArray, List.set_cons_zero, List.set_cons_succ]
  have HS6 := Lib.hid (HS4.out.onRef HR5.out.1 HR5.out.2.1 HR5.out.2.2.1 hg6 hb6)
  have hca6 : w6.cell? ⟨g4 + 1, 1, none⟩ = some (.int .i64 pa) := by rw [HS6.out.b5.cell, ← HX.out, ← HAt.out.2.1]; rfl
  have hk6 : Kept (· = g4) w5 w6 := .of_grown hg6 (fun g e => .inl (Option.some.inj e).symm)
  have hH6 : Held w6 (fun g => F g ∨ g ≤ g4 + 2) A4 L := (HL.out.1.below HR5.out.2.2.1).step (hk6.mono (fun g e => .inr (by omega))) (fun _ => .inl)
  have hrow6 := row_keep (row_below HL.out.2.1 HR5.out.2.2.1) hk6 (fun g e e2 => by have := (World.ownsRow.lt HL.out.2.1 g e).1; have := HS.out.siz; omega)
  have HL6 := Lib.hid (And.intro hH6 (And.intro hrow6 (Nat.le_trans HR5.out.2.2.1.size hg6.size)))
  clear hg6 hb6 hk6 hH6 hrow6 hca4 hconv
  go_wp2_with fail
  obtain ⟨mw, emw⟩ : ∃ x, m.write pa L = x := ⟨_, rfl⟩
  have hwc := dkWrite w6 gd F m HS6.out.code (by have := HH.out.km; have := HH.out.kk; omega) pa A4 L c4 HL6.out.1.1 (fun g hg => HL6.out.1.2 g (.inl hg))
  rw [emw, HL.out.2.2.1] at hwc
  have hw3 := write_waits m pa L
  have hw4 := write_has m pa L
  rw [emw] at hw3 hw4
  have HMd := Lib.hid (show mw = dw by rw [← emw, ← HEd.out, HH.out.md])
  refine hwc.mono ?_
  rintro e w7 ⟨rfl, F7, h7, hk7, hs7⟩
  obtain ⟨nm, enm⟩ : ∃ x, mw.2 = x := ⟨_, rfl⟩
  rw [enm]
  have HS7 := Lib.hid (HS6.out.onCode h7 hk7 hs7)
  have hrow7 := row_keep HL6.out.2.1 hk7 (fun g e hf => by have := (World.ownsRow.lt HL.out.2.1 g e).1; have := HS.out.code.lt g hf; omega)
  have hnf : ∀ g, (Value.slice A4 nb c4).ownBlock = some g → ¬ F7 g ∧ RefFar cs5 dw.1 g ∧ g4 + 2 < g := fun g e => by
    have h2 := World.ownsRow.lt HL.out.2.1 g e
    refine ⟨fun hf => ?_, HR5.out.2.1 g h2.2 (HS.out.ref.beyond h2.1), by have := HS.out.siz; omega⟩
    rcases hs7 g hf with h3 | h3
    · have := HS.out.code.lt g h3
      omega
    · have := HL6.out.2.2
      omega
  have HR7 := Lib.hid (And.intro hrow7 HL.out.2.2.1)
  have HNf := Lib.hid hnf
  clear hwc emw h7 hk7 hs7 enm hrow7 hnf hca6
  go_wp2_with fail
  go_loopw [11] (fun i wz => ∃ (j : Nat) (l : List UInt8), j ≤ nb ∧ i = .int .i64 (j : Int) ∧ l.length = nb ∧ wz.ownsRow w3.heap.size 5 1 (.slice A4 nb c4) nb (bv l) ∧ Kept (fun g => (Value.slice A4 nb c4).ownBlock = some g) w7 wz) (fun i _ => nb - (intOf i).toNat)
  case atStart => exact ⟨0, _, by omega, rfl, HR7.out.2, HR7.out.1, .refl _ _⟩
  case round =>
    obtain ⟨j, l, hj, rfl, hl, hrow, hkept⟩ := hrel
    by_cases hlt : j < nb
    · obtain ⟨g, x, eA, hcell, hfro⟩ := bytes_row hrow hlt hl
      have HI := Lib.hid (And.intro hrow (And.intro hkept hl))
      have HAe := Lib.hid eA
      subst eA
      have hji : (j : Int) < (nb : Int) := by omega
      have hj0 : (0 : Int) ≤ (j : Int) := by omega
      clear hrow hkept hl
      go_wp2_with fail
      go_roundw
      case rel =>
        have hst := World.ownsRow.stored HI.out.1 j (.int .u8 ((99 : UInt8).toNat : Int))
        rw [bv_set] at hst
        exact ⟨j + 1, l.set j 99, by omega, by go_num, by simp; exact HI.out.2.2, hst.1, HI.out.2.1.trans (Kept.of_grown (F := fun g' => (Value.slice (some ⟨g, 0, none⟩) nb c4).ownBlock = some g') hst.2 (fun g' e => .inl (by simpa [Value.ownBlock] using e))) (fun g' hg => .inl hg)⟩
      case measure => simp [intOf]; omega
    · obtain rfl : j = nb := by omega
      have hnl : ¬ (j : Int) < (j : Int) := by omega
      have HS8 := Lib.hid (HS7.out.other hkept HNf.out)
      clear hrow hkept hl
      go_wp2_with (first | (with_reducible refine st_load 57 ?_; refine stopped ?_) | fail)
      refine go_on ?_
      refine wpList_load_at rfl 57 (.tmp 4) rfl g4 0 rfl cs5.toArray _ (Blk.cells HS8.out.b4) Try.underlying57 rfl (rsize_arr HR5.out.2.2.2.1) ?_
      simp only [Act.put, List.setIfInBounds_toArray, List.set_cons_zero, List.set_cons_succ]
      go_wp2_with (first | (with_reducible refine st_store 57 ?_; refine stopped ?_) | fail)
      refine go_on ?_
      refine wpList_store_whole rfl 57 (.tmp 6) (.tmp 58) rfl (g4 + 2) cs5 rfl rfl 57 rzero HS8.out.b6 (rsize_of HR5.out.2.2.2.1) (by rw [HR5.out.2.2.2.1]; rfl) HR5.out.2.2.2.2 ?_
      intro w9 hb9 hg9
      simp only [Act.put, List.setIfInBounds_toArray, List.set_cons_zero, List.set_cons_succ]
      repeat (first | go_values | go_skip | go_guarded | go_step)
      refine bodyPost_rowv rfl (g4 + 2) rfl (.bool _) rfl 57 _ _ hb9 Try.underlying57 rfl (rsize_arr HR5.out.2.2.2.1) rfl ?_
      exact HS8.out.done hg9 _ (by have := HH.out.km; omega) (by have := HH.out.kd; omega) (by rw [hw4]; exact HH.out.m4) (by rw [hw2]; exact HH.out.d4) (by rw [HMd.out])
set_option maxRecDepth 100000 in
set_option maxHeartbeats 4000000 in
set_option linter.unusedSimpArgs false in
theorem do_write3 (w : World) (gd : Nat) (F : Nat → Prop) (m : Dk) (k : Nat) (cs : List Value) (d : Dk) (a : ActV) (S : Option Addr) (n c : Nat) (h : DoPre w gd F m k cs d a S n) (hdo : a.do_ = 3) :
    Calls Try.prog 25 #[.pointer (some ⟨gd, 0, none⟩), .agg cs.toArray, .agg (actCells a S c).toArray] w (DoPost w gd F k cs d S n) := by
  obtain ⟨hok, A0, W0, S0, ca0, cw0, cv0, ecs, hA0, hW0, hS0⟩ := h.ref
  have hRef : RefIs w w.heap.size cs d := h.ref
  have hlen : cs.length = 5 := by rw [ecs]; rfl
  have hone : ∀ v ∈ cs, v.oneCell' = true := by rw [ecs]; exact refCells_one _ _ _ _ _ _ _
  have HC5 := Lib.hid (And.intro hlen (And.intro hone ecs))
  have HH := Lib.hid h
  obtain ⟨X, eX⟩ : ∃ X, actCells a S c = X := ⟨_, rfl⟩
  have HX := Lib.hid eX
  rw [eX]
  obtain ⟨C, eC⟩ : ∃ C, cs.toArray = C := ⟨_, rfl⟩
  obtain ⟨Y, eY⟩ : ∃ Y, X.toArray = Y := ⟨_, rfl⟩
  rw [eC, eY]
  have HCY := Lib.hid (And.intro eC eY)
  clear hok hA0 hW0 hS0 hlen hone h hRef eX eC eY
  clear ecs
  go_enter Try.func25, Try.ntmps25
  go_wp2_with (first | (with_reducible refine st_box 57 ?_; refine stopped ?_) | fail)
  refine go_on ?_
  refine wpList_box rfl 57 (.tmp 1) rfl C rfl ?_
  intro w1 hb1 hw1 hz1
  refine wpList_box rfl 44 (.tmp 2) rfl Y rfl ?_
  intro w2 hb2 hw2 hz2
  refine wpList_alloc rfl 57 rfl _ rdisk_zero ?_
  intro w3 hb3 hw3 hz3
  obtain ⟨g4, e4⟩ : ∃ g, w.heap.size = g := ⟨_, rfl⟩
  have e5 : w1.heap.size = g4 + 1 := by omega
  have e6 : w2.heap.size = g4 + 2 := by omega
  rw [e4] at hb1 hw1 ⊢
  rw [e5] at hb2 hw2 ⊢
  rw [e6] at hb3 hw3 ⊢
  simp only [Act.put, List.setIfInBounds_toArray, List.set_cons_zero, List.set_cons_succ]
  rw [← HCY.out.1] at hb1
  rw [← HCY.out.2] at hb2
  have hbw : Below g4 w w3 := (hw1.trans (hw2.mono (by omega))).trans (hw3.mono (by omega))
  have hst : DoS w w3 gd g4 F F m cs d S n cs d X := ⟨HH.out.code.below (e4.symm ▸ hbw), (HH.out.ref.below (e4.symm ▸ hbw)).more (by omega), HH.out.far, HH.out.ref.beyond (by omega), HH.out.ref.beyond (by omega), fun _ _ h _ => h,
    (hb1.below hw2 (by omega)).below hw3 (by omega), hb2.below hw3 (by omega), hb3, e4, fun g hg => by have := HH.out.code.lt g hg; omega, .of_below (e4.symm ▸ hbw), fun _ => .inl⟩
  have HS := Lib.hid hst
  have hcd : w3.cell? ⟨g4 + 1, 0, none⟩ = some (.int .i64 a.do_) := by rw [hst.b5.cell, ← HX.out]; rfl
  have hca : w3.cell? ⟨g4 + 1, 1, none⟩ = some (.int .i64 a.at_) := by rw [hst.b5.cell, ← HX.out]; rfl
  have hco : w3.cell? ⟨g4 + 1, 2, none⟩ = some (.int .i64 a.off) := by rw [hst.b5.cell, ← HX.out]; rfl
  have hcf : w3.cell? ⟨g4 + 1, 3, none⟩ = some (.int .u8 (a.fill.toNat : Int)) := by rw [hst.b5.cell, ← HX.out]; rfl
  have hck : w3.cell? ⟨g4 + 1, 4, none⟩ = some (.slice S n c) := by rw [hst.b5.cell, ← HX.out, ← HH.out.keep]; rfl
  have hbase := e4
  clear hb1 hb2 hb3 hw1 hw2 hw3 hz1 hz2 hz3 e4 e5 e6 hbw hst
  obtain ⟨pd, epd⟩ : ∃ x, a.do_ = x := ⟨_, rfl⟩
  obtain ⟨pa, epa⟩ : ∃ x, a.at_ = x := ⟨_, rfl⟩
  obtain ⟨po, epo⟩ : ∃ x, a.off = x := ⟨_, rfl⟩
  obtain ⟨fl, efl⟩ : ∃ x, a.fill.toNat = x := ⟨_, rfl⟩
  rw [epd] at hcd
  rw [epa] at hca
  rw [epo] at hco
  rw [efl] at hcf
  have HAt := Lib.hid (And.intro epd (And.intro epa (And.intro epo efl)))
  rw [hdo] at epd
  subst epd
  clear epa epo efl hdo
  obtain ⟨L, eL⟩ : ∃ x, List.replicate (secN a.off) a.fill = x := ⟨_, rfl⟩
  obtain ⟨nb, enb⟩ : ∃ x, L.length = x := ⟨_, rfl⟩
  have hnb : nb ≤ 127 := by rw [← enb, ← eL, List.length_replicate]; exact secN_le a.off
  have hsec : Calls Try.prog 20 #[.int .u8 (fl : Int), .int .i64 po] w3 (OwnPost w3 L) := by
    rw [← HAt.out.2.2.2, ← HAt.out.2.2.1, ← eL]
    exact sector_any w3 a.fill a.off
  have HSec := Lib.hid hsec
  clear hsec eL
  go_wp2_with fail
  refine HSec.out.mono ?_
  rintro e w4 ⟨v4, rfl, hown4, hb4⟩
  obtain ⟨A4, c4, rfl, _, hH4⟩ := Held.own (F := fun g => F g ∨ g ≤ g4 + 2) hown4 (fun g hg => hg.elim (HS.out.code.lt g) (fun h => by have := HS.out.siz; omega))
  have HS4 := Lib.hid (HS.out.below hb4)
  have hca4 : w4.cell? ⟨g4 + 1, 1, none⟩ = some (.int .i64 pa) := by rw [HS4.out.b5.cell, ← HX.out, ← HAt.out.2.1]; rfl
  have hconv := hH4.conv (P := Try.prog) enb Try.underlying27 Try.underlying5 c4 Try.underlying9 w4 (Below.refl _ _)
  obtain ⟨sB, esB⟩ : ∃ x : ByteArray, (⟨L.toArray⟩ : ByteArray) = x := ⟨_, rfl⟩
  rw [esB] at hconv
  have hrow4 := hown4.row enb
  rw [enb] at hrow4
  have HL := Lib.hid (And.intro hH4 (And.intro hrow4 (And.intro enb (And.intro esB hb4))))
  rw [enb]
  clear hH4 hown4 hb4 hrow4 enb esB hca hco hcf hck
  go_wp2_with (first | (with_reducible refine st_load 57 ?_; refine stopped ?_) | fail)
  refine go_on ?_
  refine wpList_load_at rfl 57 (.tmp 4) rfl g4 0 rfl cs.toArray _ (Blk.cells HS4.out.b4) Try.underlying57 rfl (rsize_arr HC5.out.1) ?_
  simp only [Act.put, List.setIfInBounds_toArray, List.set_cons_zero, List.set_cons_succ]
  obtain ⟨dw, edw⟩ : ∃ x, d.write pa L = x := ⟨_, rfl⟩
  have hrc := refWrite_any w4 cs d HS4.out.ref (by have := HH.out.kd; have := HH.out.kk; omega) pa L
  rw [edw, show sv L = .string sB from congrArg Value.string HL.out.2.2.2.1] at hrc
  have HRc := Lib.hid hrc
  clear hrc
  have hw1 := write_waits d pa L
  have hw2 := write_has d pa L
  rw [edw] at hw1 hw2
  have HEd := Lib.hid edw
  clear edw
  go_wp2_with fail
  refine HRc.out.mono ?_
  rintro e w5 ⟨cs5, rfl, hR5, hf5, hb5⟩
  have hsh := hR5.shape
  have HR5 := Lib.hid (And.intro hR5 (And.intro hf5 (And.intro hb5 hsh)))
  clear hR5 hf5 hb5 hsh
  obtain ⟨nd, end_⟩ : ∃ x, dw.2 = x := ⟨_, rfl⟩
  rw [end_]
  clear end_
  go_wp2_with (first | (with_reducible refine st_store 57 ?_; refine stopped ?_) | fail)
  refine go_on ?_
  refine wpList_store_whole rfl 57 (.tmp 4) (.tmp 42) rfl g4 cs5 rfl rfl 57 cs (HS4.out.b4.below HR5.out.2.2.1 (by have := HS4.out.siz; omega)) (rsize_of HR5.out.2.2.2.1) (by rw [HC5.out.1, HR5.out.2.2.2.1]) HR5.out.2.2.2.2 ?_
  intro w6 hb6 hg6
  simp only [Act.put, List.setIfInBounds_toArray, List.set_cons_zero, List.set_cons_succ]
  have HS6 := Lib.hid (HS4.out.onRef HR5.out.1 HR5.out.2.1 HR5.out.2.2.1 hg6 hb6)
  have hca6 : w6.cell? ⟨g4 + 1, 1, none⟩ = some (.int .i64 pa) := by rw [HS6.out.b5.cell, ← HX.out, ← HAt.out.2.1]; rfl
  have hk6 : Kept (· = g4) w5 w6 := .of_grown hg6 (fun g e => .inl (Option.some.inj e).symm)
  have hH6 : Held w6 (fun g => F g ∨ g ≤ g4 + 2) A4 L := (HL.out.1.below HR5.out.2.2.1).step (hk6.mono (fun g e => .inr (by omega))) (fun _ => .inl)
  have hrow6 := row_keep (row_below HL.out.2.1 HR5.out.2.2.1) hk6 (fun g e e2 => by have := (World.ownsRow.lt HL.out.2.1 g e).1; have := HS.out.siz; omega)
  have HL6 := Lib.hid (And.intro hH6 (And.intro hrow6 (Nat.le_trans HR5.out.2.2.1.size hg6.size)))
  clear hg6 hb6 hk6 hH6 hrow6 hca4 hconv
  go_wp2_with fail
  obtain ⟨mw, emw⟩ : ∃ x, m.write pa L = x := ⟨_, rfl⟩
  have hwc := dkWrite w6 gd F m HS6.out.code (by have := HH.out.km; have := HH.out.kk; omega) pa A4 L c4 HL6.out.1.1 (fun g hg => HL6.out.1.2 g (.inl hg))
  rw [emw, HL.out.2.2.1] at hwc
  have hw3 := write_waits m pa L
  have hw4 := write_has m pa L
  rw [emw] at hw3 hw4
  have HMd := Lib.hid (show mw = dw by rw [← emw, ← HEd.out, HH.out.md])
  refine hwc.mono ?_
  rintro e w7 ⟨rfl, F7, h7, hk7, hs7⟩
  obtain ⟨nm, enm⟩ : ∃ x, mw.2 = x := ⟨_, rfl⟩
  rw [enm]
  have HS7 := Lib.hid (HS6.out.onCode h7 hk7 hs7)
  have hrow7 := row_keep HL6.out.2.1 hk7 (fun g e hf => by have := (World.ownsRow.lt HL.out.2.1 g e).1; have := HS.out.code.lt g hf; omega)
  have hnf : ∀ g, (Value.slice A4 nb c4).ownBlock = some g → ¬ F7 g ∧ RefFar cs5 dw.1 g ∧ g4 + 2 < g := fun g e => by
    have h2 := World.ownsRow.lt HL.out.2.1 g e
    refine ⟨fun hf => ?_, HR5.out.2.1 g h2.2 (HS.out.ref.beyond h2.1), by have := HS.out.siz; omega⟩
    rcases hs7 g hf with h3 | h3
    · have := HS.out.code.lt g h3
      omega
    · have := HL6.out.2.2
      omega
  have HR7 := Lib.hid (And.intro hrow7 HL.out.2.2.1)
  have HNf := Lib.hid hnf
  clear hwc emw h7 hk7 hs7 enm hrow7 hnf hca6
  go_wp2_with fail
  go_loopw [11] (fun i wz => ∃ (j : Nat) (l : List UInt8), j ≤ nb ∧ i = .int .i64 (j : Int) ∧ l.length = nb ∧ wz.ownsRow w3.heap.size 5 1 (.slice A4 nb c4) nb (bv l) ∧ Kept (fun g => (Value.slice A4 nb c4).ownBlock = some g) w7 wz) (fun i _ => nb - (intOf i).toNat)
  case atStart => exact ⟨0, _, by omega, rfl, HR7.out.2, HR7.out.1, .refl _ _⟩
  case round =>
    obtain ⟨j, l, hj, rfl, hl, hrow, hkept⟩ := hrel
    by_cases hlt : j < nb
    · obtain ⟨g, x, eA, hcell, hfro⟩ := bytes_row hrow hlt hl
      have HI := Lib.hid (And.intro hrow (And.intro hkept hl))
      have HAe := Lib.hid eA
      subst eA
      have hji : (j : Int) < (nb : Int) := by omega
      have hj0 : (0 : Int) ≤ (j : Int) := by omega
      clear hrow hkept hl
      go_wp2_with fail
      go_roundw
      case rel =>
        have hst := World.ownsRow.stored HI.out.1 j (.int .u8 ((99 : UInt8).toNat : Int))
        rw [bv_set] at hst
        exact ⟨j + 1, l.set j 99, by omega, by go_num, by simp; exact HI.out.2.2, hst.1, HI.out.2.1.trans (Kept.of_grown (F := fun g' => (Value.slice (some ⟨g, 0, none⟩) nb c4).ownBlock = some g') hst.2 (fun g' e => .inl (by simpa [Value.ownBlock] using e))) (fun g' hg => .inl hg)⟩
      case measure => simp [intOf]; omega
    · obtain rfl : j = nb := by omega
      have hnl : ¬ (j : Int) < (j : Int) := by omega
      have HS8 := Lib.hid (HS7.out.other hkept HNf.out)
      clear hrow hkept hl
      go_wp2_with (first | (with_reducible refine st_load 57 ?_; refine stopped ?_) | fail)
      refine go_on ?_
      refine wpList_load_at rfl 57 (.tmp 4) rfl g4 0 rfl cs5.toArray _ (Blk.cells HS8.out.b4) Try.underlying57 rfl (rsize_arr HR5.out.2.2.2.1) ?_
      simp only [Act.put, List.setIfInBounds_toArray, List.set_cons_zero, List.set_cons_succ]
      go_wp2_with (first | (with_reducible refine st_store 57 ?_; refine stopped ?_) | fail)
      refine go_on ?_
      refine wpList_store_whole rfl 57 (.tmp 6) (.tmp 58) rfl (g4 + 2) cs5 rfl rfl 57 rzero HS8.out.b6 (rsize_of HR5.out.2.2.2.1) (by rw [HR5.out.2.2.2.1]; rfl) HR5.out.2.2.2.2 ?_
      intro w9 hb9 hg9
      simp only [Act.put, List.setIfInBounds_toArray, List.set_cons_zero, List.set_cons_succ]
      repeat (first | go_values | go_skip | go_guarded | go_step)
      refine bodyPost_rowv rfl (g4 + 2) rfl (.bool _) rfl 57 _ _ hb9 Try.underlying57 rfl (rsize_arr HR5.out.2.2.2.1) rfl ?_
      exact HS8.out.done hg9 _ (by have := HH.out.km; omega) (by have := HH.out.kd; omega) (by rw [hw4]; exact HH.out.m4) (by rw [hw2]; exact HH.out.d4) (by rw [HMd.out])
end Go.Proofs.Ytnnjneijdfibnaa
