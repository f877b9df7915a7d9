/-
  The law's Do where it reads. Conditions: the theorem's own premises.
-/
import Derived.Test.YtnnjneijdfibnaaDiskDo3
namespace Go.Proofs.Ytnnjneijdfibnaa
open Go.RowKit

theorem bytes_row {w : World} {base n c : Nat} {A : Option Addr} {l : List UInt8} {t : TypeId} (h : w.ownsRow base t 1 (.slice A n c) n (bv l)) {j : Nat} (hj : j < n) (hl : l.length = n) :
    ∃ g x, A = some ⟨g, 0, none⟩ ∧ w.cell? ⟨g, j, none⟩ = some (.int .u8 x) ∧ w.frozen? ⟨g, j, none⟩ = false := by
  rcases h.2 with ⟨_, h0⟩ | ⟨g, cap, cur, hv, hg, hh, hr⟩
  · omega
  · injection hv with hA hk hc
    subst hA hc
    refine ⟨g, ((l[j]'(by omega)).toNat : Int), rfl, ?_, by simp [World.frozen?, hh]⟩
    have := World.ownsRow.cells h (g := g) rfl j _ (bv_get (by rw [hl]; exact hj))
    rwa [Addr.add_lit, Nat.zero_add] at this
theorem rdw_len {ws : List (Nat × List UInt8)} {p : Nat} : ∀ {j : Nat} {s : List UInt8}, (∀ q ∈ ws, q.2.length = 64) → j ≤ ws.length → rdw ws p j = some s → s.length = 64
  | 0, s, _, _, e => by simp [rdw] at e
  | j + 1, s, h, hj, e => by
    simp only [rdw] at e
    split at e
    · injection e with e
      rw [← e]
      exact h _ (by simp [List.getD, show j < ws.length by omega])
    · exact rdw_len h (by omega) e
theorem read_le {m : Dk} (h : m.ok) (k : Int) : (m.read k).1.length ≤ 64 := by
  unfold Dk.read
  split
  · simp
  · split
    · simp
    · cases e : rdw m.waits k.toNat m.waits.length with
      | none =>
        simp only [Option.getD_none]
        by_cases hk : k.toNat < m.has.length
        · rw [getD_len h.len hk]
          exact Nat.le_refl _
        · rw [List.getD, List.getElem?_eq_none (by omega)]
          simp
      | some s =>
        simp only [Option.getD_some]
        rw [rdw_len (fun q hq => (h.at_ q hq).2) (Nat.le_refl _) e]
        exact Nat.le_refl _
theorem bv_set (l : List UInt8) (j : Nat) (y : UInt8) : (bv l).set j (.int .u8 (y.toNat : Int)) = bv (l.set j y) := by simp [bv, List.map_set]
set_option maxRecDepth 100000 in
set_option maxHeartbeats 4000000 in
set_option linter.unusedSimpArgs false in
theorem do_read (w : World) (gd : Nat) (F : Nat → Prop) (m : Dk) (k : Nat) (cs : List Value) (d : Dk) (a : ActV) (S : Option Addr) (n c : Nat) (h : DoPre w gd F m k cs d a S n) (hdo : a.do_ = 5) :
    Calls Try.prog 25 #[.pointer (some ⟨gd, 0, none⟩), .agg cs.toArray, .agg (actCells a S c).toArray] w (DoPost w gd F k cs d S n) := by
  obtain ⟨hok, A0, W0, S0, ca0, cw0, cv0, ecs, hA0, hW0, hS0⟩ := h.ref
  have hRef : RefIs w w.heap.size cs d := h.ref
  have hlen : cs.length = 5 := by rw [ecs]; rfl
  have hone : ∀ v ∈ cs, v.oneCell' = true := by rw [ecs]; exact refCells_one _ _ _ _ _ _ _
  have HC5 := Lib.hid (And.intro hlen (And.intro hone ecs))
  have HH := Lib.hid h
  obtain ⟨X, eX⟩ : ∃ X, actCells a S c = X := ⟨_, rfl⟩
  have HX := Lib.hid eX
  rw [eX]
  obtain ⟨C, eC⟩ : ∃ C, cs.toArray = C := ⟨_, rfl⟩
  obtain ⟨Y, eY⟩ : ∃ Y, X.toArray = Y := ⟨_, rfl⟩
  rw [eC, eY]
  have HCY := Lib.hid (And.intro eC eY)
  clear hok hA0 hW0 hS0 hlen hone h hRef eX eC eY
  clear ecs
  go_enter Try.func25, Try.ntmps25
  go_wp2_with (first | (with_reducible refine st_box 57 ?_; refine stopped ?_) | fail)
  refine go_on ?_
  refine wpList_box rfl 57 (.tmp 1) rfl C rfl ?_
  intro w1 hb1 hw1 hz1
  refine wpList_box rfl 44 (.tmp 2) rfl Y rfl ?_
  intro w2 hb2 hw2 hz2
  refine wpList_alloc rfl 57 rfl _ rdisk_zero ?_
  intro w3 hb3 hw3 hz3
  obtain ⟨g4, e4⟩ : ∃ g, w.heap.size = g := ⟨_, rfl⟩
  have e5 : w1.heap.size = g4 + 1 := by omega
  have e6 : w2.heap.size = g4 + 2 := by omega
  rw [e4] at hb1 hw1 ⊢
  rw [e5] at hb2 hw2 ⊢
  rw [e6] at hb3 hw3 ⊢
  simp only [Act.put, List.setIfInBounds_toArray, List.set_cons_zero, List.set_cons_succ]
  rw [← HCY.out.1] at hb1
  rw [← HCY.out.2] at hb2
  have hbw : Below g4 w w3 := (hw1.trans (hw2.mono (by omega))).trans (hw3.mono (by omega))
  have hst : DoS w w3 gd g4 F F m cs d S n cs d X := ⟨HH.out.code.below (e4.symm ▸ hbw), (HH.out.ref.below (e4.symm ▸ hbw)).more (by omega), HH.out.far, HH.out.ref.beyond (by omega), HH.out.ref.beyond (by omega), fun _ _ h _ => h,
    (hb1.below hw2 (by omega)).below hw3 (by omega), hb2.below hw3 (by omega), hb3, e4, fun g hg => by have := HH.out.code.lt g hg; omega, .of_below (e4.symm ▸ hbw), fun _ => .inl⟩
  have HS := Lib.hid hst
  have hcd : w3.cell? ⟨g4 + 1, 0, none⟩ = some (.int .i64 a.do_) := by rw [hst.b5.cell, ← HX.out]; rfl
  have hca : w3.cell? ⟨g4 + 1, 1, none⟩ = some (.int .i64 a.at_) := by rw [hst.b5.cell, ← HX.out]; rfl
  have hco : w3.cell? ⟨g4 + 1, 2, none⟩ = some (.int .i64 a.off) := by rw [hst.b5.cell, ← HX.out]; rfl
  have hcf : w3.cell? ⟨g4 + 1, 3, none⟩ = some (.int .u8 (a.fill.toNat : Int)) := by rw [hst.b5.cell, ← HX.out]; rfl
  have hck : w3.cell? ⟨g4 + 1, 4, none⟩ = some (.slice S n c) := by rw [hst.b5.cell, ← HX.out, ← HH.out.keep]; rfl
  have hbase := e4
  clear hb1 hb2 hb3 hw1 hw2 hw3 hz1 hz2 hz3 e4 e5 e6 hbw hst
  obtain ⟨pd, epd⟩ : ∃ x, a.do_ = x := ⟨_, rfl⟩
  obtain ⟨pa, epa⟩ : ∃ x, a.at_ = x := ⟨_, rfl⟩
  obtain ⟨po, epo⟩ : ∃ x, a.off = x := ⟨_, rfl⟩
  obtain ⟨fl, efl⟩ : ∃ x, a.fill.toNat = x := ⟨_, rfl⟩
  rw [epd] at hcd
  rw [epa] at hca
  rw [epo] at hco
  rw [efl] at hcf
  have HAt := Lib.hid (And.intro epd (And.intro epa (And.intro epo efl)))
  rw [hdo] at epd
  subst epd
  clear epa epo efl hdo
  go_wp2_with (first | (with_reducible refine st_load 57 ?_; refine stopped ?_) | fail)
  refine go_on ?_
  refine wpList_load_at rfl 57 (.tmp 4) rfl g4 0 rfl cs.toArray _ (Blk.cells HS.out.b4) Try.underlying57 rfl (rsize_arr HC5.out.1) ?_
  simp only [Act.put, List.setIfInBounds_toArray, List.set_cons_zero, List.set_cons_succ]
  obtain ⟨rs, ers⟩ : ∃ r, d.read pa = r := ⟨_, rfl⟩
  obtain ⟨sS, esS⟩ : ∃ x, sv rs.1 = .string x := ⟨_, rfl⟩
  have hrc := refRead_any w3 cs d HS.out.ref (by have := HH.out.kd; have := HH.out.kk; omega) pa
  rw [ers] at hrc
  unfold DkReadPost at hrc
  rw [esS] at hrc
  have HRc := Lib.hid hrc
  clear hrc ers esS
  go_wp2_with fail
  refine HRc.out.mono ?_
  rintro e w4 ⟨rfl, hb4⟩
  have HS4 := Lib.hid (HS.out.below hb4)
  have hca4 : w4.cell? ⟨g4 + 1, 1, none⟩ = some (.int .i64 pa) := by rw [HS4.out.b5.cell, ← HX.out, ← HAt.out.2.1]; rfl
  obtain ⟨nr, enr⟩ : ∃ x, rs.2 = x := ⟨_, rfl⟩
  rw [enr]
  clear hb4 hca hco hcf hck enr
  go_wp2_with fail
  obtain ⟨rc, erc⟩ : ∃ r, m.read pa = r := ⟨_, rfl⟩
  have hrd := dkRead w4 gd F m HS4.out.code (by have := HH.out.km; have := HH.out.kk; omega) pa
  rw [erc] at hrd
  refine hrd.mono ?_
  rintro e w5 ⟨v5, rfl, hown5, hb5⟩
  obtain ⟨L, eL⟩ : ∃ x, rc.1 = x := ⟨_, rfl⟩
  obtain ⟨nc, enc⟩ : ∃ x, rc.2 = x := ⟨_, rfl⟩
  rw [eL] at hown5
  rw [enc]
  obtain ⟨nb, enb⟩ : ∃ x, L.length = x := ⟨_, rfl⟩
  obtain ⟨A5, c5, rfl, _, hH5⟩ := Held.own hown5 HS4.out.code.lt
  rw [enb] at hown5 ⊢
  have hconv := hH5.conv (P := Try.prog) enb Try.underlying27 Try.underlying5 c5 Try.underlying9 w5 (Below.refl _ _)
  obtain ⟨sB, esB⟩ : ∃ x : ByteArray, (⟨L.toArray⟩ : ByteArray) = x := ⟨_, rfl⟩
  rw [esB] at hconv
  have HS5 := Lib.hid (HS4.out.below hb5)
  have hnb : nb ≤ 64 := by
    rw [← enb, ← eL, ← erc]
    exact read_le HH.out.code.ok pa
  have HA5 := Lib.hid (And.intro hown5 enb)
  have HB5 := Lib.hid (And.intro hb5 hH5)
  clear hrd erc eL enc enb hown5 hb5 hH5 esB hca4
  go_upto_region 21 with fail
  go_cut [16] from 90 to 98 (fun c wx => (∃ q, c = .bool q) ∧ wx = w5)
  case first =>
    go_wp2_with fail
    all_goals
      go_meet
      case rel => exact ⟨⟨_, rfl⟩, rfl⟩
  case rest =>
    obtain ⟨⟨q, rfl⟩, hwc⟩ := hcut
    have hwc := hwc.symm
    subst hwc
    have hrow5 := HA5.out.1.row HA5.out.2
    have hnf : ∀ g, (Value.slice A5 nb c5).ownBlock = some g → ¬ F g ∧ RefFar cs d g ∧ g4 + 2 < g := fun g e => by
      have h2 := (World.ownsRow.lt hrow5 g e).1
      refine ⟨fun hf => ?_, HS4.out.ref.beyond h2, by have := HS4.out.siz; omega⟩
      have := HS4.out.code.lt g hf
      omega
    have HR5 := Lib.hid (And.intro hrow5 HA5.out.2)
    have HNf := Lib.hid hnf
    clear hrow5 hnf
    go_wp2_with fail
    go_loopw [17] (fun i wz => ∃ (j : Nat) (l : List UInt8), j ≤ nb ∧ i = .int .i64 (j : Int) ∧ l.length = nb ∧ wz.ownsRow w4.heap.size 5 1 (.slice A5 nb c5) nb (bv l) ∧ Kept (fun g => (Value.slice A5 nb c5).ownBlock = some g) w5 wz) (fun i _ => nb - (intOf i).toNat)
    case atStart => exact ⟨0, _, by omega, rfl, HR5.out.2, HR5.out.1, .refl _ _⟩
    case round =>
      obtain ⟨j, l, hj, rfl, hl, hrow, hkept⟩ := hrel
      by_cases hlt : j < nb
      · obtain ⟨g, x, eA, hcell, hfro⟩ := bytes_row hrow hlt hl
        have HI := Lib.hid (And.intro hrow (And.intro hkept hl))
        have HAe := Lib.hid eA
        subst eA
        have hji : (j : Int) < (nb : Int) := by omega
        have hj0 : (0 : Int) ≤ (j : Int) := by omega
        clear hrow hkept hl
        go_wp2_with fail
        go_roundw
        case rel =>
          have hst := World.ownsRow.stored HI.out.1 j (.int .u8 ((98 : UInt8).toNat : Int))
          rw [bv_set] at hst
          exact ⟨j + 1, l.set j 98, by omega, by go_num, by simp; exact HI.out.2.2, hst.1, HI.out.2.1.trans (Kept.of_grown (F := fun g' => (Value.slice (some ⟨g, 0, none⟩) nb c5).ownBlock = some g') hst.2 (fun g' e => .inl (by simpa [Value.ownBlock] using e))) (fun g' hg => .inl hg)⟩
        case measure => simp [intOf]; omega
      · obtain rfl : j = nb := by omega
        have hnl : ¬ (j : Int) < (j : Int) := by omega
        have HS6 := Lib.hid (HS5.out.other hkept HNf.out)
        clear hrow hkept hl
        go_wp2_with (first | (with_reducible refine st_load 57 ?_; refine stopped ?_) | fail)
        refine go_on ?_
        refine wpList_load_at rfl 57 (.tmp 4) rfl g4 0 rfl cs.toArray _ (Blk.cells HS6.out.b4) Try.underlying57 rfl (rsize_arr HC5.out.1) ?_
        simp only [Act.put, List.setIfInBounds_toArray, List.set_cons_zero, List.set_cons_succ]
        go_wp2_with (first | (with_reducible refine st_store 57 ?_; refine stopped ?_) | fail)
        refine go_on ?_
        refine wpList_store_whole rfl 57 (.tmp 6) (.tmp 108) rfl (g4 + 2) cs rfl rfl 57 rzero HS6.out.b6 (rsize_of (And.intro HC5.out.1 HC5.out.2.1).1) (by rw [(And.intro HC5.out.1 HC5.out.2.1).1]; rfl) (And.intro HC5.out.1 HC5.out.2.1).2 ?_
        intro w8 hb8 hg8
        simp only [Act.put, List.setIfInBounds_toArray, List.set_cons_zero, List.set_cons_succ]
        repeat (first | go_values | go_skip | go_guarded | go_step)
        refine bodyPost_rowv rfl (g4 + 2) rfl (.bool _) rfl 57 _ _ hb8 Try.underlying57 rfl (rsize_arr (And.intro HC5.out.1 HC5.out.2.1).1) rfl ?_
        exact HS6.out.done hg8 _ (by have := HH.out.km; omega) (by have := HH.out.kd; omega) HH.out.m4 HH.out.d4 HH.out.md
end Go.Proofs.Ytnnjneijdfibnaa
