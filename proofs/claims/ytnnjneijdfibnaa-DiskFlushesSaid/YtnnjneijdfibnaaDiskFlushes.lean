/-
  DiskFlushes: whatever the acts and the flags, the call answers true. Conditions: each theorem's own premises.
-/
import Derived.Test.YtnnjneijdfibnaaPlayed
namespace Go.Proofs.Ytnnjneijdfibnaa
open Go.RowKit

/-- what is read of the first k sectors, one behind the other -/
def reads (m : Dk) (k : Nat) : List UInt8 := (List.range k).flatMap fun (i : Nat) => (m.read (i : Int)).1
theorem reads_succ (m : Dk) (k : Nat) : reads m (k + 1) = reads m k ++ (m.read (k : Int)).1 := by simp [reads, List.range_succ]
theorem rdw_cons (q : Nat × List UInt8) (r : List (Nat × List UInt8)) (p : Nat) : ∀ j, j ≤ r.length → rdw (q :: r) p (j + 1) = (match rdw r p j with | some x => some x | none => if q.1 = p then some q.2 else none)
  | 0, _ => by simp [rdw]
  | j + 1, h => by
    have ih := rdw_cons q r p j (by omega)
    have e1 : rdw (q :: r) p (j + 1 + 1) = if ((q :: r).getD (j + 1) (0, [])).1 = p then some ((q :: r).getD (j + 1) (0, [])).2 else rdw (q :: r) p (j + 1) := rfl
    have e2 : rdw r p (j + 1) = if (r.getD j (0, [])).1 = p then some (r.getD j (0, [])).2 else rdw r p j := rfl
    rw [e1, List.getD_cons_succ, e2, ih]
    by_cases h1 : (r.getD j (0, [])).1 = p
    · rw [if_pos h1, if_pos h1]
    · rw [if_neg h1, if_neg h1]
theorem lay_get (p : Nat) : ∀ (ws : List (Nat × List UInt8)) (i : Nat) (h : List (List UInt8)), p < h.length → (lay true [] i ws h).getD p [] = (rdw ws p ws.length).getD (h.getD p [])
  | [], _, _, _ => by simp [lay, rdw]
  | q :: r, i, h, hp => by
    rw [lay, Bool.true_or, if_pos rfl, lay_get p r (i + 1) (h.set q.1 q.2) (by simpa using hp), List.length_cons, rdw_cons q r p r.length (Nat.le_refl _)]
    cases rdw r p r.length with
    | some x => rfl
    | none =>
      simp only [Option.getD_none]
      by_cases hq : q.1 = p
      · rw [if_pos hq, Option.getD_some]
        subst hq
        simp [List.getD, hp]
      · rw [if_neg hq, Option.getD_none]
        simp [List.getD, hq]
theorem four_flat {L : List (List UInt8)} (h : L.length = 4) : L.flatten = (List.range 4).flatMap fun i => L.getD i [] := by
  match L, h with
  | [a, b, c, d], _ => simp [List.range_succ]
theorem reads_all {m : Dk} (ho : m.off = false) (h4 : m.has.length = 4) : reads m 4 = (m.laid true []).has.flatten := by
  have hl : (m.laid true []).has.length = 4 := by rw [laid_has]; exact h4
  have key : ∀ i : Nat, i < 4 → (m.read (i : Int)).1 = (m.laid true []).has.getD i [] := fun i hi4 => by
    have e1 : (m.laid true []).has = lay true [] 0 m.waits m.has := rfl
    rw [e1, lay_get i m.waits 0 m.has (by omega)]
    unfold Dk.read
    rw [if_neg (by omega), if_neg (by rw [ho]; decide), Int.toNat_natCast]
  rw [four_flat hl]
  have e4 : List.range 4 = [0, 1, 2, 3] := rfl
  simp only [reads, e4, List.flatMap_cons, List.flatMap_nil, List.append_nil, key 0 (by decide), key 1 (by decide), key 2 (by decide), key 3 (by decide)]
theorem arm_off (m : Dk) (n : Int) (s : List Bool) : (m.arm n s).off = m.off := by
  unfold Dk.arm
  split <;> rfl
theorem arm_bare {m : Dk} (hi : m.off = true → m.waits = [] ∧ m.left < 0) (s : List Bool) : (m.arm (-1) s).left < 0 := by
  unfold Dk.arm
  split
  · rename_i h
    exact (hi h).2
  · simp
theorem bs_vs {w : World} {B : Nat} {A : Option Addr} {l : List UInt8} (h : Bs w B A l) : Vs w B A (bv l) := fun hn => by
  obtain ⟨b, o, e, hb, hc⟩ := h (by rwa [bv_length] at hn)
  refine ⟨b, o, e, hb, fun j v hv => ?_⟩
  have hj : j < l.length := by have := (List.getElem?_eq_some_iff.1 hv).1; rwa [bv_length] at this
  rw [hc j hj, ← hv, bv_get hj]
set_option maxRecDepth 100000 in
set_option maxHeartbeats 4000000 in
set_option linter.unusedSimpArgs false in
theorem diskFlushes_calls (A : Option Addr) (na ca : Nat) (S : Option Addr) (keep : List Bool) (c : Nat) (w : World) (hA : Acts w A na) (hna : na ≤ 9223372036854775807) (hS : Vs w w.heap.size S (bvs keep)) :
    Calls Try.prog 4 #[.slice A na ca, .slice S keep.length c] w fun e w' => e = .returned (.bool true) ∧ Below w.heap.size w w' := by
  obtain ⟨nk, enk⟩ : ∃ k, keep.length = k := ⟨_, rfl⟩
  rw [enk]
  have HAr := Lib.hid (And.intro hA (And.intro hS enk))
  clear hA hS enk
  obtain ⟨i0, hi0, hz0, hz1, hz2⟩ := info_parts u8info
  go_enter Try.func4, Try.ntmps4
  go_wp2_with fail
  refine (played_any A na ca w HAr.out.1 hna).mono ?_
  rintro e w1 ⟨gd, F1, m0, rfl, h1, hF1, hb1, hmw, hmh⟩
  have H1 := Lib.hid (And.intro h1 (And.intro hF1 (And.intro hb1 (And.intro hmw hmh))))
  clear h1 hF1 hb1 hmw hmh
  go_wp2_with fail
  have harm := dkArm w1 gd F1 m0 H1.out.1 (-1) (by decide) none [] 0 Vs.nil_ (fun g _ h => absurd h (by simp)) (by simp)
  refine harm.mono ?_
  rintro e w2 ⟨rfl, F2, h2, hk2, hs2⟩
  have hF2 : ∀ g, F2 g → w.heap.size ≤ g := fun g hg => by
    rcases hs2 g hg with h | h
    · exact H1.out.2.1 g h
    · have := H1.out.2.2.1.size
      omega
  have hoff0 := arm_off m0 (-1) []
  have hbare := arm_bare H1.out.1.idle []
  have hwh := arm_has m0 (-1) []
  obtain ⟨m, em⟩ : ∃ m, m0.arm (-1) [] = m := ⟨_, rfl⟩
  rw [em] at h2 hoff0 hbare hwh
  have H2 := Lib.hid (And.intro h2 (And.intro hF2 (And.intro (below_kept H1.out.2.2.1 hk2 H1.out.2.1 H1.out.2.2.1.size) (And.intro hbare (And.intro (show m.waits.length ≤ 40 by rw [hwh.2]; exact H1.out.2.2.2.1) (show m.has.length = 4 by rw [hwh.1]; exact H1.out.2.2.2.2))))))
  clear h2 hk2 hs2 hF2 hoff0 hbare hwh em harm
  have hfar : ∀ g, w.heap.size ≤ g → Far S nk g := fun g hg h0 b o e e2 => by
    obtain ⟨b', o', e', hb, _⟩ := HAr.out.2.1 (by rw [bvs_length, HAr.out.2.2]; exact h0)
    rw [e] at e'
    injection e' with e'
    injection e' with e1
    omega
  have HFar := Lib.hid hfar
  clear hfar
  cases hoff : m.off
  · go_wp2_with fail
    go_loopw [6, 7] (fun v i wz => ∃ (k : Nat) (A1 : Option Addr) (c1 n1 : Nat), k ≤ 4 ∧ i = .int .i64 (k : Int) ∧ v = .slice A1 n1 c1 ∧ (reads m k).length = n1 ∧ n1 ≤ 64 * k ∧ wz.ownsRow w2.heap.size 5 1 (.slice A1 n1 c1) n1 (bv (reads m k)) ∧ Below w2.heap.size w2 wz) (fun _ i _ => 4 - (intOf i).toNat)
    case atStart => exact ⟨0, _, _, 0, by omega, rfl, rfl, rfl, by omega, row_empty w2 _ 1 5 (Nat.le_refl _), below_alloc w2 _⟩
    case round =>
      obtain ⟨k, A1, c1, n1, hk4, rfl, rfl, hn1, hnk, hrow, hbel⟩ := hrel
      have HI := Lib.hid (And.intro hrow (And.intro hbel hn1))
      have HC := Lib.hid (H2.out.1.below hbel)
      clear hrow hbel hn1
      by_cases hlt : k < 4
      · have hki : (k : Int) < 4 := by omega
        obtain ⟨r, er⟩ : ∃ r, m.read (k : Int) = r := ⟨_, rfl⟩
        obtain ⟨L, eL⟩ : ∃ L, r.1 = L := ⟨_, rfl⟩
        obtain ⟨nL, enL⟩ : ∃ n, L.length = n := ⟨_, rfl⟩
        have hL64 : nL ≤ 64 := by
          rw [← enL, ← eL, ← er]
          exact read_le HC.out.ok (k : Int)
        have hr2 : r.2 = 0 := by
          rw [← er]
          unfold Dk.read
          rw [if_neg (by have := H2.out.2.2.2.2.2; omega), if_neg (by rw [hoff]; decide)]
        have hrd := dkRead wr gd F2 m HC.out (by have := H2.out.2.2.2.2.1; omega) (k : Int)
        rw [er] at hrd
        unfold DkOwn at hrd
        rw [hr2, eL] at hrd
        have HRd := Lib.hid hrd
        have HL := Lib.hid (And.intro er (And.intro eL enL))
        clear hrd er eL hr2
        go_wp2_with (first
          | (go_at_call 15; refine HRd.out.mono ?_; rintro e w4 ⟨v4, rfl, hown4, hb4⟩; obtain ⟨A4, c4, rfl, hbs4, _⟩ := hown4.slice; rw [HL.out.2.2]; have HC4 := Lib.hid (HC.out.below hb4); have HB4 := Lib.hid (And.intro hbs4 hb4); clear hown4 hbs4 hb4)
          | (go_at_call 10; refine (dkOn w4 gd F2 m HC4.out).mono ?_; rintro e w' ⟨rfl, rfl⟩; rw [hoff])
          | (at_builtin
             refine wpList_append_row _ rfl (.tmp 32) (.tmp 33) 27 rfl w2.heap.size 5 i0 _ 1 1 Try.underlying27 hi0 hz0 hz1 hz2 rfl (by decide) _ n1 (bv (reads m k)) rfl (row_below HI.out.1 HB4.out.2) w4.heap.size A4 c4 nL (bv L) rfl (bs_vs HB4.out.1) (by rw [bv_length, HL.out.2.2, Nat.mul_one]) (bv_one _) (by omega) (by simp only [maxLen]; omega) (Nat.le_trans HI.out.2.1.size HB4.out.2.size) ?_
             intro v5 w5 hown5 hg5 _
             obtain ⟨A5, c5, rfl, _, _, _, _⟩ := vs_of_row hown5)
          | fail)
        go_roundw
        case rel =>
          refine ⟨k + 1, A5, c5, n1 + nL, by omega, by go_num, rfl, ?_, by omega, ?_, ?_⟩
          · rw [reads_succ, HL.out.1, HL.out.2.1, List.length_append, HI.out.2.2, HL.out.2.2]
          · rw [reads_succ, HL.out.1, HL.out.2.1, bv_append]
            exact hown5
          · have b1 := HI.out.2.1.trans (HB4.out.2.mono HI.out.2.1.size)
            exact b1.trans (only_below hg5 b1.size (fun g' e => (World.ownsRow.lt HI.out.1 g' e).1))
        case measure => simp [intOf]; omega
      · obtain rfl : k = 4 := by omega
        have hnl : ¬ ((4 : Nat) : Int) < 4 := by omega
        have hfl : m.flush = (m.laid true [], 0) := flush_yes (step_bare hoff H2.out.2.2.2.1)
        have hflu := dkFlush wr gd F2 m HC.out (by have := H2.out.2.2.2.2.1; omega)
        rw [hfl] at hflu
        have hrd := reads_all hoff H2.out.2.2.2.2.2
        obtain ⟨M, eM⟩ : ∃ M, m.laid true [] = M := ⟨_, rfl⟩
        have hMw : M.waits = [] := by rw [← eM]; rfl
        have hMo : M.off = false := by rw [← eM]; exact hoff
        have hcr : M.crash keep = { M.laid false keep with off := true, left := -1 } := crash_on hMo keep
        have hch : (M.crash keep).has = M.has := by rw [hcr]; simp only [Dk.laid, hMw, lay]
        have hcw : (M.crash keep).waits = [] := by rw [hcr]; rfl
        have hco : (M.crash keep).off = true := by rw [hcr]
        rw [eM] at hflu hrd
        obtain ⟨L, eL⟩ : ∃ L, M.has.flatten = L := ⟨_, rfl⟩
        rw [eL] at hrd
        have HI3 := Lib.hid (And.intro (hrd ▸ HI.out.1) (hrd ▸ HI.out.2.2))
        have HFlu := Lib.hid hflu
        have HM := Lib.hid (And.intro hMw (And.intro hch (And.intro hcw (And.intro hco eL))))
        clear hflu hfl hrd eM hMw hMo hcr hch hcw hco eL
        go_wp2_with (first
          | (go_at_call 10; refine (dkOn wr gd F2 m HC.out).mono ?_; rintro e w' ⟨rfl, rfl⟩; rw [hoff])
          | (go_at_call 16; refine stopped ?_)
          | fail)
        refine go_on ?_
        refine HFlu.out.mono ?_
        rintro e w4 ⟨rfl, h4, hk4⟩
        have hb4 := below_kept (H2.out.2.2.1.trans (HI.out.2.1.mono H2.out.2.2.1.size)) hk4 H2.out.2.1 (Nat.le_trans H2.out.2.2.1.size HI.out.2.1.size)
        have hrow4 := row_keep HI3.out.1 hk4 (fun g e hf => by have := (World.ownsRow.lt HI3.out.1 g e).1; have := H2.out.1.lt g hf; omega)
        have HH4 := Lib.hid (And.intro h4 (And.intro hb4 hrow4))
        clear h4 hk4 hb4 hrow4
        go_wp2_with fail
        refine (dkImage w4 gd F2 M HH4.out.1).mono ?_
        rintro e w5 ⟨v5, rfl, hown5, hb5⟩
        rw [HM.out.2.2.2.2] at hown5
        obtain ⟨A5, c5, rfl, _, hH5⟩ := Held.own hown5 HH4.out.1.lt
        rw [HI3.out.2]
        have HH5 := Lib.hid (And.intro (HH4.out.1.below hb5) (And.intro (HH4.out.2.1.trans (hb5.mono HH4.out.2.1.size)) (And.intro (row_below HH4.out.2.2 hb5) hH5)))
        clear hown5 hb5 hH5
        go_wp2_with fail
        refine (dkCrashIs w5 gd F2 M HH5.out.1 (by rw [HM.out.1]; simp) S keep nk c HAr.out.2.2 ((HAr.out.2.1.below HH5.out.2.1).more HH5.out.2.1.size) (fun g hg => HFar.out g (H2.out.2.1 g hg))).mono ?_
        rintro e w6 ⟨rfl, h6, hk6⟩
        obtain ⟨M2, eM2⟩ : ∃ M2, M.crash keep = M2 := ⟨_, rfl⟩
        have hM2 := HM.out
        rw [eM2] at h6 hM2
        have hrow6 := row_keep HH5.out.2.2.1 hk6 (fun g e hf => by have := (World.ownsRow.lt HI3.out.1 g e).1; have := H2.out.1.lt g hf; omega)
        have hH6 := HH5.out.2.2.2.step hk6 (fun _ => .inl)
        have hb6 := below_kept HH5.out.2.1 hk6 H2.out.2.1 HH5.out.2.1.size
        have hown6 : Own w6 w2.heap.size 5 (.slice A1 n1 c1) L := Own.of_row hrow6 HI3.out.2
        obtain ⟨A9, c9, hv9, hbs9, _⟩ := hown6.slice
        injection hv9 with hA9 hn9 hc9
        subst hA9 hc9
        have hC1 := bs_conv (P := Try.prog) hH6.1 HI3.out.2 Try.underlying27 Try.underlying5 c5 Try.underlying9
        have hC2 := bs_conv (P := Try.prog) hbs9 HI3.out.2 Try.underlying27 Try.underlying5 c1 Try.underlying9
        obtain ⟨sL, esL⟩ : ∃ x : ByteArray, (⟨L.toArray⟩ : ByteArray) = x := ⟨_, rfl⟩
        rw [esL] at hC1 hC2
        have HH6 := Lib.hid (And.intro h6 (And.intro hb6 (And.intro hM2 esL)))
        have hd : Below w6.heap.size w6 w6.drew := (Below.refl _ _).drew
        clear h6 hk6 hrow6 hH6 hb6 hown6 hbs9 hM2 eM2 esL hn9
        go_wp2_with fail
        refine wp_region_held_drew (S := fun w' => Below w6.heap.size w6 w') (by kernel_rfl) hd (fun hHeld => ?_)
        refine wpAnyH_take (i := 0) (v := ?_) (List.getElem?_toArray.trans (List.getElem?_cons_zero)) (by kernel_rfl) (by kernel_rfl) (by kernel_rfl) (fun _ _ _ h => h) (Or.inl ⟨by rfl, ?_⟩) (by assumption) ?_
        rotate_left
        · intro w' hSw; (try dsimp only at hSw); go_simp; try with_reducible rfl
        try simp only [Act.put, List.setIfInBounds_toArray, List.set_cons_zero, List.set_cons_succ]
        refine wpAnyH_take (i := 1) (v := ?_) (List.getElem?_toArray.trans (List.getElem?_cons_succ.trans (List.getElem?_cons_zero))) (by kernel_rfl) (by kernel_rfl) (by kernel_rfl) (fun _ _ _ h => h) (Or.inl ⟨by rfl, ?_⟩) (by assumption) ?_
        rotate_left
        · intro w' hSw; (try dsimp only at hSw); go_simp; try with_reducible rfl
        try simp only [Act.put, List.setIfInBounds_toArray, List.set_cons_zero, List.set_cons_succ]
        refine wpAnyH_take (i := 2) (v := ?_) (List.getElem?_toArray.trans (List.getElem?_cons_succ.trans (List.getElem?_cons_succ.trans (List.getElem?_cons_zero)))) (by kernel_rfl) (by kernel_rfl) (by kernel_rfl) (fun _ _ _ h => h) (Or.inl ⟨by rfl, ?_⟩) (by assumption) ?_
        rotate_left
        · intro w' hSw; (try dsimp only at hSw); go_simp; try with_reducible rfl
        try simp only [Act.put, List.setIfInBounds_toArray, List.set_cons_zero, List.set_cons_succ]
        refine wpAnyH_take (i := 3) (v := ?_) (List.getElem?_toArray.trans (List.getElem?_cons_succ.trans (List.getElem?_cons_succ.trans (List.getElem?_cons_succ.trans (List.getElem?_cons_zero))))) (by kernel_rfl) (by kernel_rfl) (by kernel_rfl) (fun _ _ _ h => h) (Or.inl ⟨by rfl, ?_⟩) (by assumption) ?_
        rotate_left
        · intro w' hSw; (try dsimp only at hSw); go_simp; try with_reducible rfl
        try simp only [Act.put, List.setIfInBounds_toArray, List.set_cons_zero, List.set_cons_succ]
        refine wpAnyH_ready (rs := [4]) (by kernel_rfl) (by simp) ?_
        refine AllReadyH.cons (List.getElem?_toArray.trans (List.getElem?_cons_succ.trans (List.getElem?_cons_succ.trans (List.getElem?_cons_succ.trans (List.getElem?_cons_succ.trans (List.getElem?_cons_zero)))))) (fun K hK => ?_) AllReadyH.nil
        go_simp
        refine (dkWaiting0 w6.drew gd F2 M2 (HH6.out.1.below hd) HH6.out.2.2.1.2.2.1).mono ?_
        rintro e w7 ⟨⟨A7, rfl⟩, hb7⟩
        have hB7 : Below w6.heap.size w6 w7 := hd.trans (hb7.mono hd.size)
        refine hK.out _ _ hB7 (fun hHeld => ?_)
        clear hK K
        try simp only [Act.put, List.setIfInBounds_toArray, List.set_cons_zero, List.set_cons_succ]
        refine wpAnyH_take (i := 5) (v := ?_) (List.getElem?_toArray.trans (List.getElem?_cons_succ.trans (List.getElem?_cons_succ.trans (List.getElem?_cons_succ.trans (List.getElem?_cons_succ.trans (List.getElem?_cons_succ.trans (List.getElem?_cons_zero))))))) (by kernel_rfl) (by kernel_rfl) (by kernel_rfl) (fun _ _ _ h => h) (Or.inl ⟨by rfl, ?_⟩) (by assumption) ?_
        rotate_left
        · intro w' hSw; (try dsimp only at hSw); go_simp; try with_reducible rfl
        try simp only [Act.put, List.setIfInBounds_toArray, List.set_cons_zero, List.set_cons_succ]
        refine wpAnyH_take (i := 6) (v := ?_) (List.getElem?_toArray.trans (List.getElem?_cons_succ.trans (List.getElem?_cons_succ.trans (List.getElem?_cons_succ.trans (List.getElem?_cons_succ.trans (List.getElem?_cons_succ.trans (List.getElem?_cons_succ.trans (List.getElem?_cons_zero)))))))) (by kernel_rfl) (by kernel_rfl) (by kernel_rfl) (fun _ _ _ h => h) (Or.inl ⟨by rfl, ?_⟩) (by assumption) ?_
        rotate_left
        · intro w' hSw; (try dsimp only at hSw); go_simp; try with_reducible rfl
        try simp only [Act.put, List.setIfInBounds_toArray, List.set_cons_zero, List.set_cons_succ]
        refine wpAnyH_take (i := 7) (v := ?_) (List.getElem?_toArray.trans (List.getElem?_cons_succ.trans (List.getElem?_cons_succ.trans (List.getElem?_cons_succ.trans (List.getElem?_cons_succ.trans (List.getElem?_cons_succ.trans (List.getElem?_cons_succ.trans (List.getElem?_cons_succ.trans (List.getElem?_cons_zero))))))))) (by kernel_rfl) (by kernel_rfl) (by kernel_rfl) (fun _ _ _ h => h) (Or.inl ⟨by rfl, ?_⟩) (by assumption) ?_
        rotate_left
        · intro w' hSw; (try dsimp only at hSw); go_simp; try with_reducible rfl
        try simp only [Act.put, List.setIfInBounds_toArray, List.set_cons_zero, List.set_cons_succ]
        refine wpAnyH_take (i := 8) (v := ?_) (List.getElem?_toArray.trans (List.getElem?_cons_succ.trans (List.getElem?_cons_succ.trans (List.getElem?_cons_succ.trans (List.getElem?_cons_succ.trans (List.getElem?_cons_succ.trans (List.getElem?_cons_succ.trans (List.getElem?_cons_succ.trans (List.getElem?_cons_succ.trans (List.getElem?_cons_zero)))))))))) (by kernel_rfl) (by kernel_rfl) (by kernel_rfl) (fun _ _ _ h => h) (Or.inl ⟨by rfl, ?_⟩) (by assumption) ?_
        rotate_left
        · intro w' hSw; (try dsimp only at hSw); go_simp; try with_reducible rfl
        try simp only [Act.put, List.setIfInBounds_toArray, List.set_cons_zero, List.set_cons_succ]
        refine wpAnyH_take (i := 9) (v := ?_) (List.getElem?_toArray.trans (List.getElem?_cons_succ.trans (List.getElem?_cons_succ.trans (List.getElem?_cons_succ.trans (List.getElem?_cons_succ.trans (List.getElem?_cons_succ.trans (List.getElem?_cons_succ.trans (List.getElem?_cons_succ.trans (List.getElem?_cons_succ.trans (List.getElem?_cons_succ.trans (List.getElem?_cons_zero))))))))))) (by kernel_rfl) (by kernel_rfl) (by kernel_rfl) (fun _ _ _ h => h) (Or.inl ⟨by rfl, ?_⟩) (by assumption) ?_
        rotate_left
        · intro w' hSw; (try dsimp only at hSw); go_simp; try with_reducible rfl
        try simp only [Act.put, List.setIfInBounds_toArray, List.set_cons_zero, List.set_cons_succ]
        refine wpAnyH_take (i := 10) (v := ?_) (List.getElem?_toArray.trans (List.getElem?_cons_succ.trans (List.getElem?_cons_succ.trans (List.getElem?_cons_succ.trans (List.getElem?_cons_succ.trans (List.getElem?_cons_succ.trans (List.getElem?_cons_succ.trans (List.getElem?_cons_succ.trans (List.getElem?_cons_succ.trans (List.getElem?_cons_succ.trans (List.getElem?_cons_succ.trans (List.getElem?_cons_zero)))))))))))) (by kernel_rfl) (by kernel_rfl) (by kernel_rfl) (fun _ _ _ h => h) (Or.inl ⟨by rfl, ?_⟩) (by assumption) ?_
        rotate_left
        · intro w' hSw; (try dsimp only at hSw); go_simp; try with_reducible rfl
        try simp only [Act.put, List.setIfInBounds_toArray, List.set_cons_zero, List.set_cons_succ]
        refine wpAnyH_take (i := 11) (v := ?_) (List.getElem?_toArray.trans (List.getElem?_cons_succ.trans (List.getElem?_cons_succ.trans (List.getElem?_cons_succ.trans (List.getElem?_cons_succ.trans (List.getElem?_cons_succ.trans (List.getElem?_cons_succ.trans (List.getElem?_cons_succ.trans (List.getElem?_cons_succ.trans (List.getElem?_cons_succ.trans (List.getElem?_cons_succ.trans (List.getElem?_cons_succ.trans (List.getElem?_cons_zero))))))))))))) (by kernel_rfl) (by kernel_rfl) (by kernel_rfl) (fun _ _ _ h => h) (Or.inl ⟨by rfl, ?_⟩) (by assumption) ?_
        rotate_left
        · intro w' hSw; (try dsimp only at hSw); go_simp; try with_reducible rfl
        try simp only [Act.put, List.setIfInBounds_toArray, List.set_cons_zero, List.set_cons_succ]
        refine wpAnyH_take (i := 12) (v := ?_) (List.getElem?_toArray.trans (List.getElem?_cons_succ.trans (List.getElem?_cons_succ.trans (List.getElem?_cons_succ.trans (List.getElem?_cons_succ.trans (List.getElem?_cons_succ.trans (List.getElem?_cons_succ.trans (List.getElem?_cons_succ.trans (List.getElem?_cons_succ.trans (List.getElem?_cons_succ.trans (List.getElem?_cons_succ.trans (List.getElem?_cons_succ.trans (List.getElem?_cons_succ.trans (List.getElem?_cons_zero)))))))))))))) (by kernel_rfl) (by kernel_rfl) (by kernel_rfl) (fun _ _ _ h => h) (Or.inl ⟨by rfl, ?_⟩) (by assumption) ?_
        rotate_left
        · intro w' hSw; (try dsimp only at hSw); go_simp; try with_reducible rfl
        try simp only [Act.put, List.setIfInBounds_toArray, List.set_cons_zero, List.set_cons_succ]
        refine wpAnyH_take (i := 13) (v := ?_) (List.getElem?_toArray.trans (List.getElem?_cons_succ.trans (List.getElem?_cons_succ.trans (List.getElem?_cons_succ.trans (List.getElem?_cons_succ.trans (List.getElem?_cons_succ.trans (List.getElem?_cons_succ.trans (List.getElem?_cons_succ.trans (List.getElem?_cons_succ.trans (List.getElem?_cons_succ.trans (List.getElem?_cons_succ.trans (List.getElem?_cons_succ.trans (List.getElem?_cons_succ.trans (List.getElem?_cons_succ.trans (List.getElem?_cons_zero))))))))))))))) (by kernel_rfl) (by kernel_rfl) (by kernel_rfl) (fun _ _ _ h => h) (Or.inl ⟨by rfl, ?_⟩) (by assumption) ?_
        rotate_left
        · intro w' hSw; (try dsimp only at hSw); go_simp; try with_reducible rfl
        try simp only [Act.put, List.setIfInBounds_toArray, List.set_cons_zero, List.set_cons_succ]
        refine wpAnyH_take (i := 14) (v := ?_) (List.getElem?_toArray.trans (List.getElem?_cons_succ.trans (List.getElem?_cons_succ.trans (List.getElem?_cons_succ.trans (List.getElem?_cons_succ.trans (List.getElem?_cons_succ.trans (List.getElem?_cons_succ.trans (List.getElem?_cons_succ.trans (List.getElem?_cons_succ.trans (List.getElem?_cons_succ.trans (List.getElem?_cons_succ.trans (List.getElem?_cons_succ.trans (List.getElem?_cons_succ.trans (List.getElem?_cons_succ.trans (List.getElem?_cons_succ.trans (List.getElem?_cons_zero)))))))))))))))) (by kernel_rfl) (by kernel_rfl) (by kernel_rfl) (fun _ _ _ h => h) (Or.inl ⟨by rfl, ?_⟩) (by assumption) ?_
        rotate_left
        · intro w' hSw; (try dsimp only at hSw); go_simp; try with_reducible rfl
        try simp only [Act.put, List.setIfInBounds_toArray, List.set_cons_zero, List.set_cons_succ]
        refine wpAnyH_take (i := 15) (v := ?_) (List.getElem?_toArray.trans (List.getElem?_cons_succ.trans (List.getElem?_cons_succ.trans (List.getElem?_cons_succ.trans (List.getElem?_cons_succ.trans (List.getElem?_cons_succ.trans (List.getElem?_cons_succ.trans (List.getElem?_cons_succ.trans (List.getElem?_cons_succ.trans (List.getElem?_cons_succ.trans (List.getElem?_cons_succ.trans (List.getElem?_cons_succ.trans (List.getElem?_cons_succ.trans (List.getElem?_cons_succ.trans (List.getElem?_cons_succ.trans (List.getElem?_cons_succ.trans (List.getElem?_cons_zero))))))))))))))))) (by kernel_rfl) (by kernel_rfl) (by kernel_rfl) (fun _ _ _ h => h) (Or.inl ⟨by rfl, ?_⟩) (by assumption) ?_
        rotate_left
        · intro w' hSw; (try dsimp only at hSw); go_simp; try with_reducible rfl
        try simp only [Act.put, List.setIfInBounds_toArray, List.set_cons_zero, List.set_cons_succ]
        refine wpAnyH_take (i := 16) (v := ?_) (List.getElem?_toArray.trans (List.getElem?_cons_succ.trans (List.getElem?_cons_succ.trans (List.getElem?_cons_succ.trans (List.getElem?_cons_succ.trans (List.getElem?_cons_succ.trans (List.getElem?_cons_succ.trans (List.getElem?_cons_succ.trans (List.getElem?_cons_succ.trans (List.getElem?_cons_succ.trans (List.getElem?_cons_succ.trans (List.getElem?_cons_succ.trans (List.getElem?_cons_succ.trans (List.getElem?_cons_succ.trans (List.getElem?_cons_succ.trans (List.getElem?_cons_succ.trans (List.getElem?_cons_succ.trans (List.getElem?_cons_zero)))))))))))))))))) (by kernel_rfl) (by kernel_rfl) (by kernel_rfl) (fun _ _ _ h => h) (Or.inl ⟨by rfl, ?_⟩) (by assumption) ?_
        rotate_left
        · intro w' hSw; (try dsimp only at hSw); go_simp; try with_reducible rfl
        try simp only [Act.put, List.setIfInBounds_toArray, List.set_cons_zero, List.set_cons_succ]
        refine wpAnyH_take (i := 19) (v := ?_) (List.getElem?_toArray.trans (List.getElem?_cons_succ.trans (List.getElem?_cons_succ.trans (List.getElem?_cons_succ.trans (List.getElem?_cons_succ.trans (List.getElem?_cons_succ.trans (List.getElem?_cons_succ.trans (List.getElem?_cons_succ.trans (List.getElem?_cons_succ.trans (List.getElem?_cons_succ.trans (List.getElem?_cons_succ.trans (List.getElem?_cons_succ.trans (List.getElem?_cons_succ.trans (List.getElem?_cons_succ.trans (List.getElem?_cons_succ.trans (List.getElem?_cons_succ.trans (List.getElem?_cons_succ.trans (List.getElem?_cons_succ.trans (List.getElem?_cons_succ.trans (List.getElem?_cons_succ.trans (List.getElem?_cons_zero))))))))))))))))))))) (by kernel_rfl) (by kernel_rfl) (by kernel_rfl) (fun _ _ _ h => h) (Or.inl ⟨by rfl, ?_⟩) (by assumption) ?_
        rotate_left
        · intro w' hSw; (try dsimp only at hSw); go_simp; try with_reducible rfl
        try simp only [Act.put, List.setIfInBounds_toArray, List.set_cons_zero, List.set_cons_succ]
        refine wpAnyH_take (i := 20) (v := ?_) (List.getElem?_toArray.trans (List.getElem?_cons_succ.trans (List.getElem?_cons_succ.trans (List.getElem?_cons_succ.trans (List.getElem?_cons_succ.trans (List.getElem?_cons_succ.trans (List.getElem?_cons_succ.trans (List.getElem?_cons_succ.trans (List.getElem?_cons_succ.trans (List.getElem?_cons_succ.trans (List.getElem?_cons_succ.trans (List.getElem?_cons_succ.trans (List.getElem?_cons_succ.trans (List.getElem?_cons_succ.trans (List.getElem?_cons_succ.trans (List.getElem?_cons_succ.trans (List.getElem?_cons_succ.trans (List.getElem?_cons_succ.trans (List.getElem?_cons_succ.trans (List.getElem?_cons_succ.trans (List.getElem?_cons_succ.trans (List.getElem?_cons_zero)))))))))))))))))))))) (by kernel_rfl) (by kernel_rfl) (by kernel_rfl) (fun _ _ _ h => h) (Or.inl ⟨by rfl, ?_⟩) (by assumption) ?_
        rotate_left
        · intro w' hSw; (try dsimp only at hSw); go_simp; try with_reducible rfl
        try simp only [Act.put, List.setIfInBounds_toArray, List.set_cons_zero, List.set_cons_succ]
        refine wpAnyH_ready (rs := [17]) (by kernel_rfl) (by simp) ?_
        refine AllReadyH.cons (List.getElem?_toArray.trans (List.getElem?_cons_succ.trans (List.getElem?_cons_succ.trans (List.getElem?_cons_succ.trans (List.getElem?_cons_succ.trans (List.getElem?_cons_succ.trans (List.getElem?_cons_succ.trans (List.getElem?_cons_succ.trans (List.getElem?_cons_succ.trans (List.getElem?_cons_succ.trans (List.getElem?_cons_succ.trans (List.getElem?_cons_succ.trans (List.getElem?_cons_succ.trans (List.getElem?_cons_succ.trans (List.getElem?_cons_succ.trans (List.getElem?_cons_succ.trans (List.getElem?_cons_succ.trans (List.getElem?_cons_succ.trans (List.getElem?_cons_zero))))))))))))))))))) (fun K hK => ?_) AllReadyH.nil
        go_simp
        refine (dkImage w7 gd F2 M2 (HH6.out.1.below hB7)).mono ?_
        rintro e w8 ⟨v8, rfl, hown8, hb8⟩
        rw [HH6.out.2.2.1.2.1, HH6.out.2.2.1.2.2.2.2] at hown8
        obtain ⟨A8, c8, rfl, hbs8, _⟩ := hown8.slice
        rw [HI3.out.2]
        have hB8 : Below w6.heap.size w6 w8 := hB7.trans (hb8.mono hB7.size)
        have hC8 := bs_conv (P := Try.prog) hbs8 HI3.out.2 Try.underlying27 Try.underlying5 c8 Try.underlying9
        rw [HH6.out.2.2.2] at hC8
        clear hown8 hbs8 hb8
        refine hK.out _ _ hB8 (fun hHeld => ?_)
        clear hK K
        try simp only [Act.put, List.setIfInBounds_toArray, List.set_cons_zero, List.set_cons_succ]
        refine wpAnyH_swap (S' := fun w' => Below w8.heap.size w8 w') (fun w' h => hB8.trans (h.mono hB8.size)) _ _ _ _ ?_
        have hr8 := Below.refl w8.heap.size w8
        refine wpAnyH_take (i := 18) (v := ?_) (List.getElem?_toArray.trans (List.getElem?_cons_succ.trans (List.getElem?_cons_succ.trans (List.getElem?_cons_succ.trans (List.getElem?_cons_succ.trans (List.getElem?_cons_succ.trans (List.getElem?_cons_succ.trans (List.getElem?_cons_succ.trans (List.getElem?_cons_succ.trans (List.getElem?_cons_succ.trans (List.getElem?_cons_succ.trans (List.getElem?_cons_succ.trans (List.getElem?_cons_succ.trans (List.getElem?_cons_succ.trans (List.getElem?_cons_succ.trans (List.getElem?_cons_succ.trans (List.getElem?_cons_succ.trans (List.getElem?_cons_succ.trans (List.getElem?_cons_succ.trans (List.getElem?_cons_zero)))))))))))))))))))) (by kernel_rfl) (by kernel_rfl) (by kernel_rfl) (fun _ _ _ h => h) (Or.inl ⟨by rfl, ?_⟩) (by assumption) ?_
        rotate_left
        · intro w' hSw; (try dsimp only at hSw); go_simp; try with_reducible rfl
        try simp only [Act.put, List.setIfInBounds_toArray, List.set_cons_zero, List.set_cons_succ]
        refine wpAnyH_take (i := 21) (v := ?_) (List.getElem?_toArray.trans (List.getElem?_cons_succ.trans (List.getElem?_cons_succ.trans (List.getElem?_cons_succ.trans (List.getElem?_cons_succ.trans (List.getElem?_cons_succ.trans (List.getElem?_cons_succ.trans (List.getElem?_cons_succ.trans (List.getElem?_cons_succ.trans (List.getElem?_cons_succ.trans (List.getElem?_cons_succ.trans (List.getElem?_cons_succ.trans (List.getElem?_cons_succ.trans (List.getElem?_cons_succ.trans (List.getElem?_cons_succ.trans (List.getElem?_cons_succ.trans (List.getElem?_cons_succ.trans (List.getElem?_cons_succ.trans (List.getElem?_cons_succ.trans (List.getElem?_cons_succ.trans (List.getElem?_cons_succ.trans (List.getElem?_cons_succ.trans (List.getElem?_cons_zero))))))))))))))))))))))) (by kernel_rfl) (by kernel_rfl) (by kernel_rfl) (fun _ _ _ h => h) (Or.inl ⟨by rfl, ?_⟩) (by assumption) ?_
        rotate_left
        · intro w' hSw; (try dsimp only at hSw); go_simp; try with_reducible rfl
        try simp only [Act.put, List.setIfInBounds_toArray, List.set_cons_zero, List.set_cons_succ]
        refine wpAnyH_take (i := 22) (v := ?_) (List.getElem?_toArray.trans (List.getElem?_cons_succ.trans (List.getElem?_cons_succ.trans (List.getElem?_cons_succ.trans (List.getElem?_cons_succ.trans (List.getElem?_cons_succ.trans (List.getElem?_cons_succ.trans (List.getElem?_cons_succ.trans (List.getElem?_cons_succ.trans (List.getElem?_cons_succ.trans (List.getElem?_cons_succ.trans (List.getElem?_cons_succ.trans (List.getElem?_cons_succ.trans (List.getElem?_cons_succ.trans (List.getElem?_cons_succ.trans (List.getElem?_cons_succ.trans (List.getElem?_cons_succ.trans (List.getElem?_cons_succ.trans (List.getElem?_cons_succ.trans (List.getElem?_cons_succ.trans (List.getElem?_cons_succ.trans (List.getElem?_cons_succ.trans (List.getElem?_cons_succ.trans (List.getElem?_cons_zero)))))))))))))))))))))))) (by kernel_rfl) (by kernel_rfl) (by kernel_rfl) (fun _ _ _ h => h) (Or.inl ⟨by rfl, ?_⟩) (by assumption) ?_
        rotate_left
        · intro w' hSw; (try dsimp only at hSw); go_simp; try with_reducible rfl
        try simp only [Act.put, List.setIfInBounds_toArray, List.set_cons_zero, List.set_cons_succ]
        refine wpAnyH_take (i := 23) (v := ?_) (List.getElem?_toArray.trans (List.getElem?_cons_succ.trans (List.getElem?_cons_succ.trans (List.getElem?_cons_succ.trans (List.getElem?_cons_succ.trans (List.getElem?_cons_succ.trans (List.getElem?_cons_succ.trans (List.getElem?_cons_succ.trans (List.getElem?_cons_succ.trans (List.getElem?_cons_succ.trans (List.getElem?_cons_succ.trans (List.getElem?_cons_succ.trans (List.getElem?_cons_succ.trans (List.getElem?_cons_succ.trans (List.getElem?_cons_succ.trans (List.getElem?_cons_succ.trans (List.getElem?_cons_succ.trans (List.getElem?_cons_succ.trans (List.getElem?_cons_succ.trans (List.getElem?_cons_succ.trans (List.getElem?_cons_succ.trans (List.getElem?_cons_succ.trans (List.getElem?_cons_succ.trans (List.getElem?_cons_succ.trans (List.getElem?_cons_zero))))))))))))))))))))))))) (by kernel_rfl) (by kernel_rfl) (by kernel_rfl) (fun _ _ _ h => h) (Or.inl ⟨by rfl, ?_⟩) (by assumption) ?_
        rotate_left
        · intro w' hSw; (try dsimp only at hSw); go_simp; try with_reducible rfl
        try simp only [Act.put, List.setIfInBounds_toArray, List.set_cons_zero, List.set_cons_succ]
        refine wpAnyH_take (i := 24) (v := ?_) (List.getElem?_toArray.trans (List.getElem?_cons_succ.trans (List.getElem?_cons_succ.trans (List.getElem?_cons_succ.trans (List.getElem?_cons_succ.trans (List.getElem?_cons_succ.trans (List.getElem?_cons_succ.trans (List.getElem?_cons_succ.trans (List.getElem?_cons_succ.trans (List.getElem?_cons_succ.trans (List.getElem?_cons_succ.trans (List.getElem?_cons_succ.trans (List.getElem?_cons_succ.trans (List.getElem?_cons_succ.trans (List.getElem?_cons_succ.trans (List.getElem?_cons_succ.trans (List.getElem?_cons_succ.trans (List.getElem?_cons_succ.trans (List.getElem?_cons_succ.trans (List.getElem?_cons_succ.trans (List.getElem?_cons_succ.trans (List.getElem?_cons_succ.trans (List.getElem?_cons_succ.trans (List.getElem?_cons_succ.trans (List.getElem?_cons_succ.trans (List.getElem?_cons_zero)))))))))))))))))))))))))) (by kernel_rfl) (by kernel_rfl) (by kernel_rfl) (fun _ _ _ h => h) (Or.inl ⟨by rfl, ?_⟩) (by assumption) ?_
        rotate_left
        · intro w' hSw; (try dsimp only at hSw); go_simp; try with_reducible rfl
        try simp only [Act.put, List.setIfInBounds_toArray, List.set_cons_zero, List.set_cons_succ]
        refine wpAnyH_ready (rs := [25]) (by kernel_rfl) (by simp) ?_
        refine AllReadyH.cons (List.getElem?_toArray.trans (List.getElem?_cons_succ.trans (List.getElem?_cons_succ.trans (List.getElem?_cons_succ.trans (List.getElem?_cons_succ.trans (List.getElem?_cons_succ.trans (List.getElem?_cons_succ.trans (List.getElem?_cons_succ.trans (List.getElem?_cons_succ.trans (List.getElem?_cons_succ.trans (List.getElem?_cons_succ.trans (List.getElem?_cons_succ.trans (List.getElem?_cons_succ.trans (List.getElem?_cons_succ.trans (List.getElem?_cons_succ.trans (List.getElem?_cons_succ.trans (List.getElem?_cons_succ.trans (List.getElem?_cons_succ.trans (List.getElem?_cons_succ.trans (List.getElem?_cons_succ.trans (List.getElem?_cons_succ.trans (List.getElem?_cons_succ.trans (List.getElem?_cons_succ.trans (List.getElem?_cons_succ.trans (List.getElem?_cons_succ.trans (List.getElem?_cons_succ.trans (List.getElem?_cons_zero))))))))))))))))))))))))))) (fun K hK => ?_) AllReadyH.nil
        go_simp
        refine (dkOn w8 gd F2 M2 (HH6.out.1.below hB8)).mono ?_
        rintro e w9 ⟨rfl, rfl⟩
        rw [HH6.out.2.2.1.2.2.2.1]
        refine hK.out _ _ hr8 (fun hHeld => ?_)
        clear hK K
        try simp only [Act.put, List.setIfInBounds_toArray, List.set_cons_zero, List.set_cons_succ]
        refine wpAnyH_take (i := 26) (v := ?_) (List.getElem?_toArray.trans (List.getElem?_cons_succ.trans (List.getElem?_cons_succ.trans (List.getElem?_cons_succ.trans (List.getElem?_cons_succ.trans (List.getElem?_cons_succ.trans (List.getElem?_cons_succ.trans (List.getElem?_cons_succ.trans (List.getElem?_cons_succ.trans (List.getElem?_cons_succ.trans (List.getElem?_cons_succ.trans (List.getElem?_cons_succ.trans (List.getElem?_cons_succ.trans (List.getElem?_cons_succ.trans (List.getElem?_cons_succ.trans (List.getElem?_cons_succ.trans (List.getElem?_cons_succ.trans (List.getElem?_cons_succ.trans (List.getElem?_cons_succ.trans (List.getElem?_cons_succ.trans (List.getElem?_cons_succ.trans (List.getElem?_cons_succ.trans (List.getElem?_cons_succ.trans (List.getElem?_cons_succ.trans (List.getElem?_cons_succ.trans (List.getElem?_cons_succ.trans (List.getElem?_cons_succ.trans (List.getElem?_cons_zero)))))))))))))))))))))))))))) (by kernel_rfl) (by kernel_rfl) (by kernel_rfl) (fun _ _ _ h => h) (Or.inl ⟨by rfl, ?_⟩) (by assumption) ?_
        rotate_left
        · intro w' hSw; (try dsimp only at hSw); go_simp; try with_reducible rfl
        try simp only [Act.put, List.setIfInBounds_toArray, List.set_cons_zero, List.set_cons_succ]
        refine wpAnyH_take (i := 27) (v := ?_) (List.getElem?_toArray.trans (List.getElem?_cons_succ.trans (List.getElem?_cons_succ.trans (List.getElem?_cons_succ.trans (List.getElem?_cons_succ.trans (List.getElem?_cons_succ.trans (List.getElem?_cons_succ.trans (List.getElem?_cons_succ.trans (List.getElem?_cons_succ.trans (List.getElem?_cons_succ.trans (List.getElem?_cons_succ.trans (List.getElem?_cons_succ.trans (List.getElem?_cons_succ.trans (List.getElem?_cons_succ.trans (List.getElem?_cons_succ.trans (List.getElem?_cons_succ.trans (List.getElem?_cons_succ.trans (List.getElem?_cons_succ.trans (List.getElem?_cons_succ.trans (List.getElem?_cons_succ.trans (List.getElem?_cons_succ.trans (List.getElem?_cons_succ.trans (List.getElem?_cons_succ.trans (List.getElem?_cons_succ.trans (List.getElem?_cons_succ.trans (List.getElem?_cons_succ.trans (List.getElem?_cons_succ.trans (List.getElem?_cons_succ.trans (List.getElem?_cons_zero))))))))))))))))))))))))))))) (by kernel_rfl) (by kernel_rfl) (by kernel_rfl) (fun _ _ _ h => h) (Or.inl ⟨by rfl, ?_⟩) (by assumption) ?_
        rotate_left
        · intro w' hSw; (try dsimp only at hSw); go_simp; try with_reducible rfl
        try simp only [Act.put, List.setIfInBounds_toArray, List.set_cons_zero, List.set_cons_succ]
        refine wpAnyH_take (i := 28) (v := ?_) (List.getElem?_toArray.trans (List.getElem?_cons_succ.trans (List.getElem?_cons_succ.trans (List.getElem?_cons_succ.trans (List.getElem?_cons_succ.trans (List.getElem?_cons_succ.trans (List.getElem?_cons_succ.trans (List.getElem?_cons_succ.trans (List.getElem?_cons_succ.trans (List.getElem?_cons_succ.trans (List.getElem?_cons_succ.trans (List.getElem?_cons_succ.trans (List.getElem?_cons_succ.trans (List.getElem?_cons_succ.trans (List.getElem?_cons_succ.trans (List.getElem?_cons_succ.trans (List.getElem?_cons_succ.trans (List.getElem?_cons_succ.trans (List.getElem?_cons_succ.trans (List.getElem?_cons_succ.trans (List.getElem?_cons_succ.trans (List.getElem?_cons_succ.trans (List.getElem?_cons_succ.trans (List.getElem?_cons_succ.trans (List.getElem?_cons_succ.trans (List.getElem?_cons_succ.trans (List.getElem?_cons_succ.trans (List.getElem?_cons_succ.trans (List.getElem?_cons_succ.trans (List.getElem?_cons_zero)))))))))))))))))))))))))))))) (by kernel_rfl) (by kernel_rfl) (by kernel_rfl) (fun _ _ _ h => h) (Or.inl ⟨by rfl, ?_⟩) (by assumption) ?_
        rotate_left
        · intro w' hSw; (try dsimp only at hSw); go_simp; try with_reducible rfl
        try simp only [Act.put, List.setIfInBounds_toArray, List.set_cons_zero, List.set_cons_succ]
        refine wpAnyH_ready (rs := [29]) (by kernel_rfl) (by simp) ?_
        refine AllReadyH.cons (List.getElem?_toArray.trans (List.getElem?_cons_succ.trans (List.getElem?_cons_succ.trans (List.getElem?_cons_succ.trans (List.getElem?_cons_succ.trans (List.getElem?_cons_succ.trans (List.getElem?_cons_succ.trans (List.getElem?_cons_succ.trans (List.getElem?_cons_succ.trans (List.getElem?_cons_succ.trans (List.getElem?_cons_succ.trans (List.getElem?_cons_succ.trans (List.getElem?_cons_succ.trans (List.getElem?_cons_succ.trans (List.getElem?_cons_succ.trans (List.getElem?_cons_succ.trans (List.getElem?_cons_succ.trans (List.getElem?_cons_succ.trans (List.getElem?_cons_succ.trans (List.getElem?_cons_succ.trans (List.getElem?_cons_succ.trans (List.getElem?_cons_succ.trans (List.getElem?_cons_succ.trans (List.getElem?_cons_succ.trans (List.getElem?_cons_succ.trans (List.getElem?_cons_succ.trans (List.getElem?_cons_succ.trans (List.getElem?_cons_succ.trans (List.getElem?_cons_succ.trans (List.getElem?_cons_succ.trans (List.getElem?_cons_zero))))))))))))))))))))))))))))))) (fun K hK => ?_) AllReadyH.nil
        go_simp
        refine (diskAwake w8).mono ?_
        rintro e w10 ⟨rfl, hb10⟩
        refine hK.out _ _ hb10 (fun hHeld => ?_)
        clear hK K
        try simp only [Act.put, List.setIfInBounds_toArray, List.set_cons_zero, List.set_cons_succ]
        refine wpAnyH_take (i := 30) (v := ?_) (List.getElem?_toArray.trans (List.getElem?_cons_succ.trans (List.getElem?_cons_succ.trans (List.getElem?_cons_succ.trans (List.getElem?_cons_succ.trans (List.getElem?_cons_succ.trans (List.getElem?_cons_succ.trans (List.getElem?_cons_succ.trans (List.getElem?_cons_succ.trans (List.getElem?_cons_succ.trans (List.getElem?_cons_succ.trans (List.getElem?_cons_succ.trans (List.getElem?_cons_succ.trans (List.getElem?_cons_succ.trans (List.getElem?_cons_succ.trans (List.getElem?_cons_succ.trans (List.getElem?_cons_succ.trans (List.getElem?_cons_succ.trans (List.getElem?_cons_succ.trans (List.getElem?_cons_succ.trans (List.getElem?_cons_succ.trans (List.getElem?_cons_succ.trans (List.getElem?_cons_succ.trans (List.getElem?_cons_succ.trans (List.getElem?_cons_succ.trans (List.getElem?_cons_succ.trans (List.getElem?_cons_succ.trans (List.getElem?_cons_succ.trans (List.getElem?_cons_succ.trans (List.getElem?_cons_succ.trans (List.getElem?_cons_succ.trans (List.getElem?_cons_zero)))))))))))))))))))))))))))))))) (by kernel_rfl) (by kernel_rfl) (by kernel_rfl) (fun _ _ _ h => h) (Or.inl ⟨by rfl, ?_⟩) (by assumption) ?_
        rotate_left
        · intro w' hSw; (try dsimp only at hSw); go_simp; try with_reducible rfl
        try simp only [Act.put, List.setIfInBounds_toArray, List.set_cons_zero, List.set_cons_succ]
        refine wpAnyH_take (i := 31) (v := ?_) (List.getElem?_toArray.trans (List.getElem?_cons_succ.trans (List.getElem?_cons_succ.trans (List.getElem?_cons_succ.trans (List.getElem?_cons_succ.trans (List.getElem?_cons_succ.trans (List.getElem?_cons_succ.trans (List.getElem?_cons_succ.trans (List.getElem?_cons_succ.trans (List.getElem?_cons_succ.trans (List.getElem?_cons_succ.trans (List.getElem?_cons_succ.trans (List.getElem?_cons_succ.trans (List.getElem?_cons_succ.trans (List.getElem?_cons_succ.trans (List.getElem?_cons_succ.trans (List.getElem?_cons_succ.trans (List.getElem?_cons_succ.trans (List.getElem?_cons_succ.trans (List.getElem?_cons_succ.trans (List.getElem?_cons_succ.trans (List.getElem?_cons_succ.trans (List.getElem?_cons_succ.trans (List.getElem?_cons_succ.trans (List.getElem?_cons_succ.trans (List.getElem?_cons_succ.trans (List.getElem?_cons_succ.trans (List.getElem?_cons_succ.trans (List.getElem?_cons_succ.trans (List.getElem?_cons_succ.trans (List.getElem?_cons_succ.trans (List.getElem?_cons_succ.trans (List.getElem?_cons_zero))))))))))))))))))))))))))))))))) (by kernel_rfl) (by kernel_rfl) (by kernel_rfl) (fun _ _ _ h => h) (Or.inl ⟨by rfl, ?_⟩) (by assumption) ?_
        rotate_left
        · intro w' hSw; (try dsimp only at hSw); go_simp; try with_reducible rfl
        try simp only [Act.put, List.setIfInBounds_toArray, List.set_cons_zero, List.set_cons_succ]
        refine wpAnyH_done (by kernel_rfl) ?_ _
        go_wp2_with fail
        go_ret
        have hB10 := hB8.trans (hb10.mono hB8.size)
        exact ⟨rfl, HH6.out.2.1.trans (hB10.mono HH6.out.2.1.size)⟩
  · go_wp2_with fail
    go_loopw [6, 7] (fun v i wz => ∃ (k : Nat) (A1 : Option Addr) (c1 n1 : Nat), k ≤ 4 ∧ i = .int .i64 (k : Int) ∧ v = .slice A1 n1 c1 ∧ (reads m k).length = n1 ∧ n1 ≤ 64 * k ∧ wz.ownsRow w2.heap.size 5 1 (.slice A1 n1 c1) n1 (bv (reads m k)) ∧ Below w2.heap.size w2 wz) (fun _ i _ => 4 - (intOf i).toNat)
    case atStart => exact ⟨0, _, _, 0, by omega, rfl, rfl, rfl, by omega, row_empty w2 _ 1 5 (Nat.le_refl _), below_alloc w2 _⟩
    case round =>
      obtain ⟨k, A1, c1, n1, hk4, rfl, rfl, hn1, hnk, hrow, hbel⟩ := hrel
      have HI := Lib.hid (And.intro hrow (And.intro hbel hn1))
      have HC := Lib.hid (H2.out.1.below hbel)
      clear hrow hbel hn1
      by_cases hlt : k < 4
      · have hki : (k : Int) < 4 := by omega
        obtain ⟨r, er⟩ : ∃ r, m.read (k : Int) = r := ⟨_, rfl⟩
        obtain ⟨L, eL⟩ : ∃ L, r.1 = L := ⟨_, rfl⟩
        obtain ⟨nL, enL⟩ : ∃ n, L.length = n := ⟨_, rfl⟩
        have hL64 : nL ≤ 64 := by
          rw [← enL, ← eL, ← er]
          exact read_le HC.out.ok (k : Int)
        have hr2 : r.2 = 9 := by
          rw [← er]
          unfold Dk.read
          rw [if_neg (by have := H2.out.2.2.2.2.2; omega), if_pos hoff]
        have hrd := dkRead wr gd F2 m HC.out (by have := H2.out.2.2.2.2.1; omega) (k : Int)
        rw [er] at hrd
        unfold DkOwn at hrd
        rw [hr2, eL] at hrd
        have HRd := Lib.hid hrd
        have HL := Lib.hid (And.intro er (And.intro eL enL))
        clear hrd er eL hr2
        go_wp2_with (first
          | (go_at_call 15; refine HRd.out.mono ?_; rintro e w4 ⟨v4, rfl, hown4, hb4⟩; obtain ⟨A4, c4, rfl, hbs4, _⟩ := hown4.slice; rw [HL.out.2.2]; have HC4 := Lib.hid (HC.out.below hb4); have HB4 := Lib.hid (And.intro hbs4 hb4); clear hown4 hbs4 hb4)
          | (go_at_call 10; refine (dkOn w4 gd F2 m HC4.out).mono ?_; rintro e w' ⟨rfl, rfl⟩; rw [hoff])
          | (at_builtin
             refine wpList_append_row _ rfl (.tmp 32) (.tmp 33) 27 rfl w2.heap.size 5 i0 _ 1 1 Try.underlying27 hi0 hz0 hz1 hz2 rfl (by decide) _ n1 (bv (reads m k)) rfl (row_below HI.out.1 HB4.out.2) w4.heap.size A4 c4 nL (bv L) rfl (bs_vs HB4.out.1) (by rw [bv_length, HL.out.2.2, Nat.mul_one]) (bv_one _) (by omega) (by simp only [maxLen]; omega) (Nat.le_trans HI.out.2.1.size HB4.out.2.size) ?_
             intro v5 w5 hown5 hg5 _
             obtain ⟨A5, c5, rfl, _, _, _, _⟩ := vs_of_row hown5)
          | fail)
        go_roundw
        case rel =>
          refine ⟨k + 1, A5, c5, n1 + nL, by omega, by go_num, rfl, ?_, by omega, ?_, ?_⟩
          · rw [reads_succ, HL.out.1, HL.out.2.1, List.length_append, HI.out.2.2, HL.out.2.2]
          · rw [reads_succ, HL.out.1, HL.out.2.1, bv_append]
            exact hown5
          · have b1 := HI.out.2.1.trans (HB4.out.2.mono HI.out.2.1.size)
            exact b1.trans (only_below hg5 b1.size (fun g' e => (World.ownsRow.lt HI.out.1 g' e).1))
        case measure => simp [intOf]; omega
      · obtain rfl : k = 4 := by omega
        have hnl : ¬ ((4 : Nat) : Int) < 4 := by omega
        have hfl : m.flush = (m, 9) := flush_no (step_off hoff)
        have hflu := dkFlush wr gd F2 m HC.out (by have := H2.out.2.2.2.2.1; omega)
        rw [hfl] at hflu
        have HFlu := Lib.hid hflu
        clear hflu hfl
        go_wp2_with (first
          | (go_at_call 10; refine (dkOn wr gd F2 m HC.out).mono ?_; rintro e w' ⟨rfl, rfl⟩; rw [hoff])
          | (go_at_call 16; refine HFlu.out.mono ?_; rintro e w4 ⟨rfl, h4, hk4⟩; have hb4 := below_kept (H2.out.2.2.1.trans (HI.out.2.1.mono H2.out.2.2.1.size)) hk4 H2.out.2.1 (Nat.le_trans H2.out.2.2.1.size HI.out.2.1.size))
          | (go_at_call 7; refine (diskAwake w4).mono ?_; rintro e w5 ⟨rfl, hb5⟩)
          | fail)
        go_ret
        exact ⟨rfl, hb4.trans (hb5.mono hb4.size)⟩
end Go.Proofs.Ytnnjneijdfibnaa
