/-
  Package disk's Flush, by its contract. Conditions: the theorem's own premises.
-/
import Derived.Test.YtdhaikcmgegfoaaDiskCode4
namespace Go.Proofs.Ytdhaikcmgegfoaa
open Go.RowKit

theorem step_idle {m : Dk} (hi : m.off = true → m.waits = [] ∧ m.left < 0) : m.step.1.off = true → m.step.1.waits = [] ∧ m.step.1.left < 0 := by
  unfold Dk.step
  split
  · exact hi
  · split
    · exact fun _ => ⟨(crash_facts m hi m.surv).2.1, (crash_facts m hi m.surv).2.2.2⟩
    · split
      · rename_i h _ _
        intro e
        exact absurd e h
      · exact hi
set_option maxRecDepth 100000 in
set_option maxHeartbeats 1000000 in
set_option linter.unusedSimpArgs false in
theorem dkFlush (w : World) (gd : Nat) (F : Nat → Prop) (m : Dk) (h : CodeIs w gd F m) (hw : m.waits.length ≤ 4294967296) :
    Calls Try.prog 45 #[.pointer (some ⟨gd, 0, none⟩)] w fun e w' => e = .returned (.int .i64 (m.flush.2 : Nat)) ∧ CodeIs w' gd F m.flush.1 ∧ Kept F w w' := by
  have hpo := Lib.hid (dkPowered w gd F m h hw)
  have hw1 : m.step.1.waits.length ≤ 4294967296 := Nat.le_trans (step_waits m) hw
  clear h hw
  cases hst : m.step.2
  · have hfl : m.flush = (m.step.1, 9) := by unfold Dk.flush; rw [hst]; rfl
    rw [hst] at hpo
    rw [hfl]
    clear hst hfl
    go_enter Try.func45, Try.ntmps45
    go_wp2_with (go_at_call 50; refine hpo.out.mono ?_; rintro e w3 ⟨rfl, hat3, hk3⟩)
    go_ret
    exact ⟨rfl, hat3, hk3⟩
  · have hfl : m.flush = (m.step.1.laid true [], 0) := by unfold Dk.flush; rw [hst]; rfl
    rw [hst] at hpo
    rw [hfl]
    clear hst hfl
    obtain ⟨n, en⟩ : ∃ d, m.step.1 = d := ⟨_, rfl⟩
    rw [en] at hpo hw1 ⊢
    obtain ⟨nw, enw⟩ : ∃ k, n.waits.length = k := ⟨_, rfl⟩
    have HN := Lib.hid enw
    rw [enw] at hw1
    clear en
    go_enter Try.func45, Try.ntmps45
    go_wp2_with (first
      | (go_at_call 50; refine hpo.out.mono ?_; rintro e w0 ⟨rfl, hat0, hk0⟩; obtain ⟨gc, W, cw, T, hat0⟩ := hat0; have hc1 := hat0.c1; rw [enw] at hc1; clear enw; have HC := Lib.hid (And.intro hat0 hk0); clear hat0 hk0)
      | fail)
    go_loopw [13] (fun i wz => ∃ k : Nat, k ≤ nw ∧ i = .int .i64 (k : Int) ∧ CodeAt wz gd F { n with has := lay true [] 0 (n.waits.take k) n.has } gc W cw T ∧ Kept F w wz) (fun i _ => nw - (intOf i).toNat)
    case atStart => exact ⟨0, by omega, rfl, HC.out.1, HC.out.2⟩
    case round =>
      obtain ⟨k, hk, rfl, hat, hkept⟩ := hrel
      by_cases hlt : k < nw
      · obtain ⟨gp, eW, hFp, hcells⟩ := hat.pendAt (k := k) (by rw [HN.out]; exact hlt)
        obtain ⟨a, s, eq, ha, hs⟩ := hat.pendGot (k := k) (by rw [HN.out]; exact hlt)
        simp only at eq ha hcells
        rw [eq] at hcells
        have hstep := lay_step true [] n.has n.waits k (by rw [HN.out]; exact hlt)
        rw [eq] at hstep
        simp only at hstep
        obtain ⟨L, eL⟩ : ∃ L, lay true [] 0 (n.waits.take k) n.has = L := ⟨_, rfl⟩
        rw [eL] at hstep hat ha
        have hki : (k : Int) < (nw : Int) := by omega
        have hk0 : (0 : Int) ≤ (k : Int) := by omega
        obtain ⟨X, eX⟩ : ∃ X, wr1 (a, s) = X := ⟨_, rfl⟩
        have hXl : X.length = 65 := eX ▸ wr1_65 a s hs
        rw [eX] at hcells
        have HX := Lib.hid (And.intro eX (And.intro hXl (eX ▸ wr1_one (a, s))))
        have HI := Lib.hid (And.intro hat (And.intro hkept (And.intro hstep (And.intro ha (And.intro hs hcells)))))
        have HW := Lib.hid eW
        subst eW
        clear hat hkept hstep ha hs hcells eL eX hXl eq
        go_wp2_with (first | (with_reducible refine st_load 94 ?_; refine stopped ?_) | fail)
        refine go_on ?_
        refine wpList_load_at rfl 94 (.tmp 15) rfl gp (k * 65) rfl X.toArray _ HI.out.2.2.2.2.2 Try.underlying94 rfl (by rw [List.size_toArray, HX.out.2.1]; exact write_size) ?_
        refine wpList_alloc rfl 94 rfl _ write_zero ?_
        intro w1 hb1 hw1' hz1
        obtain ⟨gl, egl⟩ : ∃ g, wr.heap.size = g := ⟨_, rfl⟩
        rw [egl] at hb1 ⊢
        simp only [Act.put, List.setIfInBounds_toArray, List.set_cons_zero, List.set_cons_succ]
        refine wpList_store_whole rfl 94 (.tmp 4) (.tmp 16) rfl gl X rfl rfl 94 (wr1 (0, nought)) hb1 (by rw [HX.out.2.1]; exact write_size) (by rw [HX.out.2.1]; rfl) HX.out.2.2 ?_
        intro w2 hb2 hg2
        simp only [Act.put, List.setIfInBounds_toArray, List.set_cons_zero, List.set_cons_succ]
        have hbel : Below wr.heap.size wr w2 := hw1'.trans (only_below hg2 (by omega) (fun g e => by cases e; omega))
        have HA := Lib.hid (And.intro (HI.out.1.below hbel) (And.intro hb2 hbel))
        clear hb1 hw1' hz1 hg2 hbel egl hb2
        have hap := dkApply w2 gd F { n with has := L } gc (some ⟨gp, 0, none⟩) cw T HA.out.1 a s HI.out.2.2.2.1 HI.out.2.2.2.2.1
        rw [HX.out.1] at hap
        have hap := Lib.hid hap
        go_wp2_with (first | (with_reducible refine st_load 94 ?_; refine stopped ?_) | fail)
        refine go_on ?_
        refine wpList_load_at rfl 94 (.tmp 4) rfl gl 0 rfl X.toArray _ (Blk.cells HA.out.2.1) Try.underlying94 rfl (by rw [List.size_toArray, HX.out.2.1]; exact write_size) ?_
        simp only [Act.put, List.setIfInBounds_toArray, List.set_cons_zero, List.set_cons_succ]
        go_wp2_with (go_at_call 47; refine hap.out.mono ?_; rintro e w3 ⟨rfl, hat3, hk3⟩)
        go_roundw
        case rel =>
          refine ⟨k + 1, by omega, by go_num, ?_, (HI.out.2.1.trans (Kept.of_below (F := F) HA.out.2.2) (fun g hg => .inl hg)).trans hk3 (fun g hg => .inl (hg ▸ HC.out.1.ownC))⟩
          have hst := HI.out.2.2.1
          rw [Bool.true_or, if_pos rfl] at hst
          rw [hst]
          exact hat3
        case measure => simp [intOf]; omega
      · obtain rfl : k = nw := by omega
        have hlay : lay true [] 0 (n.waits.take k) n.has = lay true [] 0 n.waits n.has := by rw [List.take_of_length_le (by rw [HN.out]; omega)]
        rw [hlay] at hat
        have HI := Lib.hid (And.intro hat hkept)
        have hf1 := hat.blk.frozen 1
        have hd1 := hat.c1
        simp only at hd1
        rw [HN.out] at hd1
        have hnl : ¬ (k : Int) < (k : Int) := by omega
        clear hat hkept hlay
        go_wp2_with fail
        go_ret
        have hb4 := HI.out.1.blk.set_ 1 (.slice none 0 0)
        have hat4 := HI.out.1.put (m' := n.laid true []) (W' := none) (T' := T) (cw' := 0) (one_set wr gd 1 (.slice none 0 0)) (by simpa [dkCells, Dk.laid] using hb4) (Dk.laid_ok HC.out.1.ok true []) (fun e => ⟨rfl, (HC.out.1.idle e).2⟩) rfl (.inl ⟨rfl, rfl, rfl⟩) (.inr ⟨rfl, rfl, rfl⟩)
        exact ⟨rfl, ⟨_, _, _, _, hat4⟩, HI.out.2.trans (Kept.of_grown (F := F) (one_set wr gd 1 (.slice none 0 0)) (fun g e => by cases e; exact .inl HC.out.1.own)) (fun g hg => .inl hg)⟩
end Go.Proofs.Ytdhaikcmgegfoaa
