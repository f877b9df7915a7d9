/-
  Package disk's Crash and Power, by their contracts. Conditions: each theorem's own premises.
-/
import Derived.Test.YtdhaikcmgegfoaaDiskCode2
namespace Go.Proofs.Ytdhaikcmgegfoaa
open Go.RowKit

theorem write_size : (Try.prog.info? 94).map (·.size) = some 65 := by kernel_rfl
theorem write_zero : (Try.prog.info? 94).map (·.zero) = some (some (.agg (wr1 (0, nought)).toArray)) := by kernel_rfl
section
variable {w w' : World} {gd gc cw : Nat} {F : Nat → Prop} {W T : Option Addr} {m : Dk}
theorem CodeAt.pendAt (h : CodeAt w gd F m gc W cw T) {k : Nat} (hk : k < m.waits.length) : ∃ gp, W = some ⟨gp, 0, none⟩ ∧ F gp ∧ Cells w gp (k * 65) (wr1 (m.waits.getD k (0, []))).toArray := by
  rcases h.pend.2 with ⟨_, h0⟩ | ⟨g, cap, cur, hv, hg, hh, hr⟩
  · omega
  · injection hv with hA _ _
    subst hA
    refine ⟨g, rfl, h.ownP g rfl, fun j v hv2 => ?_⟩
    have := World.ownsRow.cells h.pend (g := g) rfl (k * 65 + j) v (cws_part (fun p hp => (h.ok.at_ p hp).2) hk (by simpa using hv2))
    rwa [Addr.add_lit, Nat.zero_add] at this
theorem CodeAt.pendGot (h : CodeAt w gd F m gc W cw T) {k : Nat} (hk : k < m.waits.length) : ∃ a s, m.waits.getD k (0, []) = (a, s) ∧ a < m.has.length ∧ s.length = 64 := by
  have hm : m.waits.getD k (0, []) ∈ m.waits := by simp [List.getD, hk]
  have := h.ok.at_ _ hm
  exact ⟨_, _, rfl, this.1, this.2⟩
end
theorem Kept.mono {F G : Nat → Prop} {w w' : World} (h : Kept F w w') (hF : ∀ g, F g → G g) : Kept G w w' := ⟨h.os, h.tape, h.output, h.size, fun i hi hn => h.block i hi (fun hf => hn (hF i hf))⟩
theorem crash_facts (m : Dk) (hi : m.off = true → m.waits = [] ∧ m.left < 0) (surv : List Bool) : (m.crash surv).has = lay false surv 0 m.waits m.has ∧ (m.crash surv).waits = [] ∧ (m.crash surv).off = true ∧ (m.crash surv).left < 0 := by
  unfold Dk.crash
  split
  · rename_i h
    obtain ⟨h1, h2⟩ := hi h
    exact ⟨by rw [h1]; rfl, h1, h, h2⟩
  · exact ⟨rfl, rfl, rfl, by simp⟩
theorem lay_laid (m : Dk) (all : Bool) (surv : List Bool) : ({ m with has := lay all surv 0 (m.waits.take m.waits.length) m.has } : Dk) = { m with has := lay all surv 0 m.waits m.has } := by rw [List.take_length]
theorem wr1_65 (a : Nat) (s : List UInt8) (h : s.length = 64) : (wr1 (a, s)).length = 65 := wr1_length _ h

set_option maxRecDepth 100000 in
set_option maxHeartbeats 1000000 in
set_option linter.unusedSimpArgs false in
theorem dkCrash (w : World) (gd : Nat) (F : Nat → Prop) (m : Dk) (gc : Nat) (W : Option Addr) (cw : Nat) (T : Option Addr) (h : CodeAt w gd F m gc W cw T) (hw : m.waits.length ≤ 4294967296)
    (S : Option Addr) (surv : List Bool) (c : Nat) (hS : Vs w w.heap.size S (bvs surv)) (hF : Far S surv.length gc) :
    Calls Try.prog 28 #[.pointer (some ⟨gd, 0, none⟩), .slice S surv.length c] w fun e w' => e = .returned (.tuple #[]) ∧ CodeAt w' gd F (m.crash surv) gc none 0 none ∧ Kept F w w' := by
  obtain ⟨ns, ens⟩ : ∃ n, surv.length = n := ⟨_, rfl⟩
  obtain ⟨nw, enw⟩ : ∃ n, m.waits.length = n := ⟨_, rfl⟩
  rw [ens]
  have hc1 := h.c1
  rw [enw] at hc1 hw
  have HC := Lib.hid (And.intro h (And.intro hS (And.intro hF (And.intro ens enw))))
  clear h hS hF ens enw
  go_enter Try.func28, Try.ntmps28
  go_wp2_with fail
  go_loopw [11] (fun i wz => ∃ k : Nat, k ≤ nw ∧ i = .int .i64 (k : Int) ∧ CodeAt wz gd F { m with has := lay false surv 0 (m.waits.take k) m.has } gc W cw T ∧ Kept (· = gc) w wz) (fun i _ => nw - (intOf i).toNat)
  case atStart => exact ⟨0, by omega, rfl, HC.out.1, .refl _ _⟩
  case round =>
    obtain ⟨k, hk, rfl, hat, hkept⟩ := hrel
    by_cases hlt : k < nw
    · obtain ⟨gp, eW, hFp, hcells⟩ := hat.pendAt (k := k) (by rw [HC.out.2.2.2.2]; exact hlt)
      obtain ⟨a, s, eq, ha, hs⟩ := hat.pendGot (k := k) (by rw [HC.out.2.2.2.2]; exact hlt)
      simp only at eq ha hcells
      rw [eq] at hcells
      have hstep := lay_step false surv m.has m.waits k (by rw [HC.out.2.2.2.2]; exact hlt)
      rw [eq] at hstep
      simp only at hstep
      obtain ⟨L, eL⟩ : ∃ L, lay false surv 0 (m.waits.take k) m.has = L := ⟨_, rfl⟩
      rw [eL] at hstep hat ha
      have hki : (k : Int) < (nw : Int) := by omega
      have hk0 : (0 : Int) ≤ (k : Int) := by omega
      obtain ⟨X, eX⟩ : ∃ X, wr1 (a, s) = X := ⟨_, rfl⟩
      have hXl : X.length = 65 := eX ▸ wr1_65 a s hs
      rw [eX] at hcells
      have HX := Lib.hid (And.intro eX (And.intro hXl (eX ▸ wr1_one (a, s))))
      have HI := Lib.hid (And.intro hat (And.intro hkept (And.intro hstep (And.intro ha (And.intro hs hcells)))))
      have HW := Lib.hid eW
      subst eW
      clear hat hkept hstep ha hs hcells eL eX hXl eq
      go_wp2_with (first | (with_reducible refine st_load 94 ?_; refine stopped ?_) | fail)
      refine go_on ?_
      refine wpList_load_at rfl 94 (.tmp 14) rfl gp (k * 65) rfl X.toArray _ HI.out.2.2.2.2.2 Try.underlying94 rfl (by rw [List.size_toArray, HX.out.2.1]; exact write_size) ?_
      refine wpList_alloc rfl 94 rfl _ write_zero ?_
      intro w1 hb1 hw1 hz1
      obtain ⟨gl, egl⟩ : ∃ g, wr.heap.size = g := ⟨_, rfl⟩
      rw [egl] at hb1 ⊢
      simp only [Act.put, List.setIfInBounds_toArray, List.set_cons_zero, List.set_cons_succ]
      go_wp2_with (first | (with_reducible refine st_store 94 ?_; refine stopped ?_) | fail)
      refine go_on ?_
      refine wpList_store_whole rfl 94 (.tmp 5) (.tmp 15) rfl gl X rfl rfl 94 (wr1 (0, nought)) hb1 (by rw [HX.out.2.1]; exact write_size) (by rw [HX.out.2.1]; rfl) HX.out.2.2 ?_
      intro w2 hb2 hg2
      simp only [Act.put, List.setIfInBounds_toArray, List.set_cons_zero, List.set_cons_succ]
      have hbel : Below wr.heap.size wr w2 := hw1.trans (only_below hg2 (by omega) (fun g e => by cases e; omega))
      have HA := Lib.hid (And.intro (HI.out.1.below hbel) (And.intro hb2 hbel))
      clear hb1 hw1 hz1 hg2 hbel egl hb2
      by_cases hks : k < ns
      · obtain ⟨b8, o8, eS, hb8, hc8⟩ := HC.out.2.1 (by rw [bvs_length, HC.out.2.2.2.1]; omega)
        have hne : b8 ≠ gc := HC.out.2.2.1 (by rw [HC.out.2.2.2.1]; omega) b8 o8 eS
        have y8 := hc8 k _ (bvs_get (by rw [HC.out.2.2.2.1]; exact hks))
        have hkp := HI.out.2.1.trans (Kept.of_below (F := (· = gc)) HA.out.2.2) (fun g hg => .inl hg)
        have y9 : w2.cell? ⟨b8, o8 + k, none⟩ = some (.bool (surv.getD k false)) := (World.cell?_of_block (hkp.block b8 hb8 hne)).trans y8
        obtain ⟨x8, e8⟩ : ∃ x, surv.getD k false = x := ⟨_, rfl⟩
        rw [e8] at y9
        have HE8 := Lib.hid e8
        have HEk := Lib.hid hkp
        subst eS
        have hks1 : (k : Int) < (ns : Int) := by omega
        clear hc8 e8 y8 hkp hne hb8
        cases x8
        · go_wp2_with fail
          go_roundw
          case rel =>
            refine ⟨k + 1, by omega, by go_num, ?_, HEk.out⟩
            have hst := HI.out.2.2.1
            rw [HE8.out, Bool.false_or, if_neg (by decide)] at hst
            rw [hst]
            exact HA.out.1
          case measure => simp [intOf]; omega
        · have hap := dkApply w2 gd F { m with has := L } gc (some ⟨gp, 0, none⟩) cw T HA.out.1 a s HI.out.2.2.2.1 HI.out.2.2.2.2.1
          rw [HX.out.1] at hap
          have hap := Lib.hid hap
          go_wp2_with (first | (with_reducible refine st_load 94 ?_; refine stopped ?_) | fail)
          refine go_on ?_
          refine wpList_load_at rfl 94 (.tmp 5) rfl gl 0 rfl X.toArray _ (Blk.cells HA.out.2.1) Try.underlying94 rfl (by rw [List.size_toArray, HX.out.2.1]; exact write_size) ?_
          simp only [Act.put, List.setIfInBounds_toArray, List.set_cons_zero, List.set_cons_succ]
          go_wp2_with (go_at_call 47; refine hap.out.mono ?_; rintro e w3 ⟨rfl, hat3, hk3⟩)
          go_roundw
          case rel =>
            refine ⟨k + 1, by omega, by go_num, ?_, HEk.out.trans hk3 (fun g hg => .inl hg)⟩
            have hst := HI.out.2.2.1
            rw [HE8.out, Bool.false_or, if_pos rfl] at hst
            rw [hst]
            exact hat3
          case measure => simp [intOf]; omega
      · have hks1 : ¬ (k : Int) < (ns : Int) := by omega
        go_wp2_with fail
        go_roundw
        case rel =>
          refine ⟨k + 1, by omega, by go_num, ?_, HI.out.2.1.trans (Kept.of_below (F := (· = gc)) HA.out.2.2) (fun g hg => .inl hg)⟩
          have hst := HI.out.2.2.1
          have e8 : surv.getD k false = false := by rw [List.getD, List.getElem?_eq_none (by rw [HC.out.2.2.2.1]; omega)]; rfl
          rw [e8, Bool.false_or, if_neg (by decide)] at hst
          rw [hst]
          exact HA.out.1
        case measure => simp [intOf]; omega
    · obtain rfl : k = nw := by omega
      have hlay : lay false surv 0 (m.waits.take k) m.has = lay false surv 0 m.waits m.has := by rw [List.take_of_length_le (by rw [HC.out.2.2.2.2]; omega)]
      rw [hlay] at hat
      have hlo := dkLose wr gd F _ gc W cw T hat
      have HI := Lib.hid (And.intro hat hkept)
      have hlo := Lib.hid hlo
      have hnl : ¬ (k : Int) < (k : Int) := by omega
      clear hat hkept hlay
      go_wp2_with (first
        | (go_at_call 48; refine hlo.out.mono ?_; rintro e w3 ⟨rfl, hg3, hb3⟩; have hf2 := hb3.frozen 2; have h2 : w3.cell? ⟨gd, 2, none⟩ = some (.bool (!m.off)) := by rw [hb3.cell]; rfl)
        | fail)
      go_end0
      obtain ⟨f1, f2, f3, f4⟩ := crash_facts m HC.out.1.idle surv
      have hg4 := only_trans hg3 (one_set w3 gd 2 (.bool false))
      have hb4 := hb3.set_ 2 (.bool false)
      have hat4 := HI.out.1.put (m' := m.crash surv) (W' := none) (T' := none) (cw' := 0) hg4 (by
        simp only [f1, f2, f3]
        simpa [dkCells] using hb4) (Dk.crash_ok HC.out.1.ok surv) (fun _ => ⟨f2, f4⟩) f1 (.inl ⟨rfl, rfl, f2⟩) (.inl ⟨rfl, f4⟩)
      refine ⟨rfl, hat4, (HI.out.2.mono (fun g e => by rw [e]; exact HC.out.1.ownC)).trans (Kept.of_grown (F := F) hg4 (fun g e => ?_)) (fun g hg => .inl hg)⟩
      cases e
      exact .inl HC.out.1.own
end Go.Proofs.Ytdhaikcmgegfoaa
