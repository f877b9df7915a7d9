/-
  Package sha's extend, by its contract. Conditions: the theorem's own premises.
-/
import Derived.Test.YtjhkoepcolpclaaDoorShaExtM
import Derived.BigQuiet
namespace Go.Proofs.YtjhkoepcolpclaaDoor
open Go.RowKit

theorem blk_info : (Tryd.prog.info? 51).map (·.size) = some 64 := by kernel_rfl
theorem w64_info : (Tryd.prog.info? 62).map (·.size) = some 64 := by kernel_rfl
theorem w64_zero : (Tryd.prog.info? 62).map (·.zero) = some (some (.agg (wv (List.replicate 64 0)).toArray)) := by kernel_rfl
theorem u8_plain : Tryd.prog.plainKey 5 = true := by kernel_rfl
theorem u32_plain : Tryd.prog.plainKey 43 = true := by kernel_rfl
theorem u8_info : (Tryd.prog.info? 5).map (·.size) = some 1 := by kernel_rfl
theorem u32_info1 : (Tryd.prog.info? 43).map (·.size) = some 1 := by kernel_rfl
theorem blk_at (b : List UInt8) (hb : b.length = 64) (i : Nat) (hi : i < 64) (w : World) : (Instr.index 51 (.agg (bv b).toArray) (.int .i64 (i : Int))).run Tryd.prog w = .ok (.int .u8 ((b[i]'(by omega)).toNat : Int)) w :=
  run_index_agg _ 5 64 _ _ i _ Tryd.underlying51 u8_plain u8_info hi (by rw [List.getElem?_toArray]; exact bv_get (by omega))

set_option maxRecDepth 100000 in
set_option maxHeartbeats 4000000 in
set_option linter.unusedSimpArgs false in
theorem extend_any (b : List UInt8) (hlen : b.length = 64) (X : Array Value) (hX : X = (bv b).toArray) (w : World) :
    Calls Tryd.prog 30 #[.agg X] w fun e w' => e = .returned (.agg (wv (wordsW b)).toArray) ∧ Below w.heap.size w w' := by
  have hXs : X.size = 64 := by rw [hX]; simp [bv, hlen]
  have hXi : ∀ (i : Nat), i < 64 → ∃ c : Nat, c < 256 ∧ (∀ h : i < b.length, b[i].toNat = c) ∧ ∀ w, (Instr.index 51 (.agg X) (.int .i64 (i : Int))).run Tryd.prog w = .ok (.int .u8 (c : Int)) w := fun i hi =>
    ⟨(b[i]'(by omega)).toNat, (b[i]'(by omega)).toNat_lt, fun _ => rfl, fun w => by rw [hX]; exact blk_at b hlen i hi w⟩
  have HX := Lib.hid hXi
  have HXs := Lib.hid hXs
  clear hX hXi hXs
  go_enter Tryd.func30, Tryd.ntmps30
  go_wp2_with (first
    | (refine wpList_box rfl 51 (.tmp 0) rfl X rfl ?_; intro w1 hb1 hw1 hz1)
    | (refine wpList_alloc rfl 62 rfl _ w64_zero ?_; intro w2 hb2 hw2 hz2; refine stopped ?_))
  refine go_on ?_
  go_wp2_with (first
    | (refine wpList_alloc rfl 62 rfl _ w64_zero ?_; intro w3 hb3 hw3 hz3)
    | (refine wpList_load_at rfl 51 (.tmp 1) rfl w.heap.size 0 rfl X _ (Blk.cells (hb1.below (hw2.trans (hw3.mono (by omega))) (by omega))) Tryd.underlying51 rfl (by rw [HXs.out]; exact blk_info) ?_))
  have hres : Blk w3 (w.heap.size + 1) 62 (wv (List.replicate 64 0)).toArray := by rw [← hz1]; exact hb2.below hw3 (by omega)
  have hrow : Blk w3 (w.heap.size + 1 + 1) 62 (wv (W1 b 0)).toArray := by rw [W1_zero, ← hz1, ← hz2]; exact hb3
  have hbel3 : Below w.heap.size w w3 := hw1.trans ((hw2.trans (hw3.mono (by omega))).mono (by omega))
  obtain ⟨g, eg⟩ : ∃ g, w.heap.size + 1 + 1 = g := ⟨_, rfl⟩
  obtain ⟨g1, eg1⟩ : ∃ g, w.heap.size + 1 = g := ⟨_, rfl⟩
  rw [eg] at hrow ⊢
  rw [eg1] at hres ⊢
  have HRow0 := Lib.hid hrow
  have HRes0 := Lib.hid hres
  have HBel0 := Lib.hid hbel3
  have HG := Lib.hid (show g1 ≠ g ∧ w.heap.size ≤ g ∧ w.heap.size ≤ g1 by omega)
  clear hrow hres hbel3 hb1 hb2 hb3 hw1 hw2 hw3 hz1 hz2 hz3 eg eg1
  go_loopw [12] (fun v wr => ∃ i : Nat, i ≤ 64 ∧ v = .int .i64 (i : Int) ∧ Blk wr g 62 (wv (W1 b i)).toArray ∧ Blk wr g1 62 (wv (List.replicate 64 0)).toArray ∧ Below w.heap.size w wr) (fun v _ => 64 - (intOf v).toNat)
  case atStart => exact ⟨0, by omega, rfl, HRow0.out, HRes0.out, HBel0.out⟩
  case round =>
    obtain ⟨i, hi, rfl, hrow, hres, hbel⟩ := hrel
    have HRow := Lib.hid hrow
    have HRes := Lib.hid hres
    have HBel := Lib.hid hbel
    clear hrow hres hbel HRow0 HRes0 HBel0
    by_cases hlt : i < 64
    · obtain ⟨c, hc8, hbc, hix⟩ := HX.out i hlt
      have hstep := W1_step b i (by omega) hlen
      have hq8 := be4_of_lt b i
      rw [hbc (by omega)] at hstep
      obtain ⟨p, ep⟩ : ∃ p, i / 4 = p := ⟨_, rfl⟩
      rw [ep] at hstep hq8
      obtain ⟨q, eq⟩ : ∃ q, be4_of b i p = q := ⟨_, rfl⟩
      have hcell : (wr.cell? ⟨g, p, none⟩) = some (.int .u32 (q : Int)) := by rw [← eq, ← W1_at b i p (by omega)]; exact HRow.out.getw (by rw [W1_length]; omega)
      have hfro : wr.frozen? ⟨g, p, none⟩ = false := HRow.out.frozen p
      rw [eq] at hstep hq8
      have e1 : (i : Int) / 4 = (p : Int) := by omega
      have e2 : (i : Int).tdiv 4 = (p : Int) := by rw [Int.tdiv_eq_ediv_of_nonneg (by omega)]; exact e1
      obtain ⟨m, em⟩ : ∃ m, q * 256 = m := ⟨_, rfl⟩
      have e3 : (q : Int) * 256 = (m : Int) := by omega
      obtain ⟨v, ev⟩ : ∃ v, m + c = v := ⟨_, rfl⟩
      have e4 : bits .or .u32 (m : Int) (c : Int) = (v : Int) := by
        rw [bits_or_u32 m c (by omega) (by omega), Nat.or_comm, ← em, or_shift c q 8 (by omega)]
        omega
      rw [em, ev] at hstep
      have hp64 : (p : Int) < 64 := by omega
      have HStep := Lib.hid hstep
      clear hstep ep eq em ev hbc
      go_wp2_with fail
      go_roundw
      case rel => exact ⟨i + 1, by omega, by go_num, by rw [HStep.out]; exact HRow.out.setw p v, HRes.out.far HG.out.1 _, HBel.out.setCell HG.out.2.1 _⟩
      case measure => simp [intOf]; omega
    · obtain rfl : i = 64 := by omega
      have HRow1 := Lib.hid (show Blk wr g 62 (wv (extZ b 0)).toArray by rw [← extZ_zero b hlen]; exact HRow.out)
      clear HRow
      go_wp2_with fail
      try rw [show ((64 : Nat) : Int) = (64 : Int) from rfl]
      go_loopw [6] (fun v wz => ∃ n t : Nat, n ≤ 48 ∧ n + 16 = t ∧ v = .int .i64 (t : Int) ∧ Blk wz g 62 (wv (extZ b n)).toArray ∧ Blk wz g1 62 (wv (List.replicate 64 0)).toArray ∧ Below w.heap.size w wz) (fun v _ => 64 - (intOf v).toNat)
      case atStart => exact ⟨0, 16, by omega, rfl, rfl, HRow1.out, HRes.out, HBel.out⟩
      case round =>
        obtain ⟨n, t, hn, ht, rfl, hrow, hres, hbel⟩ := hrel
        have HRow := Lib.hid hrow
        have HRes2 := Lib.hid hres
        have HBel2 := Lib.hid hbel
        clear hrow hres hbel HRow1 HRes HBel
        by_cases hlt : n < 48
        · have hnx := nextW_is b n
          have hcell : ∀ j, j < n + 16 → wr.cell? ⟨g, j, none⟩ = some (.int .u32 (((extW (firstW b 16) n).getD j 0 : Nat) : Int)) := fun j hj => by
            rw [← extZ_at b n j hj]
            exact HRow.out.getw (by rw [extZ_length b n hn]; omega)
          have hst := extZ_step b n hlt
          have hL := extW_at_lt b n
          have c15 := hcell (n + 1) (by omega)
          have c2 := hcell (n + 14) (by omega)
          have c7 := hcell (n + 9) (by omega)
          have c16 := hcell n (by omega)
          have q15 := hL (n + 1)
          have q2 := hL (n + 14)
          have hfro : wr.frozen? ⟨g, t, none⟩ = false := HRow.out.frozen t
          have hct : wr.cell? ⟨g, t, none⟩ = some (.int .u32 (((extZ b n).getD t 0 : Nat) : Int)) := HRow.out.getw (by rw [extZ_length b n hn]; omega)
          obtain ⟨old, eold⟩ : ∃ x, (extZ b n).getD t 0 = x := ⟨_, rfl⟩
          obtain ⟨nx, enx⟩ : ∃ x, nextW (extW (firstW b 16) n) = x := ⟨_, rfl⟩
          obtain ⟨x15, e15⟩ : ∃ x, (extW (firstW b 16) n).getD (n + 1) 0 = x := ⟨_, rfl⟩
          obtain ⟨x2, e2⟩ : ∃ x, (extW (firstW b 16) n).getD (n + 14) 0 = x := ⟨_, rfl⟩
          obtain ⟨x7, e7⟩ : ∃ x, (extW (firstW b 16) n).getD (n + 9) 0 = x := ⟨_, rfl⟩
          obtain ⟨x16, e16⟩ : ∃ x, (extW (firstW b 16) n).getD n 0 = x := ⟨_, rfl⟩
          rw [e15, e2, e7, e16] at hnx
          rw [e15] at c15 q15
          rw [e2] at c2 q2
          rw [e7] at c7
          rw [e16] at c16
          rw [eold] at hct
          rw [enx] at hnx hst
          rw [ht] at hst
          obtain ⟨p15, ep15⟩ : ∃ p, n + 1 = p := ⟨_, rfl⟩
          obtain ⟨p2, ep2⟩ : ∃ p, n + 14 = p := ⟨_, rfl⟩
          obtain ⟨p7, ep7⟩ : ∃ p, n + 9 = p := ⟨_, rfl⟩
          rw [ep15] at c15
          rw [ep2] at c2
          rw [ep7] at c7
          have a15 : (t : Int) - 15 = (p15 : Int) := by omega
          have a2 : (t : Int) - 2 = (p2 : Int) := by omega
          have a7 : (t : Int) - 7 = (p7 : Int) := by omega
          have a16 : (t : Int) - 16 = (n : Int) := by omega
          have b15 : (p15 : Int) < 64 := by omega
          have b2 : (p2 : Int) < 64 := by omega
          have b7 : (p7 : Int) < 64 := by omega
          have b16 : (n : Int) < 64 := by omega
          have bt : (t : Int) < 64 := by omega
          obtain ⟨r7, r18, m0, er7, er18, y0, y1⟩ := sig0_facts q15
          obtain ⟨r17, r19, m1, er17, er19, y2, y3⟩ := sig1_facts q2
          have T7 := Lib.hid (rotate_is 7 7 rfl er7 q15 (by omega) (by omega))
          have T18 := Lib.hid (rotate_is 18 18 rfl er18 q15 (by omega) (by omega))
          have T17 := Lib.hid (rotate_is 17 17 rfl er17 q2 (by omega) (by omega))
          have T19 := Lib.hid (rotate_is 19 19 rfl er19 q2 (by omega) (by omega))
          obtain ⟨z0, ez0⟩ : ∃ z, sig0 x15 = z := ⟨_, rfl⟩
          obtain ⟨z1, ez1⟩ : ∃ z, sig1 x2 = z := ⟨_, rfl⟩
          rw [ez0] at y1 hnx
          rw [ez1] at y3 hnx
          obtain ⟨s1, es1⟩ : ∃ s, (z1 + x7) % 4294967296 = s := ⟨_, rfl⟩
          obtain ⟨s2, es2⟩ : ∃ s, (s1 + z0) % 4294967296 = s := ⟨_, rfl⟩
          rw [es1, es2] at hnx
          obtain ⟨A1, A1'⟩ := u32_sum es1
          obtain ⟨A2, A2'⟩ := u32_sum es2
          obtain ⟨A3, A3'⟩ := u32_sum hnx.symm
          have HSt := Lib.hid hst.symm
          have HT := Lib.hid ht
          have HA := Lib.hid (And.intro A1 (And.intro A1' (And.intro A2 (And.intro A2' (And.intro A3 A3')))))
          have HI := Lib.hid (And.intro a7 (And.intro a16 (And.intro b7 (And.intro b16 (And.intro bt (And.intro c7 (And.intro c16 (And.intro hct hfro))))))))
          clear hnx hcell hst hL q15 q2 eold enx e15 e2 e7 e16 ep15 ep2 ep7 er7 er18 er17 er19 ez0 ez1 es1 es2 A1 A1' A2 A2' A3 A3' a7 a16 b7 b16 c7 c16 hct hfro ht
          go_wp2_with fail
          go_quiet (fail)
          rename_i nq
          clear a15 a2 b15 b2 c15 c2
          go_wp2_with fail
          refine (T7.out _).mono ?_
          rintro e' w' ⟨rfl, k1, rfl⟩
          go_wp2_with fail
          refine (T18.out _).mono ?_
          rintro e' w' ⟨rfl, k2, rfl⟩
          go_wp2_with fail
          refine (T17.out _).mono ?_
          rintro e' w' ⟨rfl, k3, rfl⟩
          go_wp2_with fail
          refine (T19.out _).mono ?_
          rintro e' w' ⟨rfl, k4, rfl⟩
          go_wp2_with fail
          obtain ⟨A1, A1', A2, A2', A3, A3'⟩ := HA.out
          obtain ⟨a7, a16, b7, b16, bt', c7, c16, hct, hfro⟩ := HI.out
          clear y0 y1 y2 y3
          have v7 : IntKind.i64.wrap (p7 : Int) = (p7 : Int) := IntWalk.i64_in _ (by omega)
          have v16 : IntKind.i64.wrap (n : Int) = (n : Int) := IntWalk.i64_in _ (by omega)
          refine region_tail 15 (by kernel_rfl) (by kernel_rfl) ?_
          simp only [List.take_succ_cons, List.take_zero, List.drop_succ_cons, List.drop_zero]
          repeat still_step
          refine wpStill_nil ?_
          go_wp2_with fail
          go_roundw
          case rel => exact ⟨n + 1, t + 1, by omega, by have := HT.out; omega, by go_num, by rw [HSt.out]; exact (Blk.drewN HRow.out _).setw t nx, (Blk.drewN HRes2.out _).far HG.out.1 _, (below_drewN HBel2.out _).setCell HG.out.2.1 _⟩
          case measure => simp [intOf]; omega
        · obtain rfl : n = 48 := by omega
          obtain rfl : t = 64 := by omega
          have HEnd := Lib.hid (show Blk wr g 62 (wv (wordsW b)).toArray by rw [← extZ_end]; exact HRow.out)
          have hwl := wordsW_length b
          go_wp2_with (first
            | (refine wpList_load_at rfl 62 (.tmp 3) rfl g 0 rfl (wv (wordsW b)).toArray _ (Blk.cells HEnd.out) Tryd.underlying62 rfl (by simp only [List.size_toArray, wv_length, hwl]; exact w64_info) ?_; refine wpList_store_whole rfl 62 (.tmp 2) (.tmp 71) rfl g1 (wv (wordsW b)) rfl rfl 62 (wv (List.replicate 64 0)) HRes2.out (by simp only [wv_length, hwl]; exact w64_info) (by simp only [wv_length, hwl]; rfl) (by intro u hu; exact wv_one _ u hu) ?_; intro w4 hb4 hg4)
            | fail)
          refine bodyPost_row rfl g1 rfl 62 _ _ hb4 Tryd.underlying62 rfl (by simp only [List.size_toArray, wv_length, hwl]; exact w64_info) rfl ⟨rfl, ?_⟩
          exact HBel2.out.trans (only_below hg4 HBel2.out.size (fun g' hg => by cases hg; exact HG.out.2.2))
end Go.Proofs.YtjhkoepcolpclaaDoor
