/-
  Package code's Decode, by its contract. Conditions: the theorem's own premises.
-/
import Derived.Test.YthgiehlfmdobkaaDoorCodeFnC
namespace Go.Proofs.YthgiehlfmdobkaaDoor
open Go.RowKit

theorem ivs_zero (m : Nat) : ivs (List.replicate m i0) = List.replicate (m * 4) (Value.int .u8 0) := by
  induction m with
  | zero => rfl
  | succ m ih =>
    rw [List.replicate_succ, ivs, ih, show (m + 1) * 4 = 4 + m * 4 by omega, ← List.replicate_append_replicate]
    rfl
theorem ins_size : (Tryd.prog.info? 61).map (·.size) = some 4 := by kernel_rfl
theorem ivs_splice (a z : List Ins) (i j : Ins) : splice (ivs (a ++ j :: z)) (a.length * 4) i.cells = ivs (a ++ i :: z) := by
  unfold splice
  have h4 : i.cells.length = 4 := rfl
  have hj : j.cells.length = 4 := rfl
  rw [ivs_append, ivs_append, ivs, ivs, h4, List.take_append_of_le_length (by rw [ivs_length]; exact Nat.le_refl _), List.take_of_length_le (by rw [ivs_length]; exact Nat.le_refl _)]
  have e : (ivs a ++ (j.cells ++ ivs z)).drop (a.length * 4 + 4) = ivs z := by
    rw [← List.append_assoc]
    exact List.drop_left' (by rw [List.length_append, ivs_length, hj])
  rw [e]
theorem made_ins (m : Nat) : madeCells #[Value.int .u8 0, Value.int .u8 0, Value.int .u8 0, Value.int .u8 0] (m * 4) = (ivs (List.replicate m i0)).toArray := by
  rw [ivs_zero]
  apply Array.ext
  · simp [madeCells]
  · intro i h1 h2
    have h : i % 4 = 0 ∨ i % 4 = 1 ∨ i % 4 = 2 ∨ i % 4 = 3 := by omega
    rcases h with h | h | h | h <;> simp [madeCells, h]

set_option maxRecDepth 100000 in
set_option maxHeartbeats 4000000 in
set_option linter.unusedSimpArgs false in
theorem coDecode (A : Option Addr) (b : List UInt8) (n cp : Nat) (hl : b.length = n) (hn : n ≤ 1000000) (hcp : n ≤ cp) (w : World) (hA : Bs w w.heap.size A b) (hG : HasErr w) : Calls Tryd.prog 21 #[.slice A n cp] w (DecPost w b) := by
  obtain ⟨m, em⟩ : ∃ m, n / 4 = m := ⟨_, rfl⟩
  obtain ⟨r, er⟩ : ∃ r, n % 4 = r := ⟨_, rfl⟩
  have q1 : (n : Int) / 4 = (m : Int) := by omega
  have q2 : (n : Int).tdiv 4 = (m : Int) := by rw [Int.tdiv_eq_ediv_of_nonneg (by omega)]; exact q1
  have r1 : (n : Int) % 4 = (r : Int) := by omega
  have r2 : (n : Int).tmod 4 = (r : Int) := by rw [Int.tmod_eq_emod_of_nonneg (by omega)]; exact r1
  have H := Lib.hid (And.intro hl (And.intro hA (And.intro hG (And.intro em er))))
  clear hl hA hG em er
  go_enter Tryd.func21, Tryd.ntmps21
  by_cases hr0 : r = 0
  · subst hr0
    obtain ⟨i1, hi0, hz0, hz1, hz2⟩ := info_parts ins_info
    have hmk := run_make (P := Tryd.prog) w 34 61 i1 _ Tryd.underlying34 hi0 hz0 .i64 .i64 m m (by omega) (by omega) (by rw [hz2]; omega) (by omega)
    simp only [Int.toNat_natCast, hz1] at hmk
    rw [show (Value.agg #[.int .u8 0, .int .u8 0, .int .u8 0, .int .u8 0]).cells = #[.int .u8 0, .int .u8 0, .int .u8 0, .int .u8 0] from rfl, made_ins] at hmk
    have hblk := Blk.new w 61 (ivs (List.replicate m i0)).toArray
    have hbel0 := below_alloc w (.cells (ivs (List.replicate m i0)).toArray 61)
    have hsz0 : (w.alloc (.cells (ivs (List.replicate m i0)).toArray 61)).heap.size = w.heap.size + 1 := by simp
    obtain ⟨w1, ew1⟩ : ∃ x, w.alloc (.cells (ivs (List.replicate m i0)).toArray 61) = x := ⟨_, rfl⟩
    rw [ew1] at hmk hblk hbel0 hsz0
    obtain ⟨gl, egl⟩ : ∃ x, w.heap.size = x := ⟨_, rfl⟩
    rw [egl] at hmk hblk
    have H1 := Lib.hid (And.intro hblk (And.intro hbel0 (And.intro hsz0 egl)))
    clear hblk hbel0 hsz0 ew1 egl
    go_wp2_with fail
    go_loopw [22] (fun u wz => ∃ k : Nat, k ≤ m ∧ u = .int .i64 (k : Int) ∧ Blk wz gl 61 (ivs ((listL b).take k ++ List.replicate (m - k) i0)).toArray ∧ w1.grownBy wz (some gl)) (fun u _ => m - (intOf u).toNat)
    case atStart => exact ⟨0, by omega, rfl, by simpa using H1.out.1, only_refl _ _⟩
    case round =>
      obtain ⟨k, hkm, rfl, hblk, hgr⟩ := hrel
      have HI := Lib.hid (And.intro hblk hgr)
      clear hblk hgr
      by_cases hlt : k < m
      · have hki : (k : Int) < (m : Int) := by omega
        have hk0 : (0 : Int) ≤ (k : Int) := by omega
        obtain ⟨p, ep⟩ : ∃ p, 4 * k = p := ⟨_, rfl⟩
        have e4 : 4 * (k : Int) = (p : Int) := by omega
        have hmn : 4 * m = n := by have := H.out.2.2.2.1; have := H.out.2.2.2.2; omega
        have hp0 : (0 : Int) ≤ (p : Int) := by omega
        have hpn : (p : Int) ≤ (n : Int) := by omega
        obtain ⟨q, eq⟩ : ∃ q, n - p = q := ⟨_, rfl⟩
        have hq : q ≥ 4 := by omega
        have hq1 : (1 : Int) < (q : Int) := by omega
        have hq2 : (2 : Int) < (q : Int) := by omega
        have hq3 : (3 : Int) < (q : Int) := by omega
        have hq0 : (0 : Int) < (q : Int) := by omega
        have hbw : Below w.heap.size w wr := H1.out.2.1.trans (only_below HI.out.2 H1.out.2.1.size (fun g e => by cases e; exact Nat.le_of_eq H1.out.2.2.2))
        obtain ⟨bb, o, eA, hbb, hcell⟩ := H.out.2.1 (by rw [H.out.1]; omega)
        have hget := listL_get (l := b) (k := k) (by rw [H.out.1]; omega)
        have g0 := hcell (4 * k) (by rw [H.out.1]; omega)
        have g1 := hcell (4 * k + 1) (by rw [H.out.1]; omega)
        have g2 := hcell (4 * k + 2) (by rw [H.out.1]; omega)
        have g3 := hcell (4 * k + 3) (by rw [H.out.1]; omega)
        have gd : ∀ j (h : j < b.length), b[j] = b.getD j 0 := fun j h => by simp [List.getD, h]
        rw [gd] at g0 g1 g2 g3
        obtain ⟨x0, ex0⟩ : ∃ x, (b.getD (4 * k) 0).toNat = x := ⟨_, rfl⟩
        obtain ⟨x1, ex1⟩ : ∃ x, (b.getD (4 * k + 1) 0).toNat = x := ⟨_, rfl⟩
        obtain ⟨x2, ex2⟩ : ∃ x, (b.getD (4 * k + 2) 0).toNat = x := ⟨_, rfl⟩
        obtain ⟨x3, ex3⟩ : ∃ x, (b.getD (4 * k + 3) 0).toNat = x := ⟨_, rfl⟩
        rw [ex0, ep] at g0
        rw [ex1, ep, ← Nat.add_assoc] at g1
        rw [ex2, ep, ← Nat.add_assoc] at g2
        rw [ex3, ep, ← Nat.add_assoc] at g3
        rw [ex0, ex1, ex2, ex3] at hget
        have z0 : wr.drew.cell? ⟨bb, o + p, none⟩ = some (.int .u8 (x0 : Int)) := (hbw.drew.cell (p := ⟨bb, o + p, none⟩) hbb).trans g0
        have z1 : wr.drew.cell? ⟨bb, o + p + 1, none⟩ = some (.int .u8 (x1 : Int)) := (hbw.drew.cell (p := ⟨bb, o + p + 1, none⟩) hbb).trans g1
        have z2 : wr.drew.cell? ⟨bb, o + p + 2, none⟩ = some (.int .u8 (x2 : Int)) := (hbw.drew.cell (p := ⟨bb, o + p + 2, none⟩) hbb).trans g2
        have z3 : wr.drew.cell? ⟨bb, o + p + 3, none⟩ = some (.int .u8 (x3 : Int)) := (hbw.drew.cell (p := ⟨bb, o + p + 3, none⟩) hbb).trans g3
        have HG := Lib.hid (And.intro hget (And.intro ep hbw))
        clear g0 g1 g2 g3 gd ex0 ex1 ex2 ex3 hget hcell hbw
        subst eA
        have hN : n - 4 * k = q := by omega
        have hcpp : ¬ cp = p := by omega
        have hn0 : 0 < q := by omega
        have hn1 : 1 < q := by omega
        have hn2 : 2 < q := by omega
        have hn3 : 3 < q := by omega
        go_wp2_with fail
        refine region_tail 15 (by kernel_rfl) (by kernel_rfl) ?_
        simp only [List.take_succ_cons, List.take_zero, List.drop_succ_cons, List.drop_zero]
        repeat still_step
        refine wpStill_nil ?_
        have hsplit : ivs ((listL b).take k ++ List.replicate (m - k) i0) = ivs ((listL b).take k ++ i0 :: List.replicate (m - (k + 1)) i0) := by rw [show m - k = (m - (k + 1)) + 1 by omega, List.replicate_succ]
        have hlen : ((listL b).take k).length = k := by rw [List.length_take, listL_length, H.out.1]; omega
        have hnext : ivs ((listL b).take k ++ (⟨x0, x1, x2, x3⟩ : Ins) :: List.replicate (m - (k + 1)) i0) = ivs ((listL b).take (k + 1) ++ List.replicate (m - (k + 1)) i0) := by
          rw [take_snoc (listL b) k (by rw [listL_length, H.out.1]; omega), HG.out.1, List.append_assoc]
          rfl
        have hsp := ivs_splice ((listL b).take k) (List.replicate (m - (k + 1)) i0) ⟨x0, x1, x2, x3⟩ i0
        rw [hlen, hnext, ← hsplit] at hsp
        have hfit : k * 4 + 4 ≤ (ivs ((listL b).take k ++ List.replicate (m - k) i0)).length := by rw [ivs_length, List.length_append, hlen, List.length_replicate]; omega
        have HS := Lib.hid (And.intro hsp hfit)
        clear hsplit hlen hnext hsp hfit
        go_wp2_with (first
          | (with_reducible refine st_store 61 ?_; refine stopped ?_)
          | fail)
        refine go_on ?_
        refine wpList_store_at rfl 61 (.tmp 44) (.tmp 43) rfl gl (k * 4) (Ins.cells ⟨x0, x1, x2, x3⟩) rfl rfl 61 _ (Blk.drewN HI.out.1 _) (by rw [show (Ins.cells ⟨x0, x1, x2, x3⟩).length = 4 from rfl]; exact ins_size) HS.out.2 (cells_one _) ?_
        intro w5 hb5 hg5
        rw [HS.out.1] at hb5
        have HJ := Lib.hid (And.intro hb5 (only_trans (only_drewN HI.out.2 _) hg5))
        clear hb5 hg5
        simp only [Act.put, List.setIfInBounds_toArray, List.set_cons_zero, List.set_cons_succ]
        refine wpList_nil ?_
        go_wp2_with fail
        go_roundw
        case rel => exact ⟨k + 1, by omega, by go_num, HJ.out.1, HJ.out.2⟩
        case measure => simp [intOf]; omega
      · obtain rfl : k = m := by omega
        have hkm : ¬ (k : Int) < (k : Int) := by omega
        have hbw : Below w.heap.size w wr := H1.out.2.1.trans (only_below HI.out.2 H1.out.2.1.size (fun g e => by cases e; exact Nat.le_of_eq H1.out.2.2.2))
        have hall : (listL b).take k ++ List.replicate (k - k) i0 = listL b := by
          rw [Nat.sub_self, List.replicate_zero, List.append_nil, List.take_of_length_le (by rw [listL_length, H.out.1, H.out.2.2.2.1]; exact Nat.le_refl _)]
        have hB := HI.out.1
        rw [hall] at hB
        have hlen : (listL b).length = k := by rw [listL_length, H.out.1, H.out.2.2.2.1]
        have hIns : InsAt wr (some ⟨gl, 0, none⟩) (listL b) := ⟨vs_of_blk hB hB.lt, listL_ok b⟩
        have hch := coCheck (some ⟨gl, 0, none⟩) (listL b) k k hlen (by omega) wr hIns
        obtain ⟨f1, f2, ef⟩ : ∃ f1 f2, checkL (listL b) = (f1, f2) := ⟨_, _, rfl⟩
        have hle := checkL_le (listL b)
        rw [ef] at hch hle
        have hG2 := H.out.2.2.1.below hbw
        have HC := Lib.hid (And.intro hch (And.intro hB (And.intro hlen (And.intro ef (And.intro hbw (And.intro hle hG2))))))
        clear hch hB hlen hall hIns ef hbw hle hG2
        by_cases hf0 : f1 = 0
        · subst hf0
          go_wp2_with (go_at_call 15; refine HC.out.1.mono ?_; rintro e w2 ⟨v2, rfl, hc2, hb2⟩; obtain rfl : v2 = .nilIface := hc2)
          go_ret2
          have hd : decF b = [] := by unfold decF; rw [if_neg (by rw [H.out.1, H.out.2.2.2.2]; decide), HC.out.2.2.2.1]; rfl
          refine ⟨_, _, rfl, ?_, by rw [hd]; rfl, HC.out.2.2.2.2.1.trans (hb2.mono HC.out.2.2.2.2.1.size)⟩
          unfold decL
          rw [if_pos hd]
          unfold InsOwn
          rw [HC.out.2.2.1]
          exact row_of_blk (HC.out.2.1.below hb2 HC.out.2.1.lt) (Nat.le_of_eq H1.out.2.2.2) (by rw [ivs_length, HC.out.2.2.1]) (by unfold maxLen; omega)
        · have hfc : faultC (f1, f2) = [((f1 : Int), (f2 : Int))] := by unfold faultC; rw [if_neg hf0]
          go_wp2_with (go_at_call 15; refine HC.out.1.mono ?_; rintro e w2 ⟨v2, rfl, hc2, hb2⟩; rw [hfc] at hc2; have HD := Lib.hid (And.intro hc2 hb2); obtain ⟨g2, u2, rfl, _, _⟩ := hc2; clear hb2)
          have hG2 := HC.out.2.2.2.2.2.2.below HD.out.2
          have hpa := fPath HD.out.1 hG2 (Nat.succ_le_succ (Nat.zero_le _))
          have hle := HC.out.2.2.2.2.2.1
          have hf2 : f2 ≤ 1000000 := by have := HC.out.2.2.1; have := hle.2; omega
          obtain ⟨z, ez⟩ : ∃ z, 4 * f2 = z := ⟨_, rfl⟩
          have ez1 : 4 * (f2 : Int) = (z : Int) := by omega
          have HE := Lib.hid (And.intro hpa (And.intro hG2 ez))
          clear hpa hG2 hle ez
          go_wp2_with (go_at_call 24; refine HE.out.1.mono ?_; rintro e w3 ⟨A3, c3, rfl, hv3, hb3⟩; obtain ⟨b3, o3, rfl, hlt3, hc3⟩ := hv3 (by simp [zv, chAt]); have d3 := hc3 0 (.int .i64 (f2 : Int)) rfl; rw [Nat.add_zero] at d3; clear hc3 hv3)
          refine (fIn (z : Int) (HD.out.1.below hb3) (HE.out.2.1.below hb3)).mono ?_
          rintro e w4 ⟨v4, rfl, hc4, hb4⟩
          rw [if_neg (by simp)] at hc4
          go_wp2_with fail
          go_ret2
          have hd : decF b = [((f1 : Int), (z : Int)), ((f1 : Int), (f2 : Int))] := by
            unfold decF
            rw [if_neg (by rw [H.out.1, H.out.2.2.2.2]; decide), HC.out.2.2.2.1, if_neg hf0, ← HE.out.2.2]
          have h2 : Below w.heap.size w w2 := HC.out.2.2.2.2.1.trans (HD.out.2.mono HC.out.2.2.2.2.1.size)
          have h3 : Below w.heap.size w w3 := h2.trans (hb3.mono h2.size)
          refine ⟨_, _, rfl, ?_, by rw [hd]; exact hc4, h3.trans (hb4.mono h3.size)⟩
          have hdl : decL b = [] := by unfold decL; rw [if_neg (by rw [hd]; simp)]
          rw [hdl]
          exact row_nil _ _ _ _
  · have hr1 : ((r : Int) == 0) = false := by rw [beq_eq_false_iff_ne]; omega
    go_wp2_with (go_at_call 29; refine (fNew 2 _ _ (by decide)).mono ?_; rintro e w9 ⟨v9, rfl, hc9, hb9⟩)
    go_ret2
    refine ⟨_, _, rfl, ?_, ?_, hb9⟩
    · have : decL b = [] := by unfold decL; rw [if_neg]; unfold decF; rw [if_pos (by rw [H.out.1, H.out.2.2.2.2]; exact hr0)]; simp
      rw [this]
      exact row_nil _ _ _ _
    · have : decF b = [(2, (m : Int))] := by unfold decF; rw [if_pos (by rw [H.out.1, H.out.2.2.2.2]; exact hr0), H.out.1, H.out.2.2.2.1]
      rw [this]
      exact hc9
end Go.Proofs.YthgiehlfmdobkaaDoor
