/-
  ExtentApart: whatever the extents, the call answers true. Conditions: that they can be read, and the numbers are ints.
-/
import Derived.Test.YtdhaikcmgegfoaaExtAwake
import Derived.Deep.CutRange
namespace Go.Proofs.Ytdhaikcmgegfoaa
open Go.RowKit

theorem pair_info : (Try.prog.info? 26).map (fun i => (i.zero, i.size, i.bytes)) = some (some (.agg #[.int .i64 0, .int .i64 0]), 2, 16) := by kernel_rfl
theorem fill_pair (a : Act) (x : Operand) (X : Array Value) (z : Value) (hx : a.eval x = .agg X) (h : X.size = 2) : Instr.fill (fun i => some (i * 2, 2)) ((Array.range (1 * 2)).map (z.cells[· % z.cells.size]!)) ((#[(0, x)] : Array (Nat × Operand)).map fun (i, x) => (i, a.eval x)).toList = some X := by
  have e : ((#[(0, x)] : Array (Nat × Operand)).map fun (i, x) => (i, a.eval x)).toList = [(0, .agg X)] := by simp [hx]
  rw [e]
  exact fill_one (by decide) X _ h (by simp)
theorem evs_take (l : List (Int × Int)) (i : Nat) (h : i < l.length) : evs (l.take (i + 1)) = evs (l.take i) ++ [.int .i64 (l.getD i (0, 0)).1, .int .i64 (l.getD i (0, 0)).2] := by
  have e : l.take (i + 1) = l.take i ++ [l.getD i (0, 0)] := by
    rw [List.take_add_one]
    simp [List.getD, h]
  rw [e, evs_append]
  rfl
theorem evs_pre {w : World} {B : Nat} {A : Option Addr} {l : List (Int × Int)} (h : Vs w B A (evs l)) (m : Nat) : Vs w B A (evs (l.take m)) := fun h0 => by
  obtain ⟨b, o, e, hb, hc⟩ := h (by rw [evs_length] at h0 ⊢; rw [List.length_take] at h0; omega)
  refine ⟨b, o, e, hb, fun j v hj => hc j v ?_⟩
  have : evs l = evs (l.take m) ++ evs (l.drop m) := by rw [← evs_append, List.take_append_drop]
  rw [this, List.getElem?_append_left ((List.getElem?_eq_some_iff.1 hj).1)]
  exact hj
theorem allI_take {l : List (Int × Int)} (h : allI l) (m : Nat) : allI (l.take m) := fun p hp => h p (List.mem_of_mem_take hp)
set_option maxRecDepth 100000 in
set_option maxHeartbeats 4000000 in
set_option linter.unusedSimpArgs false in
theorem extentApart_calls (A : Option Addr) (l : List (Int × Int)) (n c : Nat) (hl : l.length = n) (hn : n ≤ 9223372036854775807) (hnc : n ≤ c) (w : World) (hA : Vs w w.heap.size A (evs l)) (hI : allI l) :
    Calls Try.prog 3 #[.slice A n c] w fun e w' => e = .returned (.bool true) ∧ Below w.heap.size w w' := by
  obtain ⟨i0, hi0, hz0, hz1, hz2⟩ := info_parts pair_info
  obtain ⟨m, em⟩ : ∃ m, min n 40 = m := ⟨_, rfl⟩
  have hml : (l.take 40).length = m := by rw [List.length_take, hl, ← em, Nat.min_comm]
  have hvs := evs_pre hA 40
  have hal := allI_take hI 40
  obtain ⟨L, eL⟩ : ∃ L, l.take 40 = L := ⟨_, rfl⟩
  rw [eL] at hml hvs hal
  have hm40 : m ≤ 40 := by omega
  have H := Lib.hid (And.intro hml (And.intro hvs hal))
  have HC := Lib.hid hnc
  clear hml hvs hal hA hI eL hl hnc
  go_enter Try.func3, Try.ntmps3
  go_upto_if 7 with fail
  go_cut [0] from 5 to 9 (fun v wx => v = .slice A m c ∧ wx = w)
  case first =>
    by_cases h40 : n > 40
    · obtain rfl : m = 40 := by omega
      have h40i : (n : Int) > 40 := by omega
      have hc40 : (40 : Int) ≤ (c : Int) := by have := HC.out; omega
      go_wp2_with fail
      go_meet
      case rel => exact ⟨rfl, rfl⟩
    · obtain rfl : m = n := by omega
      have h40i : ¬ (m : Int) > 40 := by omega
      go_wp2_with fail
      go_meet
      case rel => exact ⟨rfl, rfl⟩
  case rest =>
    obtain ⟨rfl, hwc⟩ := hcut
    have hwc := hwc.symm
    subst hwc
    go_wp2_with fail
    go_loopw [3, 4] (fun v u wz => ∃ (i : Nat) (A1 : Option Addr) (c1 : Nat), i ≤ m ∧ u = .int .i64 (i : Int) ∧ v = .slice A1 i c1 ∧ wz.ownsRow w.heap.size 26 2 (.slice A1 i c1) i (evs (L.take i)) ∧ Below w.heap.size w wz) (fun _ u _ => m - (intOf u).toNat)
    case atStart => exact ⟨0, none, 0, by omega, rfl, rfl, row_nil _ _ _ _, Below.refl _ _⟩
    case round =>
      obtain ⟨i, A1, c1, him, rfl, rfl, hrow, hbel⟩ := hrel
      have HI := Lib.hid (And.intro hrow hbel)
      clear hrow hbel
      by_cases hlt : i < m
      · have hii : (i : Int) < (m : Int) := by omega
        have hi00 : (0 : Int) ≤ (i : Int) := by omega
        obtain ⟨b, o, eA, hbb, hc1, hc2⟩ := evs_at (H.out.2.1) (j := i) (by rw [H.out.1]; exact hlt)
        obtain ⟨xf, exf⟩ : ∃ x, (L.getD i (0, 0)).1 = x := ⟨_, rfl⟩
        obtain ⟨xc, exc⟩ : ∃ x, (L.getD i (0, 0)).2 = x := ⟨_, rfl⟩
        rw [exf] at hc1
        rw [exc] at hc2
        have hd1 := (HI.out.2.cell (p := ⟨b, o + i * 2, none⟩) hbb).trans hc1
        have hd2 := (HI.out.2.cell (p := ⟨b, o + i * 2 + 1, none⟩) hbb).trans hc2
        have HX := Lib.hid (And.intro exf (And.intro exc (And.intro eA hbb)))
        subst eA
        clear hc1 hc2 exf exc hbb
        go_wp2_with fail
        have hS0 : (fun w' => w'.cell? ⟨b, o + i * 2, none⟩ = some (.int .i64 xf) ∧ w'.cell? ⟨b, o + i * 2 + 1, none⟩ = some (.int .i64 xc)) wr.drew := ⟨hd1, hd2⟩
        refine wp_region_held_drew (S := fun w' => w'.cell? ⟨b, o + i * 2, none⟩ = some (.int .i64 xf) ∧ w'.cell? ⟨b, o + i * 2 + 1, none⟩ = some (.int .i64 xc)) (by kernel_rfl) hS0 (fun hHeld => ?_)
        refine wpAnyH_take (i := 0) (v := ?_) (List.getElem?_toArray.trans (List.getElem?_cons_zero)) (by kernel_rfl) (by kernel_rfl) (by kernel_rfl) (fun _ _ _ h => h) (Or.inl ⟨by rfl, ?_⟩) (by assumption) ?_
        rotate_left
        · intro w' hSw; (try dsimp only at hSw); go_simp; try with_reducible rfl
        try simp only [Act.put, List.setIfInBounds_toArray, List.set_cons_zero, List.set_cons_succ]
        refine wpAnyH_take (i := 1) (v := ?_) (List.getElem?_toArray.trans (List.getElem?_cons_succ.trans (List.getElem?_cons_zero))) (by kernel_rfl) (by kernel_rfl) (by kernel_rfl) (fun _ _ _ h => h) (Or.inl ⟨by rfl, ?_⟩) (by assumption) ?_
        rotate_left
        · intro w' hSw; (try dsimp only at hSw); go_simp; try with_reducible rfl
        try simp only [Act.put, List.setIfInBounds_toArray, List.set_cons_zero, List.set_cons_succ]
        refine wpAnyH_take (i := 2) (v := ?_) (List.getElem?_toArray.trans (List.getElem?_cons_succ.trans (List.getElem?_cons_succ.trans (List.getElem?_cons_zero)))) (by kernel_rfl) (by kernel_rfl) (by kernel_rfl) (fun _ _ _ h => h) (Or.inl ⟨by rfl, ?_⟩) (by assumption) ?_
        rotate_left
        · intro w' hSw; (try dsimp only at hSw); go_simp; try with_reducible rfl
        try simp only [Act.put, List.setIfInBounds_toArray, List.set_cons_zero, List.set_cons_succ]
        refine wpAnyH_take (i := 3) (v := ?_) (List.getElem?_toArray.trans (List.getElem?_cons_succ.trans (List.getElem?_cons_succ.trans (List.getElem?_cons_succ.trans (List.getElem?_cons_zero))))) (by kernel_rfl) (by kernel_rfl) (by kernel_rfl) (fun _ _ _ h => h) (Or.inl ⟨by rfl, ?_⟩) (by assumption) ?_
        rotate_left
        · intro w' hSw; (try dsimp only at hSw); go_simp; try with_reducible rfl
        try simp only [Act.put, List.setIfInBounds_toArray, List.set_cons_zero, List.set_cons_succ]
        refine wpAnyH_take (i := 4) (v := ?_) (List.getElem?_toArray.trans (List.getElem?_cons_succ.trans (List.getElem?_cons_succ.trans (List.getElem?_cons_succ.trans (List.getElem?_cons_succ.trans (List.getElem?_cons_zero)))))) (by kernel_rfl) (by kernel_rfl) (by kernel_rfl) (fun _ _ _ h => h) (Or.inl ⟨by rfl, ?_⟩) (by assumption) ?_
        rotate_left
        · intro w' hSw; (try dsimp only at hSw); go_simp; try with_reducible rfl
        try simp only [Act.put, List.setIfInBounds_toArray, List.set_cons_zero, List.set_cons_succ]
        refine wpAnyH_take (i := 5) (v := ?_) (List.getElem?_toArray.trans (List.getElem?_cons_succ.trans (List.getElem?_cons_succ.trans (List.getElem?_cons_succ.trans (List.getElem?_cons_succ.trans (List.getElem?_cons_succ.trans (List.getElem?_cons_zero))))))) (by kernel_rfl) (by kernel_rfl) (by kernel_rfl) (fun _ _ _ h => h) (Or.inl ⟨by rfl, ?_⟩) (by assumption) ?_
        rotate_left
        · intro w' hSw; (try dsimp only at hSw); go_simp; try with_reducible rfl
        try simp only [Act.put, List.setIfInBounds_toArray, List.set_cons_zero, List.set_cons_succ]
        refine wpAnyH_take (i := 6) (v := ?_) (List.getElem?_toArray.trans (List.getElem?_cons_succ.trans (List.getElem?_cons_succ.trans (List.getElem?_cons_succ.trans (List.getElem?_cons_succ.trans (List.getElem?_cons_succ.trans (List.getElem?_cons_succ.trans (List.getElem?_cons_zero)))))))) (by kernel_rfl) (by kernel_rfl) (by kernel_rfl) (fun _ _ _ h => h) (Or.inl ⟨by rfl, ?_⟩) (by assumption) ?_
        rotate_left
        · intro w' hSw; (try dsimp only at hSw); go_simp; try with_reducible rfl
        try simp only [Act.put, List.setIfInBounds_toArray, List.set_cons_zero, List.set_cons_succ]
        refine wpAnyH_take (i := 7) (v := ?_) (List.getElem?_toArray.trans (List.getElem?_cons_succ.trans (List.getElem?_cons_succ.trans (List.getElem?_cons_succ.trans (List.getElem?_cons_succ.trans (List.getElem?_cons_succ.trans (List.getElem?_cons_succ.trans (List.getElem?_cons_succ.trans (List.getElem?_cons_zero))))))))) (by kernel_rfl) (by kernel_rfl) (by kernel_rfl) (fun _ _ _ h => h) (Or.inl ⟨by rfl, ?_⟩) (by assumption) ?_
        rotate_left
        · intro w' hSw; (try dsimp only at hSw); go_simp; try with_reducible rfl
        try simp only [Act.put, List.setIfInBounds_toArray, List.set_cons_zero, List.set_cons_succ]
        refine wpAnyH_take (i := 8) (v := ?_) (List.getElem?_toArray.trans (List.getElem?_cons_succ.trans (List.getElem?_cons_succ.trans (List.getElem?_cons_succ.trans (List.getElem?_cons_succ.trans (List.getElem?_cons_succ.trans (List.getElem?_cons_succ.trans (List.getElem?_cons_succ.trans (List.getElem?_cons_succ.trans (List.getElem?_cons_zero)))))))))) (by kernel_rfl) (by kernel_rfl) (by kernel_rfl) (fun _ _ _ h => h) (Or.inl ⟨by rfl, ?_⟩) (by assumption) ?_
        rotate_left
        · intro w' hSw; (try dsimp only at hSw); go_simp; try with_reducible rfl
        try simp only [Act.put, List.setIfInBounds_toArray, List.set_cons_zero, List.set_cons_succ]
        refine wpAnyH_take (i := 9) (v := ?_) (List.getElem?_toArray.trans (List.getElem?_cons_succ.trans (List.getElem?_cons_succ.trans (List.getElem?_cons_succ.trans (List.getElem?_cons_succ.trans (List.getElem?_cons_succ.trans (List.getElem?_cons_succ.trans (List.getElem?_cons_succ.trans (List.getElem?_cons_succ.trans (List.getElem?_cons_succ.trans (List.getElem?_cons_zero))))))))))) (by kernel_rfl) (by kernel_rfl) (by kernel_rfl) (fun _ _ _ h => h) (Or.inl ⟨by rfl, ?_⟩) (by assumption) ?_
        rotate_left
        · intro w' hSw; (try dsimp only at hSw); go_simp; try with_reducible rfl
        try simp only [Act.put, List.setIfInBounds_toArray, List.set_cons_zero, List.set_cons_succ]
        refine wpAnyH_take (i := 10) (v := ?_) (List.getElem?_toArray.trans (List.getElem?_cons_succ.trans (List.getElem?_cons_succ.trans (List.getElem?_cons_succ.trans (List.getElem?_cons_succ.trans (List.getElem?_cons_succ.trans (List.getElem?_cons_succ.trans (List.getElem?_cons_succ.trans (List.getElem?_cons_succ.trans (List.getElem?_cons_succ.trans (List.getElem?_cons_succ.trans (List.getElem?_cons_zero)))))))))))) (by kernel_rfl) (by kernel_rfl) (by kernel_rfl) (fun _ _ _ h => h) (Or.inl ⟨by rfl, ?_⟩) (by assumption) ?_
        rotate_left
        · intro w' hSw; (try dsimp only at hSw); go_simp; try with_reducible rfl
        try simp only [Act.put, List.setIfInBounds_toArray, List.set_cons_zero, List.set_cons_succ]
        refine wpAnyH_take (i := 11) (v := ?_) (List.getElem?_toArray.trans (List.getElem?_cons_succ.trans (List.getElem?_cons_succ.trans (List.getElem?_cons_succ.trans (List.getElem?_cons_succ.trans (List.getElem?_cons_succ.trans (List.getElem?_cons_succ.trans (List.getElem?_cons_succ.trans (List.getElem?_cons_succ.trans (List.getElem?_cons_succ.trans (List.getElem?_cons_succ.trans (List.getElem?_cons_succ.trans (List.getElem?_cons_zero))))))))))))) (by kernel_rfl) (by kernel_rfl) (by kernel_rfl) (fun _ _ _ h => h) (Or.inl ⟨by rfl, ?_⟩) (by assumption) ?_
        rotate_left
        · intro w' hSw; (try dsimp only at hSw); go_simp; try with_reducible rfl
        try simp only [Act.put, List.setIfInBounds_toArray, List.set_cons_zero, List.set_cons_succ]
        refine wpAnyH_ready (rs := [12]) (by kernel_rfl) (by simp) ?_
        refine AllReadyH.cons (List.getElem?_toArray.trans (List.getElem?_cons_succ.trans (List.getElem?_cons_succ.trans (List.getElem?_cons_succ.trans (List.getElem?_cons_succ.trans (List.getElem?_cons_succ.trans (List.getElem?_cons_succ.trans (List.getElem?_cons_succ.trans (List.getElem?_cons_succ.trans (List.getElem?_cons_succ.trans (List.getElem?_cons_succ.trans (List.getElem?_cons_succ.trans (List.getElem?_cons_succ.trans (List.getElem?_cons_zero)))))))))))))) (fun K hK => ?_) AllReadyH.nil
        refine wp_buildSlice 23 26 1 _ rfl #[.int .i64 xf, .int .i64 xc] i0 _ Try.underlying23 hi0 hz0 (by rw [hz1]; decide) (by rw [hz1]; decide) (by rw [hz1]; exact fill_pair _ _ _ _ rfl rfl) ?_
        have hbA : Below w.heap.size w (wr.drew.alloc (.cells #[.int .i64 xf, .int .i64 xc] 26)) := (HI.out.2.trans ((Below.refl w.heap.size wr).drew)).trans ((below_alloc _ _).mono HI.out.2.size)
        have hSA : (fun w' => w'.cell? ⟨b, o + i * 2, none⟩ = some (.int .i64 xf) ∧ w'.cell? ⟨b, o + i * 2 + 1, none⟩ = some (.int .i64 xc)) (wr.drew.alloc (.cells #[.int .i64 xf, .int .i64 xc] 26)) := ⟨((below_alloc wr.drew _).cell (p := ⟨b, o + i * 2, none⟩) (Nat.lt_of_lt_of_le HX.out.2.2.2 HI.out.2.size)).trans hd1, ((below_alloc wr.drew _).cell (p := ⟨b, o + i * 2 + 1, none⟩) (Nat.lt_of_lt_of_le HX.out.2.2.2 HI.out.2.size)).trans hd2⟩
        refine hK.out _ _ hSA (fun hHeld => ?_)
        clear hK K
        try simp only [Act.put, List.setIfInBounds_toArray, List.set_cons_zero, List.set_cons_succ]
        refine wpAnyH_ready (rs := [13]) (by kernel_rfl) (by simp) ?_
        refine AllReadyH.cons (List.getElem?_toArray.trans (List.getElem?_cons_succ.trans (List.getElem?_cons_succ.trans (List.getElem?_cons_succ.trans (List.getElem?_cons_succ.trans (List.getElem?_cons_succ.trans (List.getElem?_cons_succ.trans (List.getElem?_cons_succ.trans (List.getElem?_cons_succ.trans (List.getElem?_cons_succ.trans (List.getElem?_cons_succ.trans (List.getElem?_cons_succ.trans (List.getElem?_cons_succ.trans (List.getElem?_cons_succ.trans (List.getElem?_cons_zero))))))))))))))) (fun K hK => ?_) AllReadyH.nil
        refine wp_append_row _ (.tmp 16) (.tmp 28) 23 rfl w.heap.size 26 i0 _ 2 16 Try.underlying23 hi0 hz0 hz1 hz2 rfl (by decide) (.slice A1 i c1) i (evs (L.take i)) rfl (row_alloc HI.out.1 _) (wr.heap.size + 1) (some ⟨wr.heap.size, 0, none⟩) 1 1 [.int .i64 xf, .int .i64 xc] rfl (vs_of_blk (Blk.new wr 26 #[.int .i64 xf, .int .i64 xc]) (Nat.lt_succ_self _)) rfl (by intro u hu; simp only [List.mem_cons, List.not_mem_nil, or_false] at hu; rcases hu with rfl | rfl <;> rfl) (by omega) (by simp only [maxLen]; omega) (Nat.le_trans HI.out.2.size (by simp)) ?_
        intro v5 w5 hown5 hg5 _
        obtain ⟨A5, c5, rfl, _, _, _, _⟩ := vs_of_row hown5
        have hb5 : Below w.heap.size w w5 := hbA.trans (only_below hg5 hbA.size (fun g' e => (World.ownsRow.lt HI.out.1 g' e).1))
        have hx5 : Below w.heap.size (wr.drew.alloc (.cells #[.int .i64 xf, .int .i64 xc] 26)) w5 := only_below hg5 hbA.size (fun g' e => (World.ownsRow.lt HI.out.1 g' e).1)
        have hS5 : (fun w' => w'.cell? ⟨b, o + i * 2, none⟩ = some (.int .i64 xf) ∧ w'.cell? ⟨b, o + i * 2 + 1, none⟩ = some (.int .i64 xc)) w5 := ⟨(hx5.cell (p := ⟨b, o + i * 2, none⟩) HX.out.2.2.2).trans hSA.1, (hx5.cell (p := ⟨b, o + i * 2 + 1, none⟩) HX.out.2.2.2).trans hSA.2⟩
        refine hK.out _ _ hS5 (fun hHeld => ?_)
        clear hK K
        try simp only [Act.put, List.setIfInBounds_toArray, List.set_cons_zero, List.set_cons_succ]
        refine wpAnyH_take (i := 14) (v := ?_) (List.getElem?_toArray.trans (List.getElem?_cons_succ.trans (List.getElem?_cons_succ.trans (List.getElem?_cons_succ.trans (List.getElem?_cons_succ.trans (List.getElem?_cons_succ.trans (List.getElem?_cons_succ.trans (List.getElem?_cons_succ.trans (List.getElem?_cons_succ.trans (List.getElem?_cons_succ.trans (List.getElem?_cons_succ.trans (List.getElem?_cons_succ.trans (List.getElem?_cons_succ.trans (List.getElem?_cons_succ.trans (List.getElem?_cons_succ.trans (List.getElem?_cons_zero)))))))))))))))) (by kernel_rfl) (by kernel_rfl) (by kernel_rfl) (fun _ _ _ h => h) (Or.inl ⟨by rfl, ?_⟩) (by assumption) ?_
        rotate_left
        · intro w' hSw; (try dsimp only at hSw); go_simp; try with_reducible rfl
        try simp only [Act.put, List.setIfInBounds_toArray, List.set_cons_zero, List.set_cons_succ]
        refine wpAnyH_done (by kernel_rfl) ?_ _
        have HW := Lib.hid (And.intro hown5 hb5)
        clear hown5 hg5 hb5 hx5 hS5 hSA hbA hS0 hHeld hd1 hd2
        go_wp2_with fail
        go_roundw
        case rel =>
          refine ⟨i + 1, A5, c5, by omega, by go_num, rfl, ?_, HW.out.2⟩
          rw [evs_take L i (by rw [H.out.1]; exact hlt), HX.out.1, HX.out.2.1]
          exact HW.out.1
        case measure => simp [intOf]; omega
      · obtain rfl : i = m := by omega
        have hnl : ¬ (i : Int) < (i : Int) := by omega
        have hrow := HI.out.1
        rw [List.take_of_length_le (by rw [H.out.1]; exact Nat.le_refl _)] at hrow
        obtain ⟨A9, c9, hv9, _, _, hvs9, _⟩ := vs_of_row hrow
        injection hv9 with hA9 _ hc9
        subst hA9 hc9
        obtain ⟨q, eq⟩ : ∃ q, apartB L = q := ⟨_, rfl⟩
        have hx := exApart A L i c H.out.1 (by omega) wr ((H.out.2.1.below HI.out.2).more HI.out.2.size) H.out.2.2
        rw [eq] at hx
        have HX := Lib.hid (And.intro hx (And.intro hvs9 eq))
        clear hx hrow hvs9 eq
        go_wp2_with fail
        refine HX.out.1.mono ?_
        rintro e w5 ⟨rfl, hb5⟩
        have hy := refApart_any A1 L i c1 H.out.1 (by omega) w5 ((HX.out.2.1.below hb5).more hb5.size) H.out.2.2
        rw [HX.out.2.2] at hy
        have HY := Lib.hid hy
        have HB5 := Lib.hid (HI.out.2.trans (hb5.mono HI.out.2.size))
        clear hy hb5
        go_wp2_with fail
        refine HY.out.mono ?_
        rintro e w6 ⟨rfl, hb6⟩
        have HB6 := Lib.hid (HB5.out.trans (hb6.mono HB5.out.size))
        clear hb6
        go_wp2_with (first
          | (go_at_call 10; refine (extAwake _).mono ?_; rintro e w' ⟨rfl, hb⟩)
          | fail)
        go_ret
        exact ⟨rfl, HB6.out.trans (hb.mono HB6.out.size)⟩
end Go.Proofs.Ytdhaikcmgegfoaa
