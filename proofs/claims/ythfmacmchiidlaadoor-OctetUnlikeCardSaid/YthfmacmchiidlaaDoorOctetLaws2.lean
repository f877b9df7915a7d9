/-
  The law OctetUnlike answers true and turns nothing that was there. Condition: errors.errorType holds the handle of the type error.
-/
import Derived.Test.YthfmacmchiidlaaDoorOctetLaws
namespace Go.Proofs.YthfmacmchiidlaaDoor
open Go.RowKit Go.Extern.Stop Go.Stop Go.Extern

theorem same_false (A B : Option Addr) (l m : List UInt8) (n k c d b1 b2 : Nat) (w : World) (hl : l.length = n) (hm : m.length = k) (ha : Bs w b1 A l) (hb : Bs w b2 B m) (he : l ≠ m) :
    Calls Tryd.prog 9 #[.slice A n c, .slice B k d] w fun e w' => e = .returned (.bool false) ∧ w = w' := by
  subst hl hm
  refine (same_any A B l m c d b1 b2 w ha hb).mono ?_
  rintro e w' ⟨rfl, rfl⟩
  exact ⟨by simp [he], rfl⟩

/-- the part behind the reduction: both numbers fit -/
theorem unlike_lists {n m s : Nat} (hn : n < 256 ^ s) (hm : m < 256 ^ s) : (leB n s = leB m s) ↔ n = m := ⟨fun h => leB_inj hn hm h, fun h => by rw [h]⟩

set_option maxRecDepth 100000 in
set_option maxHeartbeats 2000000 in
theorem octetUnlike_calls (n m : Nat) (k : Int) (w : World) (hn : n < 18446744073709551616) (hm : m < 18446744073709551616) (hg0 : w.cell? gErr = some hErr) :
    Calls Tryd.prog 6 #[.int .u64 n, .int .u64 m, .int .i64 k] w fun ev w' => ev = .returned (.bool true) ∧ Below w.heap.size w w' := by
  by_cases h : 1 ≤ k ∧ k ≤ 8
  · obtain ⟨s, rfl⟩ : ∃ s : Nat, k = s := ⟨k.toNat, by omega⟩
    obtain ⟨h1, h8⟩ := h
    by_cases h7 : s < 8
    · have p1 : IntKind.i64.wrap (8 * (s : Int)) = 8 * (s : Int) := IntWalk.i64_in _ (by omega)
      have p2 : IntKind.u64.wrap (8 * (s : Int)) = 8 * (s : Int) := by rw [IntKind.wrap_u64]; omega
      obtain ⟨P, hP⟩ : ∃ P : Nat, P = 256 ^ s := ⟨_, rfl⟩
      have hP1 : P ≤ 256 ^ 7 := by rw [hP]; exact Nat.pow_le_pow_right (by decide) (by omega)
      have hP0 : 0 < P := by rw [hP]; exact Nat.pow_pos (by decide)
      have p3 : IntKind.u64.wrap (2 ^ (8 * (s : Int)).toNat) = (P : Int) := by
        have e1 : (8 * (s : Int)).toNat = 8 * s := by omega
        have e2 : (2 : Int) ^ (8 * s) = ((256 ^ s : Nat) : Int) := by
          rw [Int.pow_mul]; push_cast; rfl
        rw [e1, e2, ← hP, IntKind.wrap_u64]
        omega
      have p4 : (1 : Int) ≤ P := by omega
      have p5 : (P : Int) ≤ 72057594037927936 := by omega
      have HP := Lib.hid hP
      clear hP hP1
      have HW := Lib.hid hn
      have HM := Lib.hid hm
      have HG := Lib.hid hg0
      clear hn hm hg0
      have h7' : (s : Int) < 8 := by omega
      have HX1 := Lib.hid (show n % P < 18446744073709551616 from Nat.lt_of_le_of_lt (Nat.mod_le _ _) HW.out)
      have HY1 := Lib.hid (show m % P < 18446744073709551616 from Nat.lt_of_le_of_lt (Nat.mod_le _ _) HM.out)
      have HX2 := Lib.hid (show n % P < 256 ^ s from HP.out ▸ Nat.mod_lt _ hP0)
      have HY2 := Lib.hid (show m % P < 256 ^ s from HP.out ▸ Nat.mod_lt _ hP0)
      have HXe := Lib.hid (show ((n : Int) % (P : Int)) = ((n % P : Nat) : Int) by simp)
      have HYe := Lib.hid (show ((m : Int) % (P : Int)) = ((m % P : Nat) : Int) by simp)
      obtain ⟨x, hx⟩ : ∃ x, x = n % P := ⟨_, rfl⟩
      obtain ⟨y, hy⟩ : ∃ y, y = m % P := ⟨_, rfl⟩
      rw [← hx] at HX1 HX2 HXe
      rw [← hy] at HY1 HY2 HYe
      clear hx hy HW HM
      have hd1 : decide ((s : Int) < 1) = false := by simp; omega
      have hd2 : decide (8 < (s : Int)) = false := by simp; omega
      go_enter Tryd.func6, Tryd.ntmps6
      go_wp2_with fail
      go_quiet (fail)
      rw [HXe.out, HYe.out]
      clear p1 p2 p3 p4 p5 HXe HYe HP hP0
      by_cases hxy : x = y
      · subst hxy
        clear HY1 HY2
        have HY1 := HX1
        have HPx := Lib.hid fun w => put_yes x s w HX1.out (by omega) (by omega)
        have HPy := Lib.hid fun w => put_yes x s w HY1.out (by omega) (by omega)
        go_wp2_with fail
        refine (HPx.out _).mono ?_
        intro e w1 hp1
        obtain ⟨rfl, hs1, hb1⟩ := hp1.bs (by omega)
        clear hp1
        go_wp2_with fail
        refine (HPy.out _).mono ?_
        intro e w2 hp2
        obtain ⟨rfl, hs2, hb2⟩ := hp2.bs (by omega)
        clear hp2
        go_wp2_with fail
        refine (get_is (some ⟨(w.drewN nq).heap.size, 0, none⟩) (leB x s) s x s w1.heap.size _ (hs1.below hb2) (leB_length _ _) (by rw [leN_leB, Nat.mod_eq_of_lt HX2.out]) (by rw [leB_length]; omega) (by rw [leB_length]; omega)).mono ?_
        rintro e w' ⟨rfl, rfl⟩
        have z1 := hb1.size
        have z2 := hb2.size
        have hB2 : Below w.heap.size w w2 := ((below_drewN (Below.refl _ _) nq).trans hb1).trans (hb2.mono hb1.size)
        go_wp2_with fail
        refine (awake_true w2 ((hB2.cell (p := gErr) (cell_size HG.out)).trans HG.out)).mono ?_
        rintro e w3 ⟨rfl, hb3⟩
        go_wp2_with fail
        refine (same_true (some ⟨(w.drewN nq).heap.size, 0, none⟩) (some ⟨w1.heap.size, 0, none⟩) (leB x s) (leB x s) s s s s w1.heap.size w2.heap.size _ (leB_length _ _) (leB_length _ _) ((hs1.below hb2).below (hb3.mono z2)) (hs2.below hb3) rfl).mono ?_
        rintro e w' ⟨rfl, rfl⟩
        go_wp2_with fail
        go_ret
        exact ⟨rfl, hB2.trans (hb3.mono hB2.size)⟩
      · have HE := Lib.hid (show leB x s ≠ leB y s from fun h => hxy (leB_inj HX2.out HY2.out h))
        have hne : ((x : Int) == (y : Int)) = false := by simp; omega
        have hne' : ¬ (x : Int) = y := by omega
        have HPx := Lib.hid fun w => put_yes x s w HX1.out (by omega) (by omega)
        have HPy := Lib.hid fun w => put_yes y s w HY1.out (by omega) (by omega)
        go_wp2_with fail
        refine (HPx.out _).mono ?_
        intro e w1 hp1
        obtain ⟨rfl, hs1, hb1⟩ := hp1.bs (by omega)
        clear hp1
        go_wp2_with fail
        refine (HPy.out _).mono ?_
        intro e w2 hp2
        obtain ⟨rfl, hs2, hb2⟩ := hp2.bs (by omega)
        clear hp2
        go_wp2_with fail
        refine (get_is (some ⟨(w.drewN nq).heap.size, 0, none⟩) (leB x s) s x s w1.heap.size _ (hs1.below hb2) (leB_length _ _) (by rw [leN_leB, Nat.mod_eq_of_lt HX2.out]) (by rw [leB_length]; omega) (by rw [leB_length]; omega)).mono ?_
        rintro e w' ⟨rfl, rfl⟩
        have z1 := hb1.size
        have z2 := hb2.size
        have hB2 : Below w.heap.size w w2 := ((below_drewN (Below.refl _ _) nq).trans hb1).trans (hb2.mono hb1.size)
        go_wp2_with fail
        refine (awake_true w2 ((hB2.cell (p := gErr) (cell_size HG.out)).trans HG.out)).mono ?_
        rintro e w3 ⟨rfl, hb3⟩
        go_wp2_with fail
        refine (same_false (some ⟨(w.drewN nq).heap.size, 0, none⟩) (some ⟨w1.heap.size, 0, none⟩) (leB x s) (leB y s) s s s s w1.heap.size w2.heap.size _ (leB_length _ _) (leB_length _ _) ((hs1.below hb2).below (hb3.mono z2)) (hs2.below hb3) HE.out).mono ?_
        rintro e w' ⟨rfl, rfl⟩
        go_wp2_with fail
        go_ret
        exact ⟨rfl, hB2.trans (hb3.mono hB2.size)⟩
    · obtain rfl : s = 8 := by omega
      obtain ⟨x, rfl⟩ : ∃ x, x = n := ⟨_, rfl⟩
      obtain ⟨y, rfl⟩ : ∃ y, y = m := ⟨_, rfl⟩
      have HX1 := Lib.hid hn
      have HY1 := Lib.hid hm
      have HX2 := Lib.hid (show x < 256 ^ 8 from hn)
      have HY2 := Lib.hid (show y < 256 ^ 8 from hm)
      have HG := Lib.hid hg0
      clear hn hm hg0
      go_enter Tryd.func6, Tryd.ntmps6
      go_wp2_with fail
      by_cases hxy : x = y
      · subst hxy
        clear HY1 HY2
        have HY1 := HX1
        have HPx := Lib.hid fun w => put_yes x 8 w HX1.out (by omega) (by omega)
        have HPy := Lib.hid fun w => put_yes x 8 w HY1.out (by omega) (by omega)
        go_wp2_with fail
        refine (HPx.out _).mono ?_
        intro e w1 hp1
        obtain ⟨rfl, hs1, hb1⟩ := hp1.bs (by omega)
        clear hp1
        go_wp2_with fail
        refine (HPy.out _).mono ?_
        intro e w2 hp2
        obtain ⟨rfl, hs2, hb2⟩ := hp2.bs (by omega)
        clear hp2
        go_wp2_with fail
        refine (get_is (some ⟨(w).heap.size, 0, none⟩) (leB x 8) 8 x 8 w1.heap.size _ (hs1.below hb2) (leB_length _ _) (by rw [leN_leB, Nat.mod_eq_of_lt HX2.out]) (by rw [leB_length]; omega) (by rw [leB_length]; omega)).mono ?_
        rintro e w' ⟨rfl, rfl⟩
        have z1 := hb1.size
        have z2 := hb2.size
        have hB2 : Below w.heap.size w w2 := (hb1).trans (hb2.mono hb1.size)
        go_wp2_with fail
        refine (awake_true w2 ((hB2.cell (p := gErr) (cell_size HG.out)).trans HG.out)).mono ?_
        rintro e w3 ⟨rfl, hb3⟩
        go_wp2_with fail
        refine (same_true (some ⟨(w).heap.size, 0, none⟩) (some ⟨w1.heap.size, 0, none⟩) (leB x 8) (leB x 8) 8 8 8 8 w1.heap.size w2.heap.size _ (leB_length _ _) (leB_length _ _) ((hs1.below hb2).below (hb3.mono z2)) (hs2.below hb3) rfl).mono ?_
        rintro e w' ⟨rfl, rfl⟩
        go_wp2_with fail
        go_ret
        exact ⟨rfl, hB2.trans (hb3.mono hB2.size)⟩
      · have HE := Lib.hid (show leB x 8 ≠ leB y 8 from fun h => hxy (leB_inj HX2.out HY2.out h))
        have hne : ((x : Int) == (y : Int)) = false := by simp; omega
        have hne' : ¬ (x : Int) = y := by omega
        have HPx := Lib.hid fun w => put_yes x 8 w HX1.out (by omega) (by omega)
        have HPy := Lib.hid fun w => put_yes y 8 w HY1.out (by omega) (by omega)
        go_wp2_with fail
        refine (HPx.out _).mono ?_
        intro e w1 hp1
        obtain ⟨rfl, hs1, hb1⟩ := hp1.bs (by omega)
        clear hp1
        go_wp2_with fail
        refine (HPy.out _).mono ?_
        intro e w2 hp2
        obtain ⟨rfl, hs2, hb2⟩ := hp2.bs (by omega)
        clear hp2
        go_wp2_with fail
        refine (get_is (some ⟨(w).heap.size, 0, none⟩) (leB x 8) 8 x 8 w1.heap.size _ (hs1.below hb2) (leB_length _ _) (by rw [leN_leB, Nat.mod_eq_of_lt HX2.out]) (by rw [leB_length]; omega) (by rw [leB_length]; omega)).mono ?_
        rintro e w' ⟨rfl, rfl⟩
        have z1 := hb1.size
        have z2 := hb2.size
        have hB2 : Below w.heap.size w w2 := (hb1).trans (hb2.mono hb1.size)
        go_wp2_with fail
        refine (awake_true w2 ((hB2.cell (p := gErr) (cell_size HG.out)).trans HG.out)).mono ?_
        rintro e w3 ⟨rfl, hb3⟩
        go_wp2_with fail
        refine (same_false (some ⟨(w).heap.size, 0, none⟩) (some ⟨w1.heap.size, 0, none⟩) (leB x 8) (leB y 8) 8 8 8 8 w1.heap.size w2.heap.size _ (leB_length _ _) (leB_length _ _) ((hs1.below hb2).below (hb3.mono z2)) (hs2.below hb3) HE.out).mono ?_
        rintro e w' ⟨rfl, rfl⟩
        go_wp2_with fail
        go_ret
        exact ⟨rfl, hB2.trans (hb3.mono hB2.size)⟩
  · have HA := Lib.hid (awake_true w hg0)
    have HP := Lib.hid fun w => put_no n k w (by omega)
    have hk : k < 1 ∨ 8 < k := by omega
    clear hn hm hg0 h
    by_cases h1 : k < 1
    · go_enter Tryd.func6, Tryd.ntmps6
      go_wp2_with fail
      refine HA.out.mono ?_
      rintro e w0 ⟨rfl, hb0⟩
      go_wp2_with fail
      refine (HP.out _).mono ?_
      rintro e w' ⟨rfl, rfl⟩
      go_wp2_with fail
      go_ret
      exact ⟨rfl, hb0⟩
    · have h2 : 8 < k := by omega
      go_enter Tryd.func6, Tryd.ntmps6
      go_wp2_with fail
      refine HA.out.mono ?_
      rintro e w0 ⟨rfl, hb0⟩
      go_wp2_with fail
      refine (HP.out _).mono ?_
      rintro e w' ⟨rfl, rfl⟩
      go_wp2_with fail
      go_ret
      exact ⟨rfl, hb0⟩
end Go.Proofs.YthfmacmchiidlaaDoor
