/-
  Package code's wellFormed, by its contract. Conditions: none.
-/
import Derived.Test.YthgiehlfmdobkaaDoorCodeFnN
namespace Go.Proofs.YthgiehlfmdobkaaDoor
open Go.RowKit

/-- a parameter's second and third cell -/
structure Par (g : Nat) (va vb : Value) (W : World) : Prop where
  lt : g < W.heap.size
  a : W.cell? ⟨g, 1, none⟩ = some va
  b : W.cell? ⟨g, 2, none⟩ = some vb
theorem Par.below {g : Nat} {va vb : Value} {W W' : World} (h : Par g va vb W) (hb : Below W.heap.size W W') : Par g va vb W' :=
  ⟨Nat.lt_of_lt_of_le h.lt hb.size, (hb.cell (p := ⟨g, 1, none⟩) h.lt).trans h.a, (hb.cell (p := ⟨g, 2, none⟩) h.lt).trans h.b⟩
theorem par0 (w : World) (v0 va vb vc : Value) (t : TypeId) : Par w.heap.size va vb (w.alloc (.cells #[v0, va, vb, vc] t)) :=
  have h := Blk.new w t #[v0, va, vb, vc]
  ⟨h.lt, by rw [h.cell]; rfl, by rw [h.cell]; rfl⟩

set_option maxHeartbeats 8000000 in
set_option maxRecDepth 100000 in
set_option linter.unusedSimpArgs false in
theorem coFormed (op a b c : Nat) (w : World) : Calls Tryd.prog 30 #[.agg #[.int .u8 (op : Int), .int .u8 (a : Int), .int .u8 (b : Int), .int .u8 (c : Int)]] w (Says w (.bool (formedB ⟨op, a, b, c⟩))) := by
  obtain ⟨r, er⟩ : ∃ r, formedB ⟨op, a, b, c⟩ = r := ⟨_, rfl⟩
  rw [er]
  have fin : ∀ (v : Bool) (W : World), formedB ⟨op, a, b, c⟩ = v → Below w.heap.size w W → Says w (.bool r) (.returned (.bool v)) W := fun v W h1 h2 => ⟨by rw [← h1, er], h2⟩
  clear er
  have cases_op : op = 0 ∨ op = 1 ∨ op = 16 ∨ op = 2 ∨ (op = 3 ∨ op = 4 ∨ op = 5 ∨ op = 6 ∨ op = 7 ∨ op = 8 ∨ op = 9 ∨ op = 10 ∨ op = 11 ∨ op = 12) ∨ op = 13 ∨ op = 14 ∨ op = 15 ∨ op = 17 ∨ 17 < op := by omega
  have ha : ∀ W, Calls Tryd.prog 50 #[.int .u8 (a : Int)] W (Says W (.bool (decide (a < 8)))) := coReg a
  have hb : ∀ W, Calls Tryd.prog 50 #[.int .u8 (b : Int)] W (Says W (.bool (decide (b < 8)))) := coReg b
  have hc : ∀ W, Calls Tryd.prog 50 #[.int .u8 (c : Int)] W (Says W (.bool (decide (c < 8)))) := coReg c
  have hz0 := below_alloc w (.cells #[.int .u8 (op : Int), .int .u8 (a : Int), .int .u8 (b : Int), .int .u8 (c : Int)] 61)
  have dA : ∀ W, Par w.heap.size (.int .u8 (a : Int)) (.int .u8 (b : Int)) W → W.cell? ⟨w.heap.size, 1, none⟩ = some (.int .u8 (a : Int)) := fun W h => h.a
  have dB : ∀ W, Par w.heap.size (.int .u8 (a : Int)) (.int .u8 (b : Int)) W → W.cell? ⟨w.heap.size, 2, none⟩ = some (.int .u8 (b : Int)) := fun W h => h.b
  rcases cases_op with h | h | h | h | h | h | h | h | h | h
  · subst h
    by_cases za : a = 0
    · subst za
      by_cases zb : b = 0
      · subst zb
        by_cases zc : c = 0
        · subst zc
          go_enter Tryd.func30, Tryd.ntmps30
          go_wp2_with fail
          go_ret
          exact fin _ _ ((formed_0 _ _ _).trans (decide_eq_true (by omega))) hz0
        · skip
          have yc : ((c : Int) == 0) = false := by rw [beq_eq_false_iff_ne]; omega
          go_enter Tryd.func30, Tryd.ntmps30
          go_wp2_with fail
          go_ret
          exact fin _ _ ((formed_0 _ _ _).trans (decide_eq_false (by omega))) hz0
      · skip
        have yb : ((b : Int) == 0) = false := by rw [beq_eq_false_iff_ne]; omega
        go_enter Tryd.func30, Tryd.ntmps30
        go_wp2_with fail
        go_ret
        exact fin _ _ ((formed_0 _ _ _).trans (decide_eq_false (by omega))) hz0
    · skip
      have ya : ((a : Int) == 0) = false := by rw [beq_eq_false_iff_ne]; omega
      go_enter Tryd.func30, Tryd.ntmps30
      go_wp2_with fail
      go_ret
      exact fin _ _ ((formed_0 _ _ _).trans (decide_eq_false (by omega))) hz0
  · subst h
    by_cases la : a < 8
    · skip
      rw [decide_eq_true (by omega)] at ha
      go_enter Tryd.func30, Tryd.ntmps30
      go_wp2_with (first
        | (go_at_call 50; refine (ha _).mono ?_; rintro e w1 ⟨rfl, hb1⟩; have hz1 := hz0.trans (hb1.mono hz0.size); have hy1 := Par.below (par0 _ _ _ _ _ _) hb1))
      go_ret
      exact fin _ _ ((formed_1 _ _ _).trans (decide_eq_true (by omega))) hz1
    · skip
      rw [decide_eq_false (by omega)] at ha
      go_enter Tryd.func30, Tryd.ntmps30
      go_wp2_with (first
        | (go_at_call 50; refine (ha _).mono ?_; rintro e w1 ⟨rfl, hb1⟩; have hz1 := hz0.trans (hb1.mono hz0.size); have hy1 := Par.below (par0 _ _ _ _ _ _) hb1))
      go_ret
      exact fin _ _ ((formed_1 _ _ _).trans (decide_eq_false (by omega))) hz1
  · subst h
    by_cases la : a < 8
    · skip
      rw [decide_eq_true (by omega)] at ha
      go_enter Tryd.func30, Tryd.ntmps30
      go_wp2_with (first
        | (go_at_call 50; refine (ha _).mono ?_; rintro e w1 ⟨rfl, hb1⟩; have hz1 := hz0.trans (hb1.mono hz0.size); have hy1 := Par.below (par0 _ _ _ _ _ _) hb1))
      go_ret
      exact fin _ _ ((formed_16 _ _ _).trans (decide_eq_true (by omega))) hz1
    · skip
      rw [decide_eq_false (by omega)] at ha
      go_enter Tryd.func30, Tryd.ntmps30
      go_wp2_with (first
        | (go_at_call 50; refine (ha _).mono ?_; rintro e w1 ⟨rfl, hb1⟩; have hz1 := hz0.trans (hb1.mono hz0.size); have hy1 := Par.below (par0 _ _ _ _ _ _) hb1))
      go_ret
      exact fin _ _ ((formed_16 _ _ _).trans (decide_eq_false (by omega))) hz1
  · subst h
    by_cases zc : c = 0
    · subst zc
      rw [decide_eq_true (by omega)] at hc
      by_cases lb : b < 8
      · skip
        by_cases la : a < 8
        · skip
          rw [decide_eq_true (by omega)] at hb
          rw [decide_eq_true (by omega)] at ha
          go_enter Tryd.func30, Tryd.ntmps30
          go_wp2_with (first
            | (go_at_call 50; have hguard := hz2; clear hguard; refine (ha _).mono ?_; rintro e w3 ⟨rfl, hb3⟩; have hz3 := hz2.trans (hb3.mono hz2.size); have hy3 := Par.below hy2 hb3)
            | (go_at_call 50; have hguard := hz1; clear hguard; refine (hb _).mono ?_; rintro e w2 ⟨rfl, hb2⟩; have hz2 := hz1.trans (hb2.mono hz1.size); have hy2 := Par.below hy1 hb2)
            | (go_at_call 50; refine (hc _).mono ?_; rintro e w1 ⟨rfl, hb1⟩; have hz1 := hz0.trans (hb1.mono hz0.size); have hy1 := Par.below (par0 _ _ _ _ _ _) hb1))
          go_ret
          exact fin _ _ ((formed_2 _ _ _).trans (decide_eq_true (by omega))) hz3
        · skip
          rw [decide_eq_true (by omega)] at hb
          rw [decide_eq_false (by omega)] at ha
          go_enter Tryd.func30, Tryd.ntmps30
          go_wp2_with (first
            | (go_at_call 50; have hguard := hz2; clear hguard; refine (ha _).mono ?_; rintro e w3 ⟨rfl, hb3⟩; have hz3 := hz2.trans (hb3.mono hz2.size); have hy3 := Par.below hy2 hb3)
            | (go_at_call 50; have hguard := hz1; clear hguard; refine (hb _).mono ?_; rintro e w2 ⟨rfl, hb2⟩; have hz2 := hz1.trans (hb2.mono hz1.size); have hy2 := Par.below hy1 hb2)
            | (go_at_call 50; refine (hc _).mono ?_; rintro e w1 ⟨rfl, hb1⟩; have hz1 := hz0.trans (hb1.mono hz0.size); have hy1 := Par.below (par0 _ _ _ _ _ _) hb1))
          go_ret
          exact fin _ _ ((formed_2 _ _ _).trans (decide_eq_false (by omega))) hz3
      · skip
        rw [decide_eq_false (by omega)] at hb
        go_enter Tryd.func30, Tryd.ntmps30
        go_wp2_with (first
          | (go_at_call 50; have hguard := hz1; clear hguard; refine (hb _).mono ?_; rintro e w2 ⟨rfl, hb2⟩; have hz2 := hz1.trans (hb2.mono hz1.size); have hy2 := Par.below hy1 hb2)
          | (go_at_call 50; refine (hc _).mono ?_; rintro e w1 ⟨rfl, hb1⟩; have hz1 := hz0.trans (hb1.mono hz0.size); have hy1 := Par.below (par0 _ _ _ _ _ _) hb1))
        go_ret
        exact fin _ _ ((formed_2 _ _ _).trans (decide_eq_false (by omega))) hz2
    · skip
      have yc : ((c : Int) == 0) = false := by rw [beq_eq_false_iff_ne]; omega
      go_enter Tryd.func30, Tryd.ntmps30
      go_wp2_with fail
      go_ret
      exact fin _ _ ((formed_2 _ _ _).trans (decide_eq_false (by omega))) hz0
  · have hm := formed_mid (op := op) (by omega) (by omega) a b c
    by_cases lc : c < 8
    · skip
      by_cases lb : b < 8
      · skip
        by_cases la : a < 8
        · skip
          rw [decide_eq_true (by omega)] at hc
          rw [decide_eq_true (by omega)] at hb
          rw [decide_eq_true (by omega)] at ha
          have hf := hm.trans (decide_eq_true (by omega))
          clear hm
          rcases h with h | h | h | h | h | h | h | h | h | h
          all_goals
            subst h
            go_enter Tryd.func30, Tryd.ntmps30
            go_wp2_with (first
              | (go_at_call 50; have hguard := hz2; clear hguard; refine (ha _).mono ?_; rintro e w3 ⟨rfl, hb3⟩; have hz3 := hz2.trans (hb3.mono hz2.size); have hy3 := Par.below hy2 hb3)
              | (go_at_call 50; have hguard := hz1; clear hguard; refine (hb _).mono ?_; rintro e w2 ⟨rfl, hb2⟩; have hz2 := hz1.trans (hb2.mono hz1.size); have hy2 := Par.below hy1 hb2)
              | (go_at_call 50; refine (hc _).mono ?_; rintro e w1 ⟨rfl, hb1⟩; have hz1 := hz0.trans (hb1.mono hz0.size); have hy1 := Par.below (par0 _ _ _ _ _ _) hb1))
            go_ret
            exact fin _ _ hf hz3
        · skip
          rw [decide_eq_true (by omega)] at hc
          rw [decide_eq_true (by omega)] at hb
          rw [decide_eq_false (by omega)] at ha
          have hf := hm.trans (decide_eq_false (by omega))
          clear hm
          rcases h with h | h | h | h | h | h | h | h | h | h
          all_goals
            subst h
            go_enter Tryd.func30, Tryd.ntmps30
            go_wp2_with (first
              | (go_at_call 50; have hguard := hz2; clear hguard; refine (ha _).mono ?_; rintro e w3 ⟨rfl, hb3⟩; have hz3 := hz2.trans (hb3.mono hz2.size); have hy3 := Par.below hy2 hb3)
              | (go_at_call 50; have hguard := hz1; clear hguard; refine (hb _).mono ?_; rintro e w2 ⟨rfl, hb2⟩; have hz2 := hz1.trans (hb2.mono hz1.size); have hy2 := Par.below hy1 hb2)
              | (go_at_call 50; refine (hc _).mono ?_; rintro e w1 ⟨rfl, hb1⟩; have hz1 := hz0.trans (hb1.mono hz0.size); have hy1 := Par.below (par0 _ _ _ _ _ _) hb1))
            go_ret
            exact fin _ _ hf hz3
      · skip
        rw [decide_eq_true (by omega)] at hc
        rw [decide_eq_false (by omega)] at hb
        have hf := hm.trans (decide_eq_false (by omega))
        clear hm
        rcases h with h | h | h | h | h | h | h | h | h | h
        all_goals
          subst h
          go_enter Tryd.func30, Tryd.ntmps30
          go_wp2_with (first
            | (go_at_call 50; have hguard := hz1; clear hguard; refine (hb _).mono ?_; rintro e w2 ⟨rfl, hb2⟩; have hz2 := hz1.trans (hb2.mono hz1.size); have hy2 := Par.below hy1 hb2)
            | (go_at_call 50; refine (hc _).mono ?_; rintro e w1 ⟨rfl, hb1⟩; have hz1 := hz0.trans (hb1.mono hz0.size); have hy1 := Par.below (par0 _ _ _ _ _ _) hb1))
          go_ret
          exact fin _ _ hf hz2
    · skip
      rw [decide_eq_false (by omega)] at hc
      have hf := hm.trans (decide_eq_false (by omega))
      clear hm
      rcases h with h | h | h | h | h | h | h | h | h | h
      all_goals
        subst h
        go_enter Tryd.func30, Tryd.ntmps30
        go_wp2_with (first
          | (go_at_call 50; refine (hc _).mono ?_; rintro e w1 ⟨rfl, hb1⟩; have hz1 := hz0.trans (hb1.mono hz0.size); have hy1 := Par.below (par0 _ _ _ _ _ _) hb1))
        go_ret
        exact fin _ _ hf hz1
  · subst h
    by_cases lb : b < 8
    · skip
      by_cases la : a < 8
      · skip
        rw [decide_eq_true (by omega)] at hb
        rw [decide_eq_true (by omega)] at ha
        go_enter Tryd.func30, Tryd.ntmps30
        go_wp2_with (first
          | (go_at_call 50; have hguard := hz1; clear hguard; refine (ha _).mono ?_; rintro e w2 ⟨rfl, hb2⟩; have hz2 := hz1.trans (hb2.mono hz1.size); have hy2 := Par.below hy1 hb2)
          | (go_at_call 50; refine (hb _).mono ?_; rintro e w1 ⟨rfl, hb1⟩; have hz1 := hz0.trans (hb1.mono hz0.size); have hy1 := Par.below (par0 _ _ _ _ _ _) hb1))
        go_ret
        exact fin _ _ ((formed_13 _ _ _).trans (decide_eq_true (by omega))) hz2
      · skip
        rw [decide_eq_true (by omega)] at hb
        rw [decide_eq_false (by omega)] at ha
        go_enter Tryd.func30, Tryd.ntmps30
        go_wp2_with (first
          | (go_at_call 50; have hguard := hz1; clear hguard; refine (ha _).mono ?_; rintro e w2 ⟨rfl, hb2⟩; have hz2 := hz1.trans (hb2.mono hz1.size); have hy2 := Par.below hy1 hb2)
          | (go_at_call 50; refine (hb _).mono ?_; rintro e w1 ⟨rfl, hb1⟩; have hz1 := hz0.trans (hb1.mono hz0.size); have hy1 := Par.below (par0 _ _ _ _ _ _) hb1))
        go_ret
        exact fin _ _ ((formed_13 _ _ _).trans (decide_eq_false (by omega))) hz2
    · skip
      rw [decide_eq_false (by omega)] at hb
      go_enter Tryd.func30, Tryd.ntmps30
      go_wp2_with (first
        | (go_at_call 50; refine (hb _).mono ?_; rintro e w1 ⟨rfl, hb1⟩; have hz1 := hz0.trans (hb1.mono hz0.size); have hy1 := Par.below (par0 _ _ _ _ _ _) hb1))
      go_ret
      exact fin _ _ ((formed_13 _ _ _).trans (decide_eq_false (by omega))) hz1
  · subst h
    by_cases lb : b < 8
    · skip
      by_cases la : a < 8
      · skip
        rw [decide_eq_true (by omega)] at hb
        rw [decide_eq_true (by omega)] at ha
        go_enter Tryd.func30, Tryd.ntmps30
        go_wp2_with (first
          | (go_at_call 50; have hguard := hz1; clear hguard; refine (ha _).mono ?_; rintro e w2 ⟨rfl, hb2⟩; have hz2 := hz1.trans (hb2.mono hz1.size); have hy2 := Par.below hy1 hb2)
          | (go_at_call 50; refine (hb _).mono ?_; rintro e w1 ⟨rfl, hb1⟩; have hz1 := hz0.trans (hb1.mono hz0.size); have hy1 := Par.below (par0 _ _ _ _ _ _) hb1))
        go_ret
        exact fin _ _ ((formed_14 _ _ _).trans (decide_eq_true (by omega))) hz2
      · skip
        rw [decide_eq_true (by omega)] at hb
        rw [decide_eq_false (by omega)] at ha
        go_enter Tryd.func30, Tryd.ntmps30
        go_wp2_with (first
          | (go_at_call 50; have hguard := hz1; clear hguard; refine (ha _).mono ?_; rintro e w2 ⟨rfl, hb2⟩; have hz2 := hz1.trans (hb2.mono hz1.size); have hy2 := Par.below hy1 hb2)
          | (go_at_call 50; refine (hb _).mono ?_; rintro e w1 ⟨rfl, hb1⟩; have hz1 := hz0.trans (hb1.mono hz0.size); have hy1 := Par.below (par0 _ _ _ _ _ _) hb1))
        go_ret
        exact fin _ _ ((formed_14 _ _ _).trans (decide_eq_false (by omega))) hz2
    · skip
      rw [decide_eq_false (by omega)] at hb
      go_enter Tryd.func30, Tryd.ntmps30
      go_wp2_with (first
        | (go_at_call 50; refine (hb _).mono ?_; rintro e w1 ⟨rfl, hb1⟩; have hz1 := hz0.trans (hb1.mono hz0.size); have hy1 := Par.below (par0 _ _ _ _ _ _) hb1))
      go_ret
      exact fin _ _ ((formed_14 _ _ _).trans (decide_eq_false (by omega))) hz1
  · subst h
    by_cases za : a = 0
    · subst za
      go_enter Tryd.func30, Tryd.ntmps30
      go_wp2_with fail
      go_ret
      exact fin _ _ ((formed_15 _ _ _).trans (decide_eq_true (by omega))) hz0
    · skip
      have ya : ((a : Int) == 0) = false := by rw [beq_eq_false_iff_ne]; omega
      go_enter Tryd.func30, Tryd.ntmps30
      go_wp2_with fail
      go_ret
      exact fin _ _ ((formed_15 _ _ _).trans (decide_eq_false (by omega))) hz0
  · subst h
    by_cases l16 : a < 16
    · have m16 : (a : Int) < 16 := by omega
      by_cases zb : b = 0
      · subst zb
        by_cases zc : c = 0
        · subst zc
          go_enter Tryd.func30, Tryd.ntmps30
          go_wp2_with fail
          go_ret
          exact fin _ _ ((formed_17 _ _ _).trans (decide_eq_true (by omega))) hz0
        · skip
          have yc : ((c : Int) == 0) = false := by rw [beq_eq_false_iff_ne]; omega
          go_enter Tryd.func30, Tryd.ntmps30
          go_wp2_with fail
          go_ret
          exact fin _ _ ((formed_17 _ _ _).trans (decide_eq_false (by omega))) hz0
      · skip
        have yb : ((b : Int) == 0) = false := by rw [beq_eq_false_iff_ne]; omega
        go_enter Tryd.func30, Tryd.ntmps30
        go_wp2_with fail
        go_ret
        exact fin _ _ ((formed_17 _ _ _).trans (decide_eq_false (by omega))) hz0
    · have m16 : ¬ (a : Int) < 16 := by omega
      go_enter Tryd.func30, Tryd.ntmps30
      go_wp2_with fail
      go_ret
      exact fin _ _ ((formed_17 _ _ _).trans (decide_eq_false (by omega))) hz0
  · skip
    have n0 : ((op : Int) == 0) = false := by rw [beq_eq_false_iff_ne]; omega
    have n1 : ((op : Int) == 1) = false := by rw [beq_eq_false_iff_ne]; omega
    have n2 : ((op : Int) == 2) = false := by rw [beq_eq_false_iff_ne]; omega
    have n3 : ((op : Int) == 3) = false := by rw [beq_eq_false_iff_ne]; omega
    have n4 : ((op : Int) == 4) = false := by rw [beq_eq_false_iff_ne]; omega
    have n5 : ((op : Int) == 5) = false := by rw [beq_eq_false_iff_ne]; omega
    have n6 : ((op : Int) == 6) = false := by rw [beq_eq_false_iff_ne]; omega
    have n7 : ((op : Int) == 7) = false := by rw [beq_eq_false_iff_ne]; omega
    have n8 : ((op : Int) == 8) = false := by rw [beq_eq_false_iff_ne]; omega
    have n9 : ((op : Int) == 9) = false := by rw [beq_eq_false_iff_ne]; omega
    have n10 : ((op : Int) == 10) = false := by rw [beq_eq_false_iff_ne]; omega
    have n11 : ((op : Int) == 11) = false := by rw [beq_eq_false_iff_ne]; omega
    have n12 : ((op : Int) == 12) = false := by rw [beq_eq_false_iff_ne]; omega
    have n13 : ((op : Int) == 13) = false := by rw [beq_eq_false_iff_ne]; omega
    have n14 : ((op : Int) == 14) = false := by rw [beq_eq_false_iff_ne]; omega
    have n15 : ((op : Int) == 15) = false := by rw [beq_eq_false_iff_ne]; omega
    have n16 : ((op : Int) == 16) = false := by rw [beq_eq_false_iff_ne]; omega
    have n17 : ((op : Int) == 17) = false := by rw [beq_eq_false_iff_ne]; omega
    go_enter Tryd.func30, Tryd.ntmps30
    go_wp2_with fail
    go_ret
    exact fin _ _ (formed_big h _ _ _) hz0
end Go.Proofs.YthgiehlfmdobkaaDoor
