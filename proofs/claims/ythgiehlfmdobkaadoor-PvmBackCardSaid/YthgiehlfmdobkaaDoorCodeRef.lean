/-
  The programs' reference: Number, Formed, by their contracts. Conditions: four bytes.
-/
import Derived.Test.YthgiehlfmdobkaaDoorCodeMath
import Derived.BigQuiet
namespace Go.Proofs.YthgiehlfmdobkaaDoor
open Go.RowKit

/-- what a call answers that only reads -/
def Says (w : World) (v : Value) (e : Ending) (w' : World) : Prop := e = .returned v ∧ Below w.heap.size w w'

set_option linter.unusedSimpArgs false in
theorem refNumber7 (op a b c : Nat) (hb : b < 256) (hc : c < 256) (w : World) : Calls Tryd.prog 45 #[.agg #[.int .u8 (op : Int), .int .u8 (a : Int), .int .u8 (b : Int), .int .u8 (c : Int)]] w (Says w (.int .i64 (Ins.numS ⟨op, a, b, c⟩))) := by
  obtain ⟨n, en⟩ : ∃ n, b + 256 * c = n := ⟨_, rfl⟩
  have e1 : IntKind.i64.wrap (b : Int) = b := IntWalk.i64_in _ (by omega)
  have e2 : IntKind.i64.wrap (c : Int) = c := IntWalk.i64_in _ (by omega)
  have e3 : IntKind.i64.wrap (256 * (c : Int)) = 256 * (c : Int) := IntWalk.i64_in _ (by omega)
  have e4 : IntKind.i64.wrap ((b : Int) + 256 * (c : Int)) = (n : Int) := (IntWalk.i64_in _ (by omega)).trans (by omega)
  have e6 : (b : Int) + 256 * (c : Int) = (n : Int) := by omega
  have e5 : IntKind.i64.wrap ((n : Int) - 65536) = (n : Int) - 65536 := IntWalk.i64_in _ (by omega)
  obtain ⟨z, ez⟩ : ∃ z, Ins.numS ⟨op, a, b, c⟩ = z := ⟨_, rfl⟩
  rw [ez]
  have HN : (if op = 1 ∧ 32768 ≤ n then (n : Int) - 65536 else n) = z := by rw [← ez]; unfold Ins.numS Ins.num; simp only [en]
  clear ez
  by_cases h1 : op = 1
  · by_cases h2 : 32768 ≤ n
    · rw [if_pos ⟨h1, h2⟩] at HN
      subst h1 HN
      have h3 : (n : Int) ≥ 32768 := by omega
      go_enter Tryd.func45, Tryd.ntmps45
      go_wp2_with fail
      go_ret
      exact ⟨rfl, below_alloc w _⟩
    · rw [if_neg (by omega)] at HN
      subst h1 HN
      have h3 : ¬ (n : Int) ≥ 32768 := by omega
      go_enter Tryd.func45, Tryd.ntmps45
      go_wp2_with fail
      go_ret
      exact ⟨rfl, below_alloc w _⟩
  · rw [if_neg (by omega)] at HN
    subst HN
    have h3 : ¬ (op : Int) = 1 := by omega
    go_enter Tryd.func45, Tryd.ntmps45
    go_wp2_with fail
    go_ret
    exact ⟨rfl, below_alloc w _⟩

/-- the three bounds of a byte, decided -/
theorem small3 (a b c : Nat) : ∃ pa pb pc : Bool, decide ((a : Int) < 8) = pa ∧ decide ((b : Int) < 8) = pb ∧ decide ((c : Int) < 8) = pc := ⟨_, _, _, rfl, rfl, rfl⟩
set_option maxHeartbeats 8000000 in
set_option maxRecDepth 100000 in
set_option linter.unusedSimpArgs false in
theorem refFormed (op a b c : Nat) (w : World) : Calls Tryd.prog 44 #[.agg #[.int .u8 (op : Int), .int .u8 (a : Int), .int .u8 (b : Int), .int .u8 (c : Int)]] w (Says w (.bool (formedB ⟨op, a, b, c⟩))) := by
  obtain ⟨r, er⟩ : ∃ r, formedB ⟨op, a, b, c⟩ = r := ⟨_, rfl⟩
  rw [er]
  have fin : ∀ (v : Bool) (W : World), formedB ⟨op, a, b, c⟩ = v → Below w.heap.size w W → Says w (.bool r) (.returned (.bool v)) W := fun v W h1 h2 => ⟨by rw [← h1, er], h2⟩
  clear er
  have cases_op : op = 0 ∨ (op = 1 ∨ op = 16) ∨ op = 2 ∨ (3 ≤ op ∧ op ≤ 12) ∨ (op = 13 ∨ op = 14) ∨ op = 15 ∨ op = 17 ∨ 17 < op := by omega
  obtain ⟨pa, pb, pc, ea, eb, ec⟩ := small3 a b c
  go_enter Tryd.func44, Tryd.ntmps44
  go_wp2_with fail
  go_quiet (fail)
  rcases cases_op with h | h | h | h | h | h | h | h
  · subst h
    by_cases za : a = 0
    · subst za
      by_cases zb : b = 0
      · subst zb
        by_cases zc : c = 0
        · subst zc
          go_wp2_with fail
          go_ret
          exact fin _ _ ((formed_0 _ _ _).trans (decide_eq_true (by omega))) (below_drewN (below_alloc w _) nq)
        · have yc : ((c : Int) == 0) = false := by rw [beq_eq_false_iff_ne]; omega
          go_wp2_with fail
          go_ret
          exact fin _ _ ((formed_0 _ _ _).trans (decide_eq_false (by omega))) (below_drewN (below_alloc w _) nq)
      · have yb : ((b : Int) == 0) = false := by rw [beq_eq_false_iff_ne]; omega
        go_wp2_with fail
        go_ret
        exact fin _ _ ((formed_0 _ _ _).trans (decide_eq_false (by omega))) (below_drewN (below_alloc w _) nq)
    · have ya : ((a : Int) == 0) = false := by rw [beq_eq_false_iff_ne]; omega
      go_wp2_with fail
      go_ret
      exact fin _ _ ((formed_0 _ _ _).trans (decide_eq_false (by omega))) (below_drewN (below_alloc w _) nq)
  · rcases h with h | h
    · subst h
      go_wp2_with fail
      go_ret
      exact fin _ _ ((formed_1 _ _ _).trans (by rw [← ea]; exact decide_eq_decide.2 (by omega))) (below_drewN (below_alloc w _) nq)
    · subst h
      go_wp2_with fail
      go_ret
      exact fin _ _ ((formed_16 _ _ _).trans (by rw [← ea]; exact decide_eq_decide.2 (by omega))) (below_drewN (below_alloc w _) nq)
  · subst h
    by_cases la : a < 8
    · obtain rfl : pa = true := by rw [← ea]; exact decide_eq_true (by omega)
      by_cases lb : b < 8
      · obtain rfl : pb = true := by rw [← eb]; exact decide_eq_true (by omega)
        by_cases zc : c = 0
        · subst zc
          go_wp2_with fail
          go_ret
          exact fin _ _ ((formed_2 _ _ _).trans (decide_eq_true (by omega))) (below_drewN (below_alloc w _) nq)
        · have yc : ((c : Int) == 0) = false := by rw [beq_eq_false_iff_ne]; omega
          go_wp2_with fail
          go_ret
          exact fin _ _ ((formed_2 _ _ _).trans (decide_eq_false (by omega))) (below_drewN (below_alloc w _) nq)
      · obtain rfl : pb = false := by rw [← eb]; exact decide_eq_false (by omega)
        go_wp2_with fail
        go_ret
        exact fin _ _ ((formed_2 _ _ _).trans (decide_eq_false (by omega))) (below_drewN (below_alloc w _) nq)
    · obtain rfl : pa = false := by rw [← ea]; exact decide_eq_false (by omega)
      go_wp2_with fail
      go_ret
      exact fin _ _ ((formed_2 _ _ _).trans (decide_eq_false (by omega))) (below_drewN (below_alloc w _) nq)
  · obtain ⟨g1, g2⟩ := h
    have bop0 : ((op : Int) == 0) = false := by rw [beq_eq_false_iff_ne]; omega
    have bop1 : ((op : Int) == 1) = false := by rw [beq_eq_false_iff_ne]; omega
    have bop2 : ((op : Int) == 2) = false := by rw [beq_eq_false_iff_ne]; omega
    have bop16 : ((op : Int) == 16) = false := by rw [beq_eq_false_iff_ne]; omega
    have g3 : (op : Int) ≥ 3 := by omega
    have g4 : (op : Int) ≤ 12 := by omega
    by_cases la : a < 8
    · obtain rfl : pa = true := by rw [← ea]; exact decide_eq_true (by omega)
      by_cases lb : b < 8
      · obtain rfl : pb = true := by rw [← eb]; exact decide_eq_true (by omega)
        by_cases lc : c < 8
        · obtain rfl : pc = true := by rw [← ec]; exact decide_eq_true (by omega)
          go_wp2_with fail
          go_ret
          exact fin _ _ ((formed_mid g1 g2 _ _ _).trans (decide_eq_true (by omega))) (below_drewN (below_alloc w _) nq)
        · obtain rfl : pc = false := by rw [← ec]; exact decide_eq_false (by omega)
          go_wp2_with fail
          go_ret
          exact fin _ _ ((formed_mid g1 g2 _ _ _).trans (decide_eq_false (by omega))) (below_drewN (below_alloc w _) nq)
      · obtain rfl : pb = false := by rw [← eb]; exact decide_eq_false (by omega)
        go_wp2_with fail
        go_ret
        exact fin _ _ ((formed_mid g1 g2 _ _ _).trans (decide_eq_false (by omega))) (below_drewN (below_alloc w _) nq)
    · obtain rfl : pa = false := by rw [← ea]; exact decide_eq_false (by omega)
      go_wp2_with fail
      go_ret
      exact fin _ _ ((formed_mid g1 g2 _ _ _).trans (decide_eq_false (by omega))) (below_drewN (below_alloc w _) nq)
  · rcases h with h | h
    · subst h
      by_cases la : a < 8
      · obtain rfl : pa = true := by rw [← ea]; exact decide_eq_true (by omega)
        by_cases lb : b < 8
        · obtain rfl : pb = true := by rw [← eb]; exact decide_eq_true (by omega)
          go_wp2_with fail
          go_ret
          exact fin _ _ ((formed_13 _ _ _).trans (decide_eq_true (by omega))) (below_drewN (below_alloc w _) nq)
        · obtain rfl : pb = false := by rw [← eb]; exact decide_eq_false (by omega)
          go_wp2_with fail
          go_ret
          exact fin _ _ ((formed_13 _ _ _).trans (decide_eq_false (by omega))) (below_drewN (below_alloc w _) nq)
      · obtain rfl : pa = false := by rw [← ea]; exact decide_eq_false (by omega)
        go_wp2_with fail
        go_ret
        exact fin _ _ ((formed_13 _ _ _).trans (decide_eq_false (by omega))) (below_drewN (below_alloc w _) nq)
    · subst h
      by_cases la : a < 8
      · obtain rfl : pa = true := by rw [← ea]; exact decide_eq_true (by omega)
        by_cases lb : b < 8
        · obtain rfl : pb = true := by rw [← eb]; exact decide_eq_true (by omega)
          go_wp2_with fail
          go_ret
          exact fin _ _ ((formed_14 _ _ _).trans (decide_eq_true (by omega))) (below_drewN (below_alloc w _) nq)
        · obtain rfl : pb = false := by rw [← eb]; exact decide_eq_false (by omega)
          go_wp2_with fail
          go_ret
          exact fin _ _ ((formed_14 _ _ _).trans (decide_eq_false (by omega))) (below_drewN (below_alloc w _) nq)
      · obtain rfl : pa = false := by rw [← ea]; exact decide_eq_false (by omega)
        go_wp2_with fail
        go_ret
        exact fin _ _ ((formed_14 _ _ _).trans (decide_eq_false (by omega))) (below_drewN (below_alloc w _) nq)
  · subst h
    by_cases za : a = 0
    · subst za
      go_wp2_with fail
      go_ret
      exact fin _ _ ((formed_15 _ _ _).trans (decide_eq_true (by omega))) (below_drewN (below_alloc w _) nq)
    · have ya : ((a : Int) == 0) = false := by rw [beq_eq_false_iff_ne]; omega
      go_wp2_with fail
      go_ret
      exact fin _ _ ((formed_15 _ _ _).trans (decide_eq_false (by omega))) (below_drewN (below_alloc w _) nq)
  · subst h
    by_cases l16 : a < 16
    · have m16 : (a : Int) < 16 := by omega
      by_cases zb : b = 0
      · subst zb
        by_cases zc : c = 0
        · subst zc
          go_wp2_with fail
          go_ret
          exact fin _ _ ((formed_17 _ _ _).trans (decide_eq_true (by omega))) (below_drewN (below_alloc w _) nq)
        · have yc : ((c : Int) == 0) = false := by rw [beq_eq_false_iff_ne]; omega
          go_wp2_with fail
          go_ret
          exact fin _ _ ((formed_17 _ _ _).trans (decide_eq_false (by omega))) (below_drewN (below_alloc w _) nq)
      · have yb : ((b : Int) == 0) = false := by rw [beq_eq_false_iff_ne]; omega
        go_wp2_with fail
        go_ret
        exact fin _ _ ((formed_17 _ _ _).trans (decide_eq_false (by omega))) (below_drewN (below_alloc w _) nq)
    · have m16 : ¬ (a : Int) < 16 := by omega
      go_wp2_with fail
      go_ret
      exact fin _ _ ((formed_17 _ _ _).trans (decide_eq_false (by omega))) (below_drewN (below_alloc w _) nq)
  · skip
    have bop0 : ((op : Int) == 0) = false := by rw [beq_eq_false_iff_ne]; omega
    have bop1 : ((op : Int) == 1) = false := by rw [beq_eq_false_iff_ne]; omega
    have bop2 : ((op : Int) == 2) = false := by rw [beq_eq_false_iff_ne]; omega
    have bop16 : ((op : Int) == 16) = false := by rw [beq_eq_false_iff_ne]; omega
    have bop13 : ((op : Int) == 13) = false := by rw [beq_eq_false_iff_ne]; omega
    have bop14 : ((op : Int) == 14) = false := by rw [beq_eq_false_iff_ne]; omega
    have bop15 : ((op : Int) == 15) = false := by rw [beq_eq_false_iff_ne]; omega
    have bop17 : ((op : Int) == 17) = false := by rw [beq_eq_false_iff_ne]; omega
    have g4 : ¬ (op : Int) ≤ 12 := by omega
    have g3 : (op : Int) ≥ 3 := by omega
    go_wp2_with fail
    go_ret
    exact fin _ _ (formed_big h _ _ _) (below_drewN (below_alloc w _) nq)
end Go.Proofs.YthgiehlfmdobkaaDoor
