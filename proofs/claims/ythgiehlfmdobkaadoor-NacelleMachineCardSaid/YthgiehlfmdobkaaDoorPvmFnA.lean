/-
  Package pvm's truth, divide, calculate, mayHave, by their contracts. Conditions: each theorem's own premises.
-/
import Derived.Test.YthgiehlfmdobkaaDoorPvmKit
import Derived.Test.YthgiehlfmdobkaaDoorKept
namespace Go.Proofs.YthgiehlfmdobkaaDoor
open Go.RowKit

/-- what an Op from 2 to 12 makes of two words, and its trap -/
def calcM (op : Nat) (a b : Int) : Int × Int := if (op = 6 ∨ op = 7) ∧ b = 0 then (0, 80) else (if op = 2 then a else twoM op a b, 0)
theorem wrap_sub (a b : Int) : wrap64 (a + wrap64 (-b)) = wrap64 (a - b) := by unfold wrap64; omega

/-- it answers v, and the world stays -/
def Same (w : World) (v : Value) (e : Ending) (w' : World) : Prop := e = .returned v ∧ w = w'
theorem pvTruth (b : Bool) (w : World) : Calls Tryd.prog 67 #[.bool b] w (Same w (.int .i64 (if b then 1 else 0))) := by
  cases b
  · go_enter Tryd.func67, Tryd.ntmps67
    go_wp2_with fail
    go_ret
    exact ⟨rfl, rfl⟩
  · go_enter Tryd.func67, Tryd.ntmps67
    go_wp2_with fail
    go_ret
    exact ⟨rfl, rfl⟩

theorem pvDivide (op : Nat) (a b : Int) (hop : op = 6 ∨ op = 7) (w : World) : Calls Tryd.prog 66 #[.int .u8 (op : Int), .int .i64 a, .int .i64 b] w (Same w (.tuple #[.int .i64 (calcM op a b).1, .int .i64 (calcM op a b).2])) := by
  by_cases hb : b = 0
  · have e : calcM op a b = (0, 80) := by unfold calcM; rw [if_pos ⟨hop, hb⟩]
    rw [e]
    subst hb
    go_enter Tryd.func66, Tryd.ntmps66
    go_wp2_with fail
    go_ret2
    exact ⟨rfl, rfl⟩
  · have hb0 : (b == 0) = false := by rw [beq_eq_false_iff_ne]; exact hb
    rcases hop with rfl | rfl
    · have e : calcM 6 a b = (wrap64 (a.tdiv b), 0) := by unfold calcM; rw [if_neg (fun h => hb h.2)]; rfl
      rw [e]
      go_enter Tryd.func66, Tryd.ntmps66
      go_wp2_with fail
      go_ret2
      exact ⟨rfl, rfl⟩
    · have e : calcM 7 a b = (a.tmod b, 0) := by unfold calcM; rw [if_neg (fun h => hb h.2)]; rfl
      rw [e]
      go_enter Tryd.func66, Tryd.ntmps66
      go_wp2_with fail
      go_ret2
      exact ⟨rfl, rfl⟩

theorem pvMayHave (s t : Int) (w : World) : Calls Tryd.prog 35 #[.int .i64 s, .int .i64 t] w (Says w (.bool (decide ((s = 2 ∧ 80 ≤ t ∧ t ≤ 83) ∨ ((s = 0 ∨ s = 1) ∧ t = 0))))) := by
  by_cases h0 : s = 0
  · subst h0
    rw [show decide (((0 : Int) = 2 ∧ 80 ≤ t ∧ t ≤ 83) ∨ (((0 : Int) = 0 ∨ (0 : Int) = 1) ∧ t = 0)) = (t == 0) by rw [Bool.eq_iff_iff]; simp]
    go_enter Tryd.func35, Tryd.ntmps35
    go_wp2_with fail
    go_ret
    exact ⟨rfl, Below.refl _ _⟩
  by_cases h1 : s = 1
  · subst h1
    rw [show decide (((1 : Int) = 2 ∧ 80 ≤ t ∧ t ≤ 83) ∨ (((1 : Int) = 0 ∨ (1 : Int) = 1) ∧ t = 0)) = (t == 0) by rw [Bool.eq_iff_iff]; simp]
    go_enter Tryd.func35, Tryd.ntmps35
    go_wp2_with fail
    go_ret
    exact ⟨rfl, Below.refl _ _⟩
  have e0 : (s == 0) = false := by rw [beq_eq_false_iff_ne]; exact h0
  have e1 : (s == 1) = false := by rw [beq_eq_false_iff_ne]; exact h1
  by_cases h2 : s = 2
  · subst h2
    by_cases g1 : t ≥ 80
    · by_cases g2 : t ≤ 83
      · rw [decide_eq_true (by omega)]
        go_enter Tryd.func35, Tryd.ntmps35
        go_wp2_with fail
        go_ret
        exact ⟨rfl, Below.refl _ _⟩
      · rw [decide_eq_false (by omega)]
        go_enter Tryd.func35, Tryd.ntmps35
        go_wp2_with fail
        go_ret
        exact ⟨rfl, Below.refl _ _⟩
    · rw [decide_eq_false (by omega)]
      go_enter Tryd.func35, Tryd.ntmps35
      go_wp2_with fail
      go_ret
      exact ⟨rfl, Below.refl _ _⟩
  have e2 : (s == 2) = false := by rw [beq_eq_false_iff_ne]; exact h2
  rw [decide_eq_false (by omega)]
  go_enter Tryd.func35, Tryd.ntmps35
  go_wp2_with fail
  go_ret
  exact ⟨rfl, Below.refl _ _⟩
end Go.Proofs.YthgiehlfmdobkaaDoor
