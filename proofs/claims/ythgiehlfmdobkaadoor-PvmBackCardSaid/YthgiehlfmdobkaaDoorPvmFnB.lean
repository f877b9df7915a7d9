/-
  Package pvm's calculate, by its contract. Conditions: the theorem's own premises.
-/
import Derived.Test.YthgiehlfmdobkaaDoorPvmFnA
namespace Go.Proofs.YthgiehlfmdobkaaDoor
open Go.RowKit

set_option linter.unusedSimpArgs false in
theorem pvCalc (op : Nat) (a b : Int) (h2 : 2 ≤ op) (h12 : op ≤ 12) (w : World) : Calls Tryd.prog 61 #[.int .u8 (op : Int), .int .i64 a, .int .i64 b] w (Same w (.tuple #[.int .i64 (calcM op a b).1, .int .i64 (calcM op a b).2])) := by
  by_cases hd : op = 6 ∨ op = 7
  · have hdv := fun W => pvDivide op a b hd W
    obtain ⟨v, t, e⟩ : ∃ v t, calcM op a b = (v, t) := ⟨_, _, rfl⟩
    rw [e] at hdv ⊢
    clear e
    rcases hd with rfl | rfl
    · go_enter Tryd.func61, Tryd.ntmps61
      go_wp2_with (go_at_call 66; refine (hdv _).mono ?_; rintro e w1 ⟨rfl, rfl⟩)
      go_ret2
      exact ⟨rfl, rfl⟩
    · go_enter Tryd.func61, Tryd.ntmps61
      go_wp2_with (go_at_call 66; refine (hdv _).mono ?_; rintro e w1 ⟨rfl, rfl⟩)
      go_ret2
      exact ⟨rfl, rfl⟩
  · have e9 : calcM op a b = (if op = 2 then a else twoM op a b, 0) := by unfold calcM; rw [if_neg (fun h => hd h.1)]
    rw [e9]
    have hc : op = 2 ∨ op = 3 ∨ op = 4 ∨ op = 5 ∨ op = 8 ∨ op = 9 ∨ op = 10 ∨ op = 11 ∨ op = 12 := by omega
    clear e9 hd h2 h12
    rcases hc with rfl | rfl | rfl | rfl | rfl | rfl | rfl | rfl | rfl
    · dsimp only
      rw [if_pos rfl]
      go_enter Tryd.func61, Tryd.ntmps61
      go_wp2_with fail
      go_ret2
      exact ⟨rfl, rfl⟩
    · dsimp only
      rw [if_neg (by decide), show twoM 3 a b = wrap64 (a + b) from rfl]
      go_enter Tryd.func61, Tryd.ntmps61
      go_wp2_with fail
      go_ret2
      exact ⟨rfl, rfl⟩
    · dsimp only
      rw [if_neg (by decide), show twoM 4 a b = wrap64 (a - b) from rfl, ← wrap_sub]
      go_enter Tryd.func61, Tryd.ntmps61
      go_wp2_with fail
      go_ret2
      exact ⟨rfl, rfl⟩
    · dsimp only
      rw [if_neg (by decide), show twoM 5 a b = wrap64 (a * b) from rfl]
      go_enter Tryd.func61, Tryd.ntmps61
      go_wp2_with fail
      go_ret2
      exact ⟨rfl, rfl⟩
    · dsimp only
      rw [if_neg (by decide), show twoM 8 a b = bits .and .i64 a b from rfl]
      go_enter Tryd.func61, Tryd.ntmps61
      go_wp2_with fail
      go_ret2
      exact ⟨rfl, rfl⟩
    · dsimp only
      rw [if_neg (by decide), show twoM 9 a b = bits .or .i64 a b from rfl]
      go_enter Tryd.func61, Tryd.ntmps61
      go_wp2_with fail
      go_ret2
      exact ⟨rfl, rfl⟩
    · dsimp only
      rw [if_neg (by decide), show twoM 10 a b = bits .xor .i64 a b from rfl]
      go_enter Tryd.func61, Tryd.ntmps61
      go_wp2_with fail
      go_ret2
      exact ⟨rfl, rfl⟩
    · dsimp only
      rw [if_neg (by decide), show twoM 11 a b = (if a < b then 1 else 0) from rfl]
      by_cases hl : a < b
      · rw [if_pos hl]
        go_enter Tryd.func61, Tryd.ntmps61
        go_wp2_with (go_at_call 67; refine (pvTruth true _).mono ?_; rintro e w1 ⟨rfl, rfl⟩)
        go_ret2
        exact ⟨rfl, rfl⟩
      · rw [if_neg hl]
        go_enter Tryd.func61, Tryd.ntmps61
        go_wp2_with (go_at_call 67; refine (pvTruth false _).mono ?_; rintro e w1 ⟨rfl, rfl⟩)
        go_ret2
        exact ⟨rfl, rfl⟩
    · dsimp only
      rw [if_neg (by decide), show twoM 12 a b = (if a = b then 1 else 0) from rfl]
      by_cases hl : a = b
      · subst hl
        rw [if_pos rfl]
        go_enter Tryd.func61, Tryd.ntmps61
        go_wp2_with (go_at_call 67; refine (pvTruth true _).mono ?_; rintro e w1 ⟨rfl, rfl⟩)
        go_ret2
        exact ⟨rfl, rfl⟩
      · have hl0 : (a == b) = false := by rw [beq_eq_false_iff_ne]; exact hl
        rw [if_neg hl]
        go_enter Tryd.func61, Tryd.ntmps61
        go_wp2_with (go_at_call 67; refine (pvTruth false _).mono ?_; rintro e w1 ⟨rfl, rfl⟩)
        go_ret2
        exact ⟨rfl, rfl⟩
end Go.Proofs.YthgiehlfmdobkaaDoor
