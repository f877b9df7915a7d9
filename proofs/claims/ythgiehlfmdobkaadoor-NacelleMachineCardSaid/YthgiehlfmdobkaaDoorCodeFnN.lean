/-
  Package code's small functions: isRegister, needsPlace, isPlace, ends, Number, by their contracts. Conditions: each theorem's own premises.
-/
import Derived.Test.YthgiehlfmdobkaaDoorCodeRef2
namespace Go.Proofs.YthgiehlfmdobkaaDoor
open Go.RowKit

theorem coReg (b : Nat) (w : World) : Calls Tryd.prog 50 #[.int .u8 (b : Int)] w (Says w (.bool (decide (b < 8)))) := by
  by_cases h : b < 8
  · have hi : (b : Int) < 8 := by omega
    rw [decide_eq_true h]
    go_enter Tryd.func50, Tryd.ntmps50
    go_wp2_with fail
    go_ret
    exact ⟨rfl, Below.refl _ _⟩
  · have hi : ¬ (b : Int) < 8 := by omega
    rw [decide_eq_false h]
    go_enter Tryd.func50, Tryd.ntmps50
    go_wp2_with fail
    go_ret
    exact ⟨rfl, Below.refl _ _⟩
theorem coNeeds (op : Nat) (w : World) : Calls Tryd.prog 31 #[.int .u8 (op : Int)] w (Says w (.bool (decide (op = 15 ∨ op = 16)))) := by
  by_cases h15 : op = 15
  · subst h15
    go_enter Tryd.func31, Tryd.ntmps31
    go_wp2_with fail
    go_ret
    exact ⟨rfl, Below.refl _ _⟩
  · by_cases h16 : op = 16
    · subst h16
      go_enter Tryd.func31, Tryd.ntmps31
      go_wp2_with fail
      go_ret
      exact ⟨rfl, Below.refl _ _⟩
    · have n15 : ((op : Int) == 15) = false := by rw [beq_eq_false_iff_ne]; omega
      have n16 : ((op : Int) == 16) = false := by rw [beq_eq_false_iff_ne]; omega
      rw [decide_eq_false (by omega)]
      go_enter Tryd.func31, Tryd.ntmps31
      go_wp2_with fail
      go_ret
      exact ⟨rfl, Below.refl _ _⟩
theorem coEnds (op : Nat) (w : World) : Calls Tryd.prog 34 #[.int .u8 (op : Int)] w (Says w (.bool (decide (op = 0 ∨ op = 15)))) := by
  by_cases h15 : op = 0
  · subst h15
    go_enter Tryd.func34, Tryd.ntmps34
    go_wp2_with fail
    go_ret
    exact ⟨rfl, Below.refl _ _⟩
  · by_cases h16 : op = 15
    · subst h16
      go_enter Tryd.func34, Tryd.ntmps34
      go_wp2_with fail
      go_ret
      exact ⟨rfl, Below.refl _ _⟩
    · have n15 : ((op : Int) == 0) = false := by rw [beq_eq_false_iff_ne]; omega
      have n16 : ((op : Int) == 15) = false := by rw [beq_eq_false_iff_ne]; omega
      rw [decide_eq_false (by omega)]
      go_enter Tryd.func34, Tryd.ntmps34
      go_wp2_with fail
      go_ret
      exact ⟨rfl, Below.refl _ _⟩
theorem coPlace (A : Option Addr) (n c : Nat) (k : Int) (w : World) : Calls Tryd.prog 32 #[.slice A n c, .int .i64 k] w (Says w (.bool (decide (0 ≤ k ∧ k < (n : Int))))) := by
  by_cases h0 : 0 ≤ k
  · have hi : k ≥ 0 := by omega
    by_cases h1 : k < (n : Int)
    · rw [decide_eq_true ⟨h0, h1⟩]
      go_enter Tryd.func32, Tryd.ntmps32
      go_wp2_with fail
      go_ret
      exact ⟨rfl, Below.refl _ _⟩
    · rw [decide_eq_false (fun h => h1 h.2)]
      go_enter Tryd.func32, Tryd.ntmps32
      go_wp2_with fail
      go_ret
      exact ⟨rfl, Below.refl _ _⟩
  · have hi : ¬ k ≥ 0 := by omega
    rw [decide_eq_false (fun h => h0 h.1)]
    go_enter Tryd.func32, Tryd.ntmps32
    go_wp2_with fail
    go_ret
    exact ⟨rfl, Below.refl _ _⟩
theorem bits_or_u16 (a b : Nat) (ha : a < 65536) (hb : b < 65536) : bits .or .u16 (a : Int) (b : Int) = ((a ||| b : Nat) : Int) := by
  have hx : a ||| b < 2 ^ 16 := Nat.or_lt_two_pow (by omega) (by omega)
  have e : ∀ n : Nat, n < 65536 → (BitVec.ofInt 16 (n : Int)).toNat = n := fun n hn => by rw [BitVec.toNat_ofInt]; omega
  show IntKind.u16.wrap ((BitVec.ofInt 16 (a : Int) ||| BitVec.ofInt 16 (b : Int)).toNat : Int) = _
  rw [BitVec.toNat_or, e a ha, e b hb]
  have h2 : IntKind.u16.wrap ((a ||| b : Nat) : Int) = ((a ||| b : Nat) : Int) % 65536 := by simp [IntKind.wrap, IntKind.bits, IntKind.signed]
  rw [h2]
  omega
set_option linter.unusedSimpArgs false in
theorem coNumber (op a b c : Nat) (h : Ins.ok ⟨op, a, b, c⟩) (w : World) : Calls Tryd.prog 33 #[.agg #[.int .u8 (op : Int), .int .u8 (a : Int), .int .u8 (b : Int), .int .u8 (c : Int)]] w (Says w (.int .i64 (Ins.numS ⟨op, a, b, c⟩))) := by
  obtain ⟨_, _, hb, hc⟩ := h
  dsimp only at hb hc
  obtain ⟨n, en⟩ : ∃ n, b + 256 * c = n := ⟨_, rfl⟩
  have hor : bits .or .u16 (b : Int) ((c : Int) * 256) = (n : Int) := by
    have h1 : (c : Int) * 256 = ((c * 256 : Nat) : Int) := by omega
    rw [h1, bits_or_u16 _ _ (by omega) (by omega), show c * 256 = c * 2 ^ 8 from rfl, or_shift b c 8 (by omega)]
    omega
  have e1 : wrap64 (n : Int) = (n : Int) := by unfold wrap64; omega
  obtain ⟨z, ez⟩ : ∃ z, Ins.numS ⟨op, a, b, c⟩ = z := ⟨_, rfl⟩
  rw [ez]
  have HN : (if op = 1 ∧ 32768 ≤ n then (n : Int) - 65536 else n) = z := by rw [← ez]; unfold Ins.numS Ins.num; simp only [en]
  clear ez
  by_cases h1 : op = 1
  · subst h1
    have e2 : IntKind.i16.wrap (n : Int) = z := by
      have h9 : IntKind.i16.wrap (n : Int) = if (n : Int) % 65536 ≥ 32768 then (n : Int) % 65536 - 65536 else (n : Int) % 65536 := by simp [IntKind.wrap, IntKind.bits, IntKind.signed]
      rw [h9, ← HN, Int.emod_eq_of_lt (by omega) (by omega)]
      split
      · rw [if_pos ⟨rfl, by omega⟩]
      · rw [if_neg (by omega)]
    have e3 : wrap64 z = z := by unfold wrap64; split at HN <;> omega
    clear HN
    go_enter Tryd.func33, Tryd.ntmps33
    go_wp2_with fail
    go_ret
    exact ⟨rfl, below_alloc w _⟩
  · rw [if_neg (by omega)] at HN
    subst HN
    have h3 : ((op : Int) == 1) = false := by rw [beq_eq_false_iff_ne]; omega
    go_enter Tryd.func33, Tryd.ntmps33
    go_wp2_with fail
    go_ret
    exact ⟨rfl, below_alloc w _⟩
end Go.Proofs.YthgiehlfmdobkaaDoor
