/-
  Numbers as bytes, the least significant one first: plain lists and naturals. No conditions.
-/
import Derived.RowKit
namespace Go.Proofs.YthfbmihpdkkcjaaDoor

def leB : Nat → Nat → List UInt8
  | _, 0 => []
  | n, s + 1 => UInt8.ofNat (n % 256) :: leB (n / 256) s
def leN : List UInt8 → Nat
  | [] => 0
  | c :: r => c.toNat + 256 * leN r

theorem leB_length (n s : Nat) : (leB n s).length = s := by
  induction s generalizing n with
  | zero => rfl
  | succ s ih => simp [leB, ih]
theorem leN_lt (l : List UInt8) : leN l < 256 ^ l.length := by
  induction l with
  | nil => simp [leN]
  | cons c r ih =>
    have hc : c.toNat < 256 := c.toNat_lt
    simp only [leN, List.length_cons, Nat.pow_succ]
    omega
theorem leB_snoc (n s : Nat) : leB n (s + 1) = leB n s ++ [UInt8.ofNat (n / 256 ^ s % 256)] := by
  induction s generalizing n with
  | zero => simp [leB]
  | succ s ih =>
    rw [leB, ih, leB]
    simp [Nat.div_div_eq_div_mul, Nat.pow_succ, Nat.mul_comm]
theorem leN_snoc (l : List UInt8) (c : UInt8) : leN (l ++ [c]) = leN l + c.toNat * 256 ^ l.length := by
  induction l with
  | nil => simp [leN]
  | cons d r ih =>
    simp only [List.cons_append, leN, ih, List.length_cons, Nat.pow_succ, Nat.mul_add]
    have : 256 * (c.toNat * 256 ^ r.length) = c.toNat * (256 ^ r.length * 256) := by
      rw [Nat.mul_comm 256, Nat.mul_assoc]
    omega
theorem leN_leB (n s : Nat) : leN (leB n s) = n % 256 ^ s := by
  induction s generalizing n with
  | zero => simp [leB, leN, Nat.mod_one]
  | succ s ih =>
    simp only [leB, leN, ih]
    have h1 : (UInt8.ofNat (n % 256)).toNat = n % 256 := by
      simp
    rw [h1, Nat.pow_succ, Nat.mul_comm (256 ^ s) 256, Nat.mod_mul]
theorem leB_leN (l : List UInt8) : leB (leN l) l.length = l := by
  induction l with
  | nil => rfl
  | cons c r ih =>
    have hc : c.toNat < 256 := c.toNat_lt
    simp only [leN, List.length_cons, leB]
    have h1 : (c.toNat + 256 * leN r) % 256 = c.toNat := by omega
    have h2 : (c.toNat + 256 * leN r) / 256 = leN r := by omega
    rw [h1, h2, ih]
    simp
theorem leB_inj {n m s : Nat} (hn : n < 256 ^ s) (hm : m < 256 ^ s) (h : leB n s = leB m s) : n = m := by
  have := congrArg leN h
  rw [leN_leB, leN_leB, Nat.mod_eq_of_lt hn, Nat.mod_eq_of_lt hm] at this
  exact this
theorem leB_mod (n s : Nat) : leB (n % 256 ^ s) s = leB n s := by
  induction s generalizing n with
  | zero => rfl
  | succ s ih =>
    simp only [leB]
    have h1 : n % 256 ^ (s + 1) % 256 = n % 256 := by
      rw [Nat.pow_succ, Nat.mul_comm]; exact Nat.mod_mul_right_mod _ _ _
    have h2 : n % 256 ^ (s + 1) / 256 = n / 256 % 256 ^ s := by
      rw [Nat.pow_succ, Nat.mul_comm, Nat.mod_mul_right_div_self]
    rw [h1, h2, ih]
/-- a number that is put down behind a smaller one: or is plus -/
theorem or_shift (a b k : Nat) (h : a < 2 ^ k) : a ||| (b * 2 ^ k) = a + b * 2 ^ k := by
  have := Nat.two_pow_add_eq_or_of_lt h b
  rw [Nat.mul_comm b, Nat.or_comm, ← this, Nat.add_comm]
end Go.Proofs.YthfbmihpdkkcjaaDoor
