/-
  The disk's reference: Load, by its contract. Conditions: the theorem's own premises.
-/
import Derived.Test.YtdhaikcmgegfoaaDiskRef7
namespace Go.Proofs.Ytdhaikcmgegfoaa
open Go.RowKit

/-- the k-th sector of an image; the first n of them -/
def cutN (l : List UInt8) (k : Nat) : List UInt8 := (l.drop (64 * k)).take 64
def cutsN (l : List UInt8) : Nat → List (List UInt8)
  | 0 => []
  | k + 1 => cutsN l k ++ [cutN l k]
theorem cutsN_length (l : List UInt8) : ∀ n, (cutsN l n).length = n
  | 0 => rfl
  | n + 1 => by simp [cutsN, cutsN_length l n]
theorem cutsN_len (l : List UInt8) : ∀ n, 64 * n ≤ l.length → ∀ s ∈ cutsN l n, s.length = 64
  | 0, _, s, hs => by simp [cutsN] at hs
  | n + 1, h, s, hs => by
    simp only [cutsN, List.mem_append, List.mem_singleton] at hs
    rcases hs with hs | rfl
    · exact cutsN_len l n (by omega) s hs
    · simp [cutN]
      omega
theorem sv_cut (l : List UInt8) (k a b : Nat) (ha : 64 * k = a) (hb : a + 64 = b) : Value.string ((⟨l.toArray⟩ : ByteArray).extract a b) = sv (cutN l k) := by
  subst ha
  subst hb
  rw [ByteArray.extract_mk, show 64 * k + 64 - 64 * k = 64 by omega]
  rfl
def Dk.load (d : Dk) (l : List UInt8) : Dk × Nat := if l.length ≠ 64 * d.has.length then (d, 1) else ({ d with has := cutsN l d.has.length, waits := [] }, 0)
theorem one_str2 (st : ByteArray) : ∀ u ∈ [Value.string st], u.oneCell' = true := one_str st

end Go.Proofs.Ytdhaikcmgegfoaa
