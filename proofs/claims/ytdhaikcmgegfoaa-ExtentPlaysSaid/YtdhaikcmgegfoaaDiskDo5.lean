/-
  The law's Do where it writes. Conditions: each theorem's own premises.
-/
import Derived.Test.YtdhaikcmgegfoaaDiskDo4
namespace Go.Proofs.Ytdhaikcmgegfoaa
open Go.RowKit

theorem write_waits (m : Dk) (k : Int) (b : List UInt8) : (m.write k b).1.waits.length ≤ m.waits.length + 1 := by
  have := step_waits m
  unfold Dk.write
  split
  · exact Nat.le_succ _
  · split
    · exact Nat.le_succ _
    · split
      · simp; exact this
      · simp only; omega
theorem write_has (m : Dk) (k : Int) (b : List UInt8) : (m.write k b).1.has.length = m.has.length := by
  have := step_has m
  unfold Dk.write
  split
  · rfl
  · split
    · rfl
    · split
      · exact this
      · exact this
end Go.Proofs.Ytdhaikcmgegfoaa
