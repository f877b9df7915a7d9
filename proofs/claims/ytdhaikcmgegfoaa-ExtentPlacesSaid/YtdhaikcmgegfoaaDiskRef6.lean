/-
  The disk's reference: Arm and Read, by their contracts. Conditions: the theorems' own premises.
-/
import Derived.Test.YtdhaikcmgegfoaaDiskRef5
namespace Go.Proofs.Ytdhaikcmgegfoaa
open Go.RowKit

def Dk.arm (d : Dk) (n : Int) (surv : List Bool) : Dk := if d.off = true then d else { d with left := if n < 0 then -1 else n, surv := surv }
theorem Dk.arm_ok {d : Dk} (h : d.ok) (n : Int) (surv : List Bool) (hn : n ≤ 9223372036854775807) : (d.arm n surv).ok := by
  unfold Dk.arm
  split
  · exact h
  · exact ⟨h.small, h.len, h.at_, by simp only; split <;> omega⟩
/-- Arm keeps what it is given: its result names that, too -/
def ArmPost (w : World) (cs0 : List Value) (d0 : Dk) (S : Option Addr) (surv : List Bool) (d : Dk) (e : Ending) (w' : World) : Prop :=
  ∃ cs, e = .returned (.agg cs.toArray) ∧ RefIs w' w'.heap.size cs d ∧ (∀ g, g < w.heap.size → RefFar cs0 d0 g → Far S surv.length g → RefFar cs d g) ∧ Below w.heap.size w w'

end Go.Proofs.Ytdhaikcmgegfoaa
