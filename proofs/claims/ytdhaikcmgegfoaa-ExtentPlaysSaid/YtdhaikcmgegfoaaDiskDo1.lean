/-
  The law's Do where it lets the power fail, switches it on, or arms. Conditions: each theorem's own premises.
-/
import Derived.Test.YtdhaikcmgegfoaaDiskDo0
namespace Go.Proofs.Ytdhaikcmgegfoaa
open Go.RowKit

/-- what Do is called with -/
structure DoPre (w : World) (gd : Nat) (F : Nat → Prop) (m : Dk) (k : Nat) (cs : List Value) (d : Dk) (a : ActV) (S : Option Addr) (n : Nat) : Prop where
  code : CodeIs w gd F m
  ref : RefIs w w.heap.size cs d
  far : ∀ g, F g → RefFar cs d g
  km : m.waits.length ≤ k
  kd : d.waits.length ≤ k
  kk : k ≤ 100
  m4 : m.has.length = 4
  d4 : d.has.length = 4
  md : m = d
  act : a.ok
  keep : a.keep.length = n
  vs : Vs w w.heap.size S (bvs a.keep)
  farS : ∀ g, F g ∨ w.heap.size ≤ g → Far S n g
theorem crash_has (m : Dk) (s : List Bool) : (m.crash s).has.length = m.has.length := by
  unfold Dk.crash
  split
  · rfl
  · simp [Dk.laid, lay_length]
theorem arm_has (m : Dk) (n : Int) (s : List Bool) : (m.arm n s).has = m.has ∧ (m.arm n s).waits = m.waits := by
  unfold Dk.arm
  split <;> exact ⟨rfl, rfl⟩
theorem RefIs.shape {w : World} {B : Nat} {cs : List Value} {d : Dk} (h : RefIs w B cs d) : cs.length = 5 ∧ ∀ v ∈ cs, v.oneCell' = true := by
  obtain ⟨_, A, W, S, ca, cw, cs0, rfl, _⟩ := h
  exact ⟨rfl, refCells_one _ _ _ _ _ _ _⟩
theorem rsize_of {cs : List Value} (h : cs.length = 5) : (Try.prog.info? 45).map (·.size) = some cs.length := by rw [h]; exact rdisk_size
theorem rsize_arr {cs : List Value} (h : cs.length = 5) : (Try.prog.info? 45).map (·.size) = some cs.toArray.size := by rw [List.size_toArray, h]; exact rdisk_size
end Go.Proofs.Ytdhaikcmgegfoaa
