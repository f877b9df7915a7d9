/-
  The law's Do where it loads. Conditions: the theorem's own premises.
-/
import Derived.Test.YtdhaikcmgegfoaaDiskDo5
namespace Go.Proofs.Ytdhaikcmgegfoaa
open Go.RowKit

theorem load_waits (m : Dk) (b : List UInt8) : (m.load b).1.waits.length ≤ m.waits.length := by
  unfold Dk.load
  split
  · exact Nat.le_refl _
  · simp
theorem load_has (m : Dk) (b : List UInt8) : (m.load b).1.has.length = m.has.length := by
  unfold Dk.load
  split
  · rfl
  · exact cutsN_length _ _
theorem bs_take {w : World} {B : Nat} {A : Option Addr} {l : List UInt8} (h : Bs w B A l) (k : Nat) : Bs w B A (l.take k) := fun hn => by
  rw [List.length_take] at hn
  obtain ⟨b, o, e, hb, hc⟩ := h (by omega)
  refine ⟨b, o, e, hb, fun j hj => ?_⟩
  rw [List.length_take] at hj
  rw [hc j (by omega)]
  simp
theorem blk_bs {w : World} {g : Nat} {t : TypeId} {M : List UInt8} (h : Blk w g t (bv M).toArray) : Bs w w.heap.size (some ⟨g, 0, none⟩) M := fun _ => ⟨g, 0, rfl, h.lt, fun j hj => by rw [h.cell, Nat.zero_add, List.getElem?_toArray]; exact bv_get hj⟩
end Go.Proofs.Ytdhaikcmgegfoaa
