/-
  Package fault's New, outermost and Code, by their contracts. Conditions: errors.errorType holds the handle of the type error.
-/
import Derived.Test.YthfbmihpdkkcjaaDoorFaultAs
import Derived.Below
import Derived.Outline
import Derived.Lib.Hide
namespace Go.Proofs.YthfbmihpdkkcjaaDoor
open Go.RowKit Go.Extern.Stop Go.Stop Go.Extern

theorem cell_size {w : World} {a : Addr} {v : Value} (h : w.cell? a = some v) : a.block < w.heap.size := by
  rcases Nat.lt_or_ge a.block w.heap.size with k | k
  · exact k
  · simp [World.cell?, Array.getElem?_eq_none k] at h

theorem new_some (c at_ : Int) (w : World) (hc : (c == 0) = false) :
    Calls Tryd.prog 29 #[.int .i64 c, .int .i64 at_] w fun e w' =>
      e = .returned (.iface 67 (.pointer (some ⟨w.heap.size, 0, none⟩))) ∧ w' = w.alloc (.cells #[.int .i64 c, .int .i64 at_, .nilIface] 70) := by
  go_enter Tryd.func29, Tryd.ntmps29
  go_wp2
  go_ret
  exact ⟨rfl, rfl⟩

theorem outermost_nil (w : World) :
    Calls Tryd.prog 21 #[.nilIface] w fun ev w' => ev = .returned (.pointer none) ∧ Below w.heap.size w w' := by
  go_enter Tryd.func21, Tryd.ntmps21
  go_wp2_with (go_at_call 33; refine (as_nil _ _).mono ?_; rintro e w' ⟨rfl, rfl⟩)
  go_ret
  exact ⟨rfl, (Below.refl _ _).alloc (Nat.le_refl _) _⟩

set_option maxHeartbeats 1000000 in
theorem outermost_hit (e : Addr) (w : World) (hg0 : w.cell? gErr = some hErr) :
    Calls Tryd.prog 21 #[.iface 67 (.pointer (some e))] w fun ev w' => ev = .returned (.pointer (some e)) ∧ Below w.heap.size w w' := by
  have hlt := cell_size hg0
  have hgA : (w.alloc (.cells #[.pointer none] 67)).cell? gErr = some hErr := by
    rw [World.cell?_alloc_lt _ _ gErr hlt]; exact hg0
  have htA : (w.alloc (.cells #[.pointer none] 67)).cell? ⟨w.heap.size, 0, none⟩ = some (.pointer none) := by simp
  have hfA : (w.alloc (.cells #[.pointer none] 67)).frozen? ⟨w.heap.size, 0, none⟩ = false := by simp
  go_enter Tryd.func21, Tryd.ntmps21
  go_wp2_with (go_at_call 33; refine (as_hit _ _ (.pointer none) _ hgA htA hfA).mono ?_; rintro e w' ⟨rfl, rfl⟩)
  go_ret
  refine ⟨rfl, ?_⟩
  repeat (first | exact Below.refl _ _ | refine Below.setCell ?_ (by simp) _ | refine Below.alloc ?_ (by simp <;> omega) _)

end Go.Proofs.YthfbmihpdkkcjaaDoor
