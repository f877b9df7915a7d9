/-
  FaultNumbers returns true. Condition: errors.errorType holds the handle of the type error.
-/
import Derived.Test.YtoijjgppcokcpaaDoorFaultFns
namespace Go.Proofs.YtoijjgppcokcpaaDoor
open Go.RowKit Go.Extern.Stop Go.Stop Go.Extern

theorem faultNumbers_calls (w : World) (hg0 : w.cell? gErr = some hErr) :
    Calls Tryd.prog 3 #[] w fun ev w' => ev = .returned (.bool true) ∧ Below w.heap.size w w' := by
  have hlt := cell_size hg0
  have hgA : (w.alloc (.cells #[.int .i64 9, .int .i64 0, .nilIface] 31)).cell? gErr = some hErr := by
    rw [World.cell?_alloc_lt _ _ gErr hlt]; exact hg0
  have hc : (w.alloc (.cells #[.int .i64 9, .int .i64 0, .nilIface] 31)).cell? ⟨w.heap.size, 0, none⟩ = some (.int .i64 9) := by simp
  go_enter Tryd.func3, Tryd.ntmps3
  go_wp2_with (first | (go_at_call 5; refine (new_some 9 0 _ (by decide)).mono ?_; rintro e w' ⟨rfl, rfl⟩) | (go_at_call 4; refine (code_hit _ _ _ hgA hc).mono ?_; rintro e w' ⟨rfl, hb⟩))
  go_ret
  refine ⟨rfl, ?_⟩
  exact ((Below.refl _ _).alloc (Nat.le_refl _) _).trans (hb.mono (by simp))
end Go.Proofs.YtoijjgppcokcpaaDoor
