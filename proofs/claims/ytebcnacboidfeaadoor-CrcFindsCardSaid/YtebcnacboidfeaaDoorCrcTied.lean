/-
  For the tied cards over crc.shifted: what the row's 'laid' gives to the walk; one world that meets it. No conditions.
-/
import Derived.Test.YtebcnacboidfeaaDoorCards
import Derived.Test.YtebcnacboidfeaaDoorTie
import Derived.Test.YtebcnacboidfeaaDoorOpens
import Derived.Test.YtebcnacboidfeaaDoorCrcFns
namespace Go.Proofs.YtebcnacboidfeaaDoor
open Go.ChangeShapes Go.WideShapes Go.RowKit

theorem L.tab : Tryd.prog.globalNamed "nacelle/crc.shifted" = some 0 := by kernel_rfl
theorem L.tabType : (Tryd.prog.globals[0]?).map (·.type) = some 42 := by kernel_rfl
theorem L.tabCells : Tryd.prog.cellsOf 42 = 16 := by kernel_rfl
theorem L.u32cells : Tryd.prog.cellsOf 22 = 1 := by kernel_rfl

def tabInts : List Int := (List.range 16).map fun j => ((Tn 4 j : Nat) : Int)
theorem tab_data : Rows.laid_nacelle_crc_shifted (H := Unit) = Lib.tabData .u32 tabInts := by kernel_rfl
theorem tab_at (j : Nat) (h : j < 16) : tabInts.getD j 0 = ((Tn 4 j : Nat) : Int) := by
  simp [tabInts, List.getD, h]
theorem tab_of_laid {W : World} (h : laidMetH Tryd.prog [("nacelle/crc.shifted", Rows.laid_nacelle_crc_shifted)] W) : Tab W := by
  have h' : laidMet Tryd.prog [("nacelle/crc.shifted", Rows.laid_nacelle_crc_shifted)] W := h
  rw [tab_data] at h'
  have hi := Lib.tabIs_of_head L.tab L.tabType Tryd.underlying42 Tryd.underlying22 L.u32cells L.tabCells h'
  intro j hj
  have := hi.cell L.tab j (by simp [tabInts, hj])
  rwa [tab_at j hj] at this

noncomputable def crcWorld (os : Os) : World :=
  let w0 := World.holding Tryd.prog os ⟨#[], #[], []⟩
  { w0 with heap := w0.heap.modify 0 fun
      | .cells _ t frozen => .cells (tabInts.map fun z => Value.int .u32 z).toArray t frozen
      | o => o }
theorem crcWorld_met (os : Os) (args : Array Value) : laidMetH Tryd.prog [("nacelle/crc.shifted", Rows.laid_nacelle_crc_shifted)] ((crcWorld os).forCall (fun _ _ => 0) ⟨#[], args, []⟩).memory :=
  laidMetH_of_parts (laidMet_of_run' 8 (by kernel_rfl) (by kernel_rfl)) (by kernel_rfl)
end Go.Proofs.YtebcnacboidfeaaDoor
