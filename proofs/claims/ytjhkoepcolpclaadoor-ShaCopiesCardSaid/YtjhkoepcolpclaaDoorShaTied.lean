/-
  For the tied cards over sha.initial and sha.constants: what the row's 'laid' gives to the walk; one world that meets it. No conditions.
-/
import Derived.Test.YtjhkoepcolpclaaDoorCards
import Derived.Test.YtjhkoepcolpclaaDoorTie
import Derived.Test.YtjhkoepcolpclaaDoorOpens
import Derived.Test.YtjhkoepcolpclaaDoorShaProc
namespace Go.Proofs.YtjhkoepcolpclaaDoor
open Go.ChangeShapes Go.WideShapes Go.RowKit

theorem L.ini : Tryd.prog.globalNamed "nacelle/sha.initial" = some 0 := by kernel_rfl
theorem L.iniType : (Tryd.prog.globals[0]?).map (·.type) = some 50 := by kernel_rfl
theorem L.iniCells : Tryd.prog.cellsOf 50 = 8 := by kernel_rfl
theorem L.con : Tryd.prog.globalNamed "nacelle/sha.constants" = some 1 := by kernel_rfl
theorem L.conType : (Tryd.prog.globals[1]?).map (·.type) = some 62 := by kernel_rfl
theorem L.conCells : Tryd.prog.cellsOf 62 = 64 := by kernel_rfl
theorem L.w32cells : Tryd.prog.cellsOf 43 = 1 := by kernel_rfl

def iniInts : List Int := shaH.list.map fun (n : Nat) => (n : Int)
def conInts : List Int := shaK.map fun (n : Nat) => (n : Int)
theorem ini_data : Rows.laid_nacelle_sha_initial (H := Unit) = Lib.tabData .u32 iniInts := by kernel_rfl
theorem con_data : Rows.laid_nacelle_sha_constants (H := Unit) = Lib.tabData .u32 conInts := by kernel_rfl
theorem ini_cells : iniInts.map (fun z => Value.int .u32 z) = wv shaH.list := by simp [iniInts, wv, Function.comp_def]
theorem con_cells : conInts.map (fun z => Value.int .u32 z) = wv shaK := by simp [conInts, wv, Function.comp_def]
theorem tabIs_of_vars {P : Program} {W : World} {name : String} {k : IntKind} {zs : List Int} {rest : List (String × DataW Unit)} {g : Nat} {t e : TypeId} {n : Nat} {ps : List MemPlace}
    (hg : P.globalNamed name = some g) (hty : (P.globals[g]?).map (·.type) = some t) (ht : P.underlying t = some (.array n e)) (he : P.underlying e = some (.int k)) (hce : P.cellsOf e = 1) (hct : P.cellsOf t = n)
    (h : DataW.LaidVars P W ((name, Lib.tabData k zs) :: rest) ps) : Lib.TabIs P W name k zs := by
  obtain ⟨g', t', cs, fuel, p, q, hg', ht', hvar, hd, _, _⟩ := h
  obtain rfl := Option.some.inj (hg.symm.trans hg')
  obtain rfl := Option.some.inj (hty.symm.trans ht')
  unfold Lib.TabIs
  rw [hvar, ← Lib.cells_of_tab ht he hce hct hd]
theorem laidVars_rest {P : Program} {W : World} {x : String × DataW Unit} {rest : List (String × DataW Unit)} {ps : List MemPlace} (h : DataW.LaidVars P W (x :: rest) ps) : ∃ q, DataW.LaidVars P W rest q := by
  obtain ⟨g', t', cs, fuel, p, q, hg', ht', hvar, hd, hr, _⟩ := h
  exact ⟨_, hr⟩
theorem tabs_of_laid {W : World} (h : laidMetH Tryd.prog [("nacelle/sha.initial", Rows.laid_nacelle_sha_initial), ("nacelle/sha.constants", Rows.laid_nacelle_sha_constants)] W) : Tabs W := by
  have h' : laidMet Tryd.prog [("nacelle/sha.initial", Rows.laid_nacelle_sha_initial), ("nacelle/sha.constants", Rows.laid_nacelle_sha_constants)] W := h
  rw [ini_data, con_data] at h'
  obtain ⟨ps, hv, _⟩ := h'
  have h1 := tabIs_of_vars L.ini L.iniType Tryd.underlying50 Tryd.underlying43 L.w32cells L.iniCells hv
  obtain ⟨q, hv2⟩ := laidVars_rest hv
  have h2 := tabIs_of_vars L.con L.conType Tryd.underlying62 Tryd.underlying43 L.w32cells L.conCells hv2
  unfold Lib.TabIs at h1 h2
  rw [ini_cells] at h1
  rw [con_cells] at h2
  refine ⟨fun j v hv => ?_, fun j v hv => ?_⟩
  · rw [Nat.zero_add, World.var?_cell L.con h2 j]
    exact hv
  · rw [Nat.zero_add, World.var?_cell L.ini h1 j]
    exact hv

noncomputable def shaWorld (os : Os) : World :=
  let w0 := World.holding Tryd.prog os ⟨#[], #[], []⟩
  { w0 with heap := (w0.heap.modify 0 fun
      | .cells _ t frozen => .cells (iniInts.map fun z => Value.int .u32 z).toArray t frozen
      | o => o).modify 1 fun
      | .cells _ t frozen => .cells (conInts.map fun z => Value.int .u32 z).toArray t frozen
      | o => o }
theorem shaWorld_met (os : Os) (args : Array Value) : laidMetH Tryd.prog [("nacelle/sha.initial", Rows.laid_nacelle_sha_initial), ("nacelle/sha.constants", Rows.laid_nacelle_sha_constants)] ((shaWorld os).forCall (fun _ _ => 0) ⟨#[], args, []⟩).memory :=
  laidMetH_of_parts (laidMet_of_run' 8 (by kernel_rfl) (by kernel_rfl)) (by kernel_rfl)
end Go.Proofs.YtjhkoepcolpclaaDoor
