/-
  No cell of these rows narrows 'for every input' (looked for: loops, veiled, ifaces, maps, wideKeys, modest, calm, conditions, laid).
  DERIVED. THE GIVEN ROWS OF THIS SEAT. 5 by the template 'for every input the law returns true; each argument reads behind the call as it read before'; 0 by the template 'total and deterministic' (their statements: YtdhaikcmgegfoaaTotals.lean).
  GIVEN WITH THE SEED: the statements are not yours to turn. If you find one false, say at which input.
  Laid BY PROGRAM, IN A SANDBOX (cutbox-rows.mjs): the forced cells as the released guide's own fill.sh prints them over the translation 80757677069c8e26… (all of the seat's roots in one cut). By AI agents, Wed Nov 11 2026. No macro, syntax, notation, axiom, sorry.
-/
import Derived.Test.YtdhaikcmgegfoaaChecked
import GoSem.Claim
import GoSem.ClaimJoined
import GoSem.ClaimMapViews
import Derived.JoinedTies
import Derived.KernelRfl
namespace Go.Proofs.Ytdhaikcmgegfoaa
/- THE CELL 'sum', in the pinned program and in every row, IS THE sha256 OF THE DUMP (.gsa) THAT YtdhaikcmgegfoaaProg.lean LOADS. Nothing in Lean hashes anything: it is a label: what it is worth is what the hold of that sum in a sandbox is worth. -/
noncomputable def Try.pinned : Pinned := { name := "ytdhaikcmgegfoaa", sum := "80757677069c8e26e25053c997f18a618b1811efc11979405b339ecdceee25ac", checked := Try.checked }
namespace Rows
def none {H : Type} : Left H := { results := [], args := [] }

/-- 'nacellelaw06.ExtentApart': WHATEVER THE INPUT: true; the input reads as it did. -/
def extentApartSpec : ChangeSpec := { name := "extentApart", fn := fun _ => fun
  | [d] => { results := [.lit (.bool true)], args := [d] }
  | _ => none }
def extentApartRow : OpenClaim := { program := "ytdhaikcmgegfoaa", sum := "80757677069c8e26e25053c997f18a618b1811efc11979405b339ecdceee25ac", func := "nacelle/nacellelaw06.ExtentApart", spec := "extentApart", unfollowed := true, recurses := true, apart := false }
def ExtentApartSaid : Prop := extentApartRow.holds Try.pinned (OpenSpec.ofChange extentApartSpec)

/-- ITS FALSE NEIGHBOUR: 'it returns false'. Refute it at one input. -/
def extentApartWrong : ChangeSpec := { name := "extentApart", fn := fun _ => fun
  | [d] => { results := [.lit (.bool false)], args := [d] }
  | _ => none }
def ExtentApartWrongFalsely : Prop := extentApartRow.holds Try.pinned (OpenSpec.ofChange extentApartWrong)

/-- 'nacellelaw06.ExtentPlaces': WHATEVER THE INPUT: true; the input reads as it did. -/
def extentPlacesSpec : ChangeSpec := { name := "extentPlaces", fn := fun _ => fun
  | [d] => { results := [.lit (.bool true)], args := [d] }
  | _ => none }
def extentPlacesRow : OpenClaim := { program := "ytdhaikcmgegfoaa", sum := "80757677069c8e26e25053c997f18a618b1811efc11979405b339ecdceee25ac", func := "nacelle/nacellelaw06.ExtentPlaces", spec := "extentPlaces", unfollowed := true, recurses := true, apart := false }
def ExtentPlacesSaid : Prop := extentPlacesRow.holds Try.pinned (OpenSpec.ofChange extentPlacesSpec)

/-- ITS FALSE NEIGHBOUR: 'it returns false'. Refute it at one input. -/
def extentPlacesWrong : ChangeSpec := { name := "extentPlaces", fn := fun _ => fun
  | [d] => { results := [.lit (.bool false)], args := [d] }
  | _ => none }
def ExtentPlacesWrongFalsely : Prop := extentPlacesRow.holds Try.pinned (OpenSpec.ofChange extentPlacesWrong)

/-- 'nacellelaw06.ExtentPlays': WHATEVER THE INPUT: true; the input reads as it did. -/
def extentPlaysSpec : ChangeSpec := { name := "extentPlays", fn := fun _ => fun
  | [d1, d2] => { results := [.lit (.bool true)], args := [d1, d2] }
  | _ => none }
def extentPlaysRow : OpenClaim := { program := "ytdhaikcmgegfoaa", sum := "80757677069c8e26e25053c997f18a618b1811efc11979405b339ecdceee25ac", func := "nacelle/nacellelaw06.ExtentPlays", spec := "extentPlays", unfollowed := true, recurses := true, apart := false }
def ExtentPlaysSaid : Prop := extentPlaysRow.holds Try.pinned (OpenSpec.ofChange extentPlaysSpec)

/-- ITS FALSE NEIGHBOUR: 'it returns false'. Refute it at one input. -/
def extentPlaysWrong : ChangeSpec := { name := "extentPlays", fn := fun _ => fun
  | [d1, d2] => { results := [.lit (.bool false)], args := [d1, d2] }
  | _ => none }
def ExtentPlaysWrongFalsely : Prop := extentPlaysRow.holds Try.pinned (OpenSpec.ofChange extentPlaysWrong)

/-- 'nacellelaw06.ExtentConfined': WHATEVER THE INPUT: true; the input reads as it did. -/
def extentConfinedSpec : ChangeSpec := { name := "extentConfined", fn := fun _ => fun
  | [d1, d2] => { results := [.lit (.bool true)], args := [d1, d2] }
  | _ => none }
def extentConfinedRow : OpenClaim := { program := "ytdhaikcmgegfoaa", sum := "80757677069c8e26e25053c997f18a618b1811efc11979405b339ecdceee25ac", func := "nacelle/nacellelaw06.ExtentConfined", spec := "extentConfined", unfollowed := true, recurses := true, apart := false }
def ExtentConfinedSaid : Prop := extentConfinedRow.holds Try.pinned (OpenSpec.ofChange extentConfinedSpec)

/-- ITS FALSE NEIGHBOUR: 'it returns false'. Refute it at one input. -/
def extentConfinedWrong : ChangeSpec := { name := "extentConfined", fn := fun _ => fun
  | [d1, d2] => { results := [.lit (.bool false)], args := [d1, d2] }
  | _ => none }
def ExtentConfinedWrongFalsely : Prop := extentConfinedRow.holds Try.pinned (OpenSpec.ofChange extentConfinedWrong)

/-- 'nacellelaw06.ExtentNested': WHATEVER THE INPUT: true; the input reads as it did. -/
def extentNestedSpec : ChangeSpec := { name := "extentNested", fn := fun _ => fun
  | [d1, d2, d3] => { results := [.lit (.bool true)], args := [d1, d2, d3] }
  | _ => none }
def extentNestedRow : OpenClaim := { program := "ytdhaikcmgegfoaa", sum := "80757677069c8e26e25053c997f18a618b1811efc11979405b339ecdceee25ac", func := "nacelle/nacellelaw06.ExtentNested", spec := "extentNested", unfollowed := true, recurses := true, apart := false }
def ExtentNestedSaid : Prop := extentNestedRow.holds Try.pinned (OpenSpec.ofChange extentNestedSpec)

/-- ITS FALSE NEIGHBOUR: 'it returns false'. Refute it at one input. -/
def extentNestedWrong : ChangeSpec := { name := "extentNested", fn := fun _ => fun
  | [d1, d2, d3] => { results := [.lit (.bool false)], args := [d1, d2, d3] }
  | _ => none }
def ExtentNestedWrongFalsely : Prop := extentNestedRow.holds Try.pinned (OpenSpec.ofChange extentNestedWrong)

/- THE SECOND FORM. 'bulk': how many values and letters a reading holds, each counted each time it is reached (what is shared counts as often as it is met; a slice's spare places count too). A statement '..UptoSaid' is the law's where the arguments, and the package variables that the reading takes, are together of bulk at most 1048576: NARROWER than '..Said'. Prove '..Said' where nothing that the law and all that it calls make is longer than what came in: it says more and counts as full. Else prove '..UptoSaid'. A law counts once. -/
mutual
def uptoBulk {H : Type} : DataW H → Nat
  | .lit (.string bytes) => bytes.length + 1
  | .lit _ => 1
  | .nil => 1
  | .ptr d => uptoBulk d + 1
  | .slice elems spare => uptoBulkAll elems + uptoBulkAll spare + 1
  | .agg parts => uptoBulkAll parts + 1
  | .iface _ d => uptoBulk d + 1
  | .map entries => uptoBulkEntries entries + 1
  | .held _ => 1
def uptoBulkAll {H : Type} : List (DataW H) → Nat
  | [] => 0
  | d :: r => uptoBulk d + uptoBulkAll r
def uptoBulkEntries {H : Type} : List (Lit × DataW H) → Nat
  | [] => 0
  | x :: r => uptoBulkEntry x + uptoBulkEntries r
def uptoBulkEntry {H : Type} : Lit × DataW H → Nat
  | (.string bytes, d) => bytes.length + uptoBulk d + 1
  | (_, d) => uptoBulk d + 1
 end
def uptoSmall : (H : Type) → List (DataW H) → Bool := fun _ ds => decide (uptoBulkAll ds ≤ 1048576)
def OpenSpec.upto (s : _root_.Go.ChangeSpec) : _root_.Go.OpenSpec := { _root_.Go.OpenSpec.ofChange s with cond := some uptoSmall }

/-- 'nacellelaw06.ExtentApart', WHERE WHAT IT READS IS OF BULK AT MOST 1048576: true; the input reads as it did. -/
def extentApartUptoRow : OpenClaim := { program := "ytdhaikcmgegfoaa", sum := "80757677069c8e26e25053c997f18a618b1811efc11979405b339ecdceee25ac", func := "nacelle/nacellelaw06.ExtentApart", spec := "extentApart", unfollowed := true, recurses := true, apart := false, narrowed := true }
def ExtentApartUptoSaid : Prop := extentApartUptoRow.holds Try.pinned (OpenSpec.upto extentApartSpec)

/-- 'nacellelaw06.ExtentPlaces', WHERE WHAT IT READS IS OF BULK AT MOST 1048576: true; the input reads as it did. -/
def extentPlacesUptoRow : OpenClaim := { program := "ytdhaikcmgegfoaa", sum := "80757677069c8e26e25053c997f18a618b1811efc11979405b339ecdceee25ac", func := "nacelle/nacellelaw06.ExtentPlaces", spec := "extentPlaces", unfollowed := true, recurses := true, apart := false, narrowed := true }
def ExtentPlacesUptoSaid : Prop := extentPlacesUptoRow.holds Try.pinned (OpenSpec.upto extentPlacesSpec)

/-- 'nacellelaw06.ExtentPlays', WHERE WHAT IT READS IS OF BULK AT MOST 1048576: true; the input reads as it did. -/
def extentPlaysUptoRow : OpenClaim := { program := "ytdhaikcmgegfoaa", sum := "80757677069c8e26e25053c997f18a618b1811efc11979405b339ecdceee25ac", func := "nacelle/nacellelaw06.ExtentPlays", spec := "extentPlays", unfollowed := true, recurses := true, apart := false, narrowed := true }
def ExtentPlaysUptoSaid : Prop := extentPlaysUptoRow.holds Try.pinned (OpenSpec.upto extentPlaysSpec)

/-- 'nacellelaw06.ExtentConfined', WHERE WHAT IT READS IS OF BULK AT MOST 1048576: true; the input reads as it did. -/
def extentConfinedUptoRow : OpenClaim := { program := "ytdhaikcmgegfoaa", sum := "80757677069c8e26e25053c997f18a618b1811efc11979405b339ecdceee25ac", func := "nacelle/nacellelaw06.ExtentConfined", spec := "extentConfined", unfollowed := true, recurses := true, apart := false, narrowed := true }
def ExtentConfinedUptoSaid : Prop := extentConfinedUptoRow.holds Try.pinned (OpenSpec.upto extentConfinedSpec)

/-- 'nacellelaw06.ExtentNested', WHERE WHAT IT READS IS OF BULK AT MOST 1048576: true; the input reads as it did. -/
def extentNestedUptoRow : OpenClaim := { program := "ytdhaikcmgegfoaa", sum := "80757677069c8e26e25053c997f18a618b1811efc11979405b339ecdceee25ac", func := "nacelle/nacellelaw06.ExtentNested", spec := "extentNested", unfollowed := true, recurses := true, apart := false, narrowed := true }
def ExtentNestedUptoSaid : Prop := extentNestedUptoRow.holds Try.pinned (OpenSpec.upto extentNestedSpec)

end Rows
end Go.Proofs.Ytdhaikcmgegfoaa
