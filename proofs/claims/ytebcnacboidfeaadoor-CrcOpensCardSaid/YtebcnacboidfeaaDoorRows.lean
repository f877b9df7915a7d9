/-
  NARROWER THAN 'FOR EVERY INPUT', by the rows' own cells (each row's printed sentence says how): CrcTells: laid · CrcOpens: laid · CrcPieces: laid · CrcLies: laid · CrcFinds: laid · CrcOwn: laid.
  DERIVED. THE GIVEN ROWS OF THIS SEAT. 6 by the template 'for every input the law returns true; each argument reads behind the call as it read before'; 0 by the template 'total and deterministic' (their statements: YtebcnacboidfeaaDoorTotals.lean).
  GIVEN WITH THE SEED: the statements are not yours to turn. If you find one false, say at which input.
  Laid BY PROGRAM, IN A SANDBOX (cutbox-rows.mjs): the forced cells as the released guide's own fill.sh prints them over the translation d3516c4782df21a3… (all of the seat's roots in one cut). By AI agents, Wed Nov 11 2026. No macro, syntax, notation, axiom, sorry.
-/
import Derived.Test.YtebcnacboidfeaaDoorChecked
import GoSem.Claim
import GoSem.ClaimJoined
import GoSem.ClaimMapViews
import Derived.JoinedTies
import Derived.KernelRfl
namespace Go.Proofs.YtebcnacboidfeaaDoor
/- THE CELL 'sum', in the pinned program and in every row, IS THE sha256 OF THE DUMP (.gsa) THAT YtebcnacboidfeaaDoorProg.lean LOADS. Nothing in Lean hashes anything: it is a label: what it is worth is what the hold of that sum in a sandbox is worth. -/
noncomputable def Tryd.pinned : Pinned := { name := "ytebcnacboidfeaadoor", sum := "d3516c4782df21a337253b92ef188bb89ab1886f269f3886b2d26378e45d9f98", checked := Tryd.checked }
namespace Rows
def none {H : Type} : Left H := { results := [], args := [] }

/- WHAT THE LISTED PACKAGE-LEVEL VARIABLES READ AS WHEN THE CALL BEGINS. Each datum BY PROGRAM (the guide's laid-datum.mjs) off the statement by which the dump's own 'gosem.cut.vars' lays the variable. In a bare row this is a premise. The card (YtebcnacboidfeaaDoorCards.lean) ties it to the program's text. -/
def laid_nacelle_crc_shifted {H : Type} : DataW H := .agg [.lit (.int .u32 0), .lit (.int .u32 274646895), .lit (.int .u32 549293790), .lit (.int .u32 820201905), .lit (.int .u32 1098587580), .lit (.int .u32 1361435347), .lit (.int .u32 1640403810), .lit (.int .u32 1905808397), .lit (.int .u32 2197175160), .lit (.int .u32 2460548119), .lit (.int .u32 2722870694), .lit (.int .u32 2987750089), .lit (.int .u32 3280807620), .lit (.int .u32 3553878443), .lit (.int .u32 3811616794), .lit (.int .u32 4084100981)]

/-- 'nacellelaw03.CrcTells': WHATEVER THE INPUT: true; the input reads as it did. -/
def crcTellsSpec : ChangeSpec := { name := "crcTells", fn := fun _ => fun
  | [d1, d2] => { results := [.lit (.bool true)], args := [d1, d2] }
  | _ => none }
def crcTellsRow : OpenClaim := { program := "ytebcnacboidfeaadoor", sum := "d3516c4782df21a337253b92ef188bb89ab1886f269f3886b2d26378e45d9f98", func := "nacelle/nacellelaw03.CrcTells", spec := "crcTells", named := ["nacelle/crc.shifted"], apart := false, laid := [("nacelle/crc.shifted", laid_nacelle_crc_shifted)] }
def CrcTellsSaid : Prop := crcTellsRow.holds Tryd.pinned (OpenSpec.ofChange crcTellsSpec)

/-- ITS FALSE NEIGHBOUR: 'it returns false'. Refute it at one input. -/
def crcTellsWrong : ChangeSpec := { name := "crcTells", fn := fun _ => fun
  | [d1, d2] => { results := [.lit (.bool false)], args := [d1, d2] }
  | _ => none }
def CrcTellsWrongFalsely : Prop := crcTellsRow.holds Tryd.pinned (OpenSpec.ofChange crcTellsWrong)

/-- 'nacellelaw03.CrcOpens': WHATEVER THE INPUT: true; the input reads as it did. -/
def crcOpensSpec : ChangeSpec := { name := "crcOpens", fn := fun _ => fun
  | [d] => { results := [.lit (.bool true)], args := [d] }
  | _ => none }
def crcOpensRow : OpenClaim := { program := "ytebcnacboidfeaadoor", sum := "d3516c4782df21a337253b92ef188bb89ab1886f269f3886b2d26378e45d9f98", func := "nacelle/nacellelaw03.CrcOpens", spec := "crcOpens", named := ["nacelle/crc.shifted"], apart := false, laid := [("nacelle/crc.shifted", laid_nacelle_crc_shifted)] }
def CrcOpensSaid : Prop := crcOpensRow.holds Tryd.pinned (OpenSpec.ofChange crcOpensSpec)

/-- ITS FALSE NEIGHBOUR: 'it returns false'. Refute it at one input. -/
def crcOpensWrong : ChangeSpec := { name := "crcOpens", fn := fun _ => fun
  | [d] => { results := [.lit (.bool false)], args := [d] }
  | _ => none }
def CrcOpensWrongFalsely : Prop := crcOpensRow.holds Tryd.pinned (OpenSpec.ofChange crcOpensWrong)

/-- 'nacellelaw03.CrcPieces': WHATEVER THE INPUT: true; the input reads as it did. -/
def crcPiecesSpec : ChangeSpec := { name := "crcPieces", fn := fun _ => fun
  | [d1, d2] => { results := [.lit (.bool true)], args := [d1, d2] }
  | _ => none }
def crcPiecesRow : OpenClaim := { program := "ytebcnacboidfeaadoor", sum := "d3516c4782df21a337253b92ef188bb89ab1886f269f3886b2d26378e45d9f98", func := "nacelle/nacellelaw03.CrcPieces", spec := "crcPieces", named := ["nacelle/crc.shifted"], apart := false, laid := [("nacelle/crc.shifted", laid_nacelle_crc_shifted)] }
def CrcPiecesSaid : Prop := crcPiecesRow.holds Tryd.pinned (OpenSpec.ofChange crcPiecesSpec)

/-- ITS FALSE NEIGHBOUR: 'it returns false'. Refute it at one input. -/
def crcPiecesWrong : ChangeSpec := { name := "crcPieces", fn := fun _ => fun
  | [d1, d2] => { results := [.lit (.bool false)], args := [d1, d2] }
  | _ => none }
def CrcPiecesWrongFalsely : Prop := crcPiecesRow.holds Tryd.pinned (OpenSpec.ofChange crcPiecesWrong)

/-- 'nacellelaw03.CrcLies': WHATEVER THE INPUT: true; the input reads as it did. -/
def crcLiesSpec : ChangeSpec := { name := "crcLies", fn := fun _ => fun
  | [d1, d2, d3] => { results := [.lit (.bool true)], args := [d1, d2, d3] }
  | _ => none }
def crcLiesRow : OpenClaim := { program := "ytebcnacboidfeaadoor", sum := "d3516c4782df21a337253b92ef188bb89ab1886f269f3886b2d26378e45d9f98", func := "nacelle/nacellelaw03.CrcLies", spec := "crcLies", named := ["nacelle/crc.shifted"], apart := false, laid := [("nacelle/crc.shifted", laid_nacelle_crc_shifted)] }
def CrcLiesSaid : Prop := crcLiesRow.holds Tryd.pinned (OpenSpec.ofChange crcLiesSpec)

/-- ITS FALSE NEIGHBOUR: 'it returns false'. Refute it at one input. -/
def crcLiesWrong : ChangeSpec := { name := "crcLies", fn := fun _ => fun
  | [d1, d2, d3] => { results := [.lit (.bool false)], args := [d1, d2, d3] }
  | _ => none }
def CrcLiesWrongFalsely : Prop := crcLiesRow.holds Tryd.pinned (OpenSpec.ofChange crcLiesWrong)

/-- 'nacellelaw03.CrcFinds': WHATEVER THE INPUT: true; the input reads as it did. -/
def crcFindsSpec : ChangeSpec := { name := "crcFinds", fn := fun _ => fun
  | [d1, d2, d3] => { results := [.lit (.bool true)], args := [d1, d2, d3] }
  | _ => none }
def crcFindsRow : OpenClaim := { program := "ytebcnacboidfeaadoor", sum := "d3516c4782df21a337253b92ef188bb89ab1886f269f3886b2d26378e45d9f98", func := "nacelle/nacellelaw03.CrcFinds", spec := "crcFinds", named := ["nacelle/crc.shifted"], apart := false, laid := [("nacelle/crc.shifted", laid_nacelle_crc_shifted)] }
def CrcFindsSaid : Prop := crcFindsRow.holds Tryd.pinned (OpenSpec.ofChange crcFindsSpec)

/-- ITS FALSE NEIGHBOUR: 'it returns false'. Refute it at one input. -/
def crcFindsWrong : ChangeSpec := { name := "crcFinds", fn := fun _ => fun
  | [d1, d2, d3] => { results := [.lit (.bool false)], args := [d1, d2, d3] }
  | _ => none }
def CrcFindsWrongFalsely : Prop := crcFindsRow.holds Tryd.pinned (OpenSpec.ofChange crcFindsWrong)

/-- 'nacellelaw03.CrcOwn': WHATEVER THE INPUT: true; the input reads as it did. -/
def crcOwnSpec : ChangeSpec := { name := "crcOwn", fn := fun _ => fun
  | [d] => { results := [.lit (.bool true)], args := [d] }
  | _ => none }
def crcOwnRow : OpenClaim := { program := "ytebcnacboidfeaadoor", sum := "d3516c4782df21a337253b92ef188bb89ab1886f269f3886b2d26378e45d9f98", func := "nacelle/nacellelaw03.CrcOwn", spec := "crcOwn", named := ["nacelle/crc.shifted"], apart := false, laid := [("nacelle/crc.shifted", laid_nacelle_crc_shifted)] }
def CrcOwnSaid : Prop := crcOwnRow.holds Tryd.pinned (OpenSpec.ofChange crcOwnSpec)

/-- ITS FALSE NEIGHBOUR: 'it returns false'. Refute it at one input. -/
def crcOwnWrong : ChangeSpec := { name := "crcOwn", fn := fun _ => fun
  | [d] => { results := [.lit (.bool false)], args := [d] }
  | _ => none }
def CrcOwnWrongFalsely : Prop := crcOwnRow.holds Tryd.pinned (OpenSpec.ofChange crcOwnWrong)

/- THE SECOND FORM. 'bulk': how many values and letters a reading holds, each counted each time it is reached (what is shared counts as often as it is met; a slice's spare places count too). A statement '..UptoSaid' is the law's where the arguments, and the package variables that the reading takes, are together of bulk at most 1048576: NARROWER than '..Said'. Prove '..Said' where nothing that the law and all that it calls make is longer than what came in: it says more and counts as full. Else prove '..UptoSaid'. A law counts once. -/
mutual
def uptoBulk {H : Type} : DataW H → Nat
  | .lit (.string bytes) => bytes.length + 1
  | .lit _ => 1
  | .nil => 1
  | .ptr d => uptoBulk d + 1
  | .slice elems spare => uptoBulkAll elems + uptoBulkAll spare + 1
  | .agg parts => uptoBulkAll parts + 1
  | .iface _ d => uptoBulk d + 1
  | .map entries => uptoBulkEntries entries + 1
  | .held _ => 1
def uptoBulkAll {H : Type} : List (DataW H) → Nat
  | [] => 0
  | d :: r => uptoBulk d + uptoBulkAll r
def uptoBulkEntries {H : Type} : List (Lit × DataW H) → Nat
  | [] => 0
  | x :: r => uptoBulkEntry x + uptoBulkEntries r
def uptoBulkEntry {H : Type} : Lit × DataW H → Nat
  | (.string bytes, d) => bytes.length + uptoBulk d + 1
  | (_, d) => uptoBulk d + 1
 end
def uptoSmall : (H : Type) → List (DataW H) → Bool := fun _ ds => decide (uptoBulkAll ds ≤ 1048576)
def OpenSpec.upto (s : _root_.Go.ChangeSpec) : _root_.Go.OpenSpec := { _root_.Go.OpenSpec.ofChange s with cond := some uptoSmall }

/-- 'nacellelaw03.CrcTells', WHERE WHAT IT READS IS OF BULK AT MOST 1048576: true; the input reads as it did. -/
def crcTellsUptoRow : OpenClaim := { program := "ytebcnacboidfeaadoor", sum := "d3516c4782df21a337253b92ef188bb89ab1886f269f3886b2d26378e45d9f98", func := "nacelle/nacellelaw03.CrcTells", spec := "crcTells", named := ["nacelle/crc.shifted"], apart := false, laid := [("nacelle/crc.shifted", laid_nacelle_crc_shifted)], narrowed := true }
def CrcTellsUptoSaid : Prop := crcTellsUptoRow.holds Tryd.pinned (OpenSpec.upto crcTellsSpec)

/-- 'nacellelaw03.CrcOpens', WHERE WHAT IT READS IS OF BULK AT MOST 1048576: true; the input reads as it did. -/
def crcOpensUptoRow : OpenClaim := { program := "ytebcnacboidfeaadoor", sum := "d3516c4782df21a337253b92ef188bb89ab1886f269f3886b2d26378e45d9f98", func := "nacelle/nacellelaw03.CrcOpens", spec := "crcOpens", named := ["nacelle/crc.shifted"], apart := false, laid := [("nacelle/crc.shifted", laid_nacelle_crc_shifted)], narrowed := true }
def CrcOpensUptoSaid : Prop := crcOpensUptoRow.holds Tryd.pinned (OpenSpec.upto crcOpensSpec)

/-- 'nacellelaw03.CrcPieces', WHERE WHAT IT READS IS OF BULK AT MOST 1048576: true; the input reads as it did. -/
def crcPiecesUptoRow : OpenClaim := { program := "ytebcnacboidfeaadoor", sum := "d3516c4782df21a337253b92ef188bb89ab1886f269f3886b2d26378e45d9f98", func := "nacelle/nacellelaw03.CrcPieces", spec := "crcPieces", named := ["nacelle/crc.shifted"], apart := false, laid := [("nacelle/crc.shifted", laid_nacelle_crc_shifted)], narrowed := true }
def CrcPiecesUptoSaid : Prop := crcPiecesUptoRow.holds Tryd.pinned (OpenSpec.upto crcPiecesSpec)

/-- 'nacellelaw03.CrcLies', WHERE WHAT IT READS IS OF BULK AT MOST 1048576: true; the input reads as it did. -/
def crcLiesUptoRow : OpenClaim := { program := "ytebcnacboidfeaadoor", sum := "d3516c4782df21a337253b92ef188bb89ab1886f269f3886b2d26378e45d9f98", func := "nacelle/nacellelaw03.CrcLies", spec := "crcLies", named := ["nacelle/crc.shifted"], apart := false, laid := [("nacelle/crc.shifted", laid_nacelle_crc_shifted)], narrowed := true }
def CrcLiesUptoSaid : Prop := crcLiesUptoRow.holds Tryd.pinned (OpenSpec.upto crcLiesSpec)

/-- 'nacellelaw03.CrcFinds', WHERE WHAT IT READS IS OF BULK AT MOST 1048576: true; the input reads as it did. -/
def crcFindsUptoRow : OpenClaim := { program := "ytebcnacboidfeaadoor", sum := "d3516c4782df21a337253b92ef188bb89ab1886f269f3886b2d26378e45d9f98", func := "nacelle/nacellelaw03.CrcFinds", spec := "crcFinds", named := ["nacelle/crc.shifted"], apart := false, laid := [("nacelle/crc.shifted", laid_nacelle_crc_shifted)], narrowed := true }
def CrcFindsUptoSaid : Prop := crcFindsUptoRow.holds Tryd.pinned (OpenSpec.upto crcFindsSpec)

/-- 'nacellelaw03.CrcOwn', WHERE WHAT IT READS IS OF BULK AT MOST 1048576: true; the input reads as it did. -/
def crcOwnUptoRow : OpenClaim := { program := "ytebcnacboidfeaadoor", sum := "d3516c4782df21a337253b92ef188bb89ab1886f269f3886b2d26378e45d9f98", func := "nacelle/nacellelaw03.CrcOwn", spec := "crcOwn", named := ["nacelle/crc.shifted"], apart := false, laid := [("nacelle/crc.shifted", laid_nacelle_crc_shifted)], narrowed := true }
def CrcOwnUptoSaid : Prop := crcOwnUptoRow.holds Tryd.pinned (OpenSpec.upto crcOwnSpec)

end Rows
end Go.Proofs.YtebcnacboidfeaaDoor
