/-
  DERIVED. GIVEN WITH THE SEED: THE CARDS: each row of YthfbmihpdkkcjaaDoorRows.lean that lists a variable, with what it lists TIED to the program's text (the seventh form; the later family's looks); each row that meets fmt, with fmt's text TOLD by the authors' own Lean function (tested against real Go, not proved from fmt's source: count such statements apart). THE CARD IS WHAT COUNTS. Prove the row's statement (the work); the ties are given (YthfbmihpdkkcjaaDoorTie.lean); close each card by the builder's one call (the guide's Derived/Test/ToyasCard.lean, 'card_holds'). Laid BY PROGRAM, IN A SANDBOX (cutbox-door.mjs). By AI agents, Wed Nov 11 2026. No macro, syntax, notation, axiom, sorry.
-/
import Derived.Test.YthfbmihpdkkcjaaDoorRows
import GoSem.ClaimSeven
namespace Go.Proofs.YthfbmihpdkkcjaaDoor
namespace Rows

/-- THE TIED CARD OF 'nacellelaw09.GramNumbers'. -/
def gramNumbersCard : Claim7 := { stood := { row := gramNumbersRow, standIns := [], harness := (true, "6bb6c3ca6179f4e68b4e1480f03d88997f0e0a80f9caf95e44ef95c079617ff1"), looks := true }, kinds := [], alts := [], laidByText := true, laidKinds := [.data, .data, .data, .handle], laidTests := true, laidLooks := .later }
def GramNumbersCardSaid : Prop := Claim7.holds Tryd.pinned (.plain (OpenSpec.ofChange gramNumbersSpec)) gramNumbersCard

/-- THE TIED CARD OF 'nacellelaw09.GramTakes'. -/
def gramTakesCard : Claim7 := { stood := { row := gramTakesRow, standIns := [], harness := (true, "6bb6c3ca6179f4e68b4e1480f03d88997f0e0a80f9caf95e44ef95c079617ff1"), looks := true }, kinds := [], alts := [], laidByText := true, laidKinds := [.data, .data, .data, .handle], laidTests := true, laidLooks := .later }
def GramTakesCardSaid : Prop := Claim7.holds Tryd.pinned (.plain (OpenSpec.ofChange gramTakesSpec)) gramTakesCard

/-- THE TIED CARD OF 'nacellelaw09.GramBegins'. -/
def gramBeginsCard : Claim7 := { stood := { row := gramBeginsRow, standIns := [], harness := (true, "6bb6c3ca6179f4e68b4e1480f03d88997f0e0a80f9caf95e44ef95c079617ff1"), looks := true }, kinds := [], alts := [], laidByText := true, laidKinds := [.data, .data, .data, .handle], laidTests := true, laidLooks := .later }
def GramBeginsCardSaid : Prop := Claim7.holds Tryd.pinned (.plain (OpenSpec.ofChange gramBeginsSpec)) gramBeginsCard

/-- THE SECOND FORM's CARD OF 'nacellelaw09.GramNumbers'. -/
def gramNumbersUptoCard : Claim7 := { stood := { row := gramNumbersUptoRow, standIns := [], harness := (true, "6bb6c3ca6179f4e68b4e1480f03d88997f0e0a80f9caf95e44ef95c079617ff1"), looks := true }, kinds := [], alts := [], laidByText := true, laidKinds := [.data, .data, .data, .handle], laidTests := true, laidLooks := .later }
def GramNumbersUptoCardSaid : Prop := Claim7.holds Tryd.pinned (.plain (OpenSpec.upto gramNumbersSpec)) gramNumbersUptoCard

/-- THE SECOND FORM's CARD OF 'nacellelaw09.GramTakes'. -/
def gramTakesUptoCard : Claim7 := { stood := { row := gramTakesUptoRow, standIns := [], harness := (true, "6bb6c3ca6179f4e68b4e1480f03d88997f0e0a80f9caf95e44ef95c079617ff1"), looks := true }, kinds := [], alts := [], laidByText := true, laidKinds := [.data, .data, .data, .handle], laidTests := true, laidLooks := .later }
def GramTakesUptoCardSaid : Prop := Claim7.holds Tryd.pinned (.plain (OpenSpec.upto gramTakesSpec)) gramTakesUptoCard

/-- THE SECOND FORM's CARD OF 'nacellelaw09.GramBegins'. -/
def gramBeginsUptoCard : Claim7 := { stood := { row := gramBeginsUptoRow, standIns := [], harness := (true, "6bb6c3ca6179f4e68b4e1480f03d88997f0e0a80f9caf95e44ef95c079617ff1"), looks := true }, kinds := [], alts := [], laidByText := true, laidKinds := [.data, .data, .data, .handle], laidTests := true, laidLooks := .later }
def GramBeginsUptoCardSaid : Prop := Claim7.holds Tryd.pinned (.plain (OpenSpec.upto gramBeginsSpec)) gramBeginsUptoCard
end Rows
end Go.Proofs.YthfbmihpdkkcjaaDoor
