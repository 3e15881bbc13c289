/-
  DERIVED. GIVEN WITH THE SEED: THE CARDS: each row of YtfdahdloihgjeacDoorRows.lean that lists a variable, with what it lists TIED to the program's text (the seventh form; the later family's looks); each row that meets fmt, with fmt's text TOLD by the authors' own Lean function (tested against real Go, not proved from fmt's source: count such statements apart). THE CARD IS WHAT COUNTS. Prove the row's statement (the work); the ties are given (YtfdahdloihgjeacDoorTie.lean); close each card by the builder's one call (the guide's Derived/Test/ToyasCard.lean, 'card_holds'). Laid BY PROGRAM, IN A SANDBOX (cutbox-door.mjs). By AI agents, Wed Nov 11 2026. No macro, syntax, notation, axiom, sorry.
-/
import Derived.Test.YtfdahdloihgjeacDoorRows
import GoSem.ClaimSeven
namespace Go.Proofs.YtfdahdloihgjeacDoor
namespace Rows

/-- THE TIED CARD OF 'arrearslaw1.MoneyExact'. -/
def moneyExactCard : Claim7 := { stood := { row := moneyExactRow, standIns := [], harness := (true, "0d503e09d5cc77278aa3990a3f0128a7eec1dffbe2559629fb6f312d7b4481cc"), looks := true }, kinds := [], alts := [], laidByText := true, laidKinds := [.data, .data, .data, .sentinel, .sentinel], laidTests := true, laidLooks := .later }
def MoneyExactCardSaid : Prop := Claim7.holds Tryd.pinned (.plain (OpenSpec.ofChange moneyExactSpec)) moneyExactCard

/-- THE SECOND FORM's CARD OF 'arrearslaw1.MoneyExact'. -/
def moneyExactUptoCard : Claim7 := { stood := { row := moneyExactUptoRow, standIns := [], harness := (true, "0d503e09d5cc77278aa3990a3f0128a7eec1dffbe2559629fb6f312d7b4481cc"), looks := true }, kinds := [], alts := [], laidByText := true, laidKinds := [.data, .data, .data, .sentinel, .sentinel], laidTests := true, laidLooks := .later }
def MoneyExactUptoCardSaid : Prop := Claim7.holds Tryd.pinned (.plain (OpenSpec.upto moneyExactSpec)) moneyExactUptoCard
end Rows
end Go.Proofs.YtfdahdloihgjeacDoor
