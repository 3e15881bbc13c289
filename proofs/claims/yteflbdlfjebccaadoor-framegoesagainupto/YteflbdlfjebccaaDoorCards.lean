/-
  DERIVED. GIVEN WITH THE SEED: THE CARDS: each row of YteflbdlfjebccaaDoorRows.lean that lists a variable, with what it lists TIED to the program's text (the seventh form; the later family's looks); each row that meets fmt, with fmt's text TOLD by the authors' own Lean function (tested against real Go, not proved from fmt's source: count such statements apart). THE CARD IS WHAT COUNTS. Prove the row's statement (the work); the ties are given (YteflbdlfjebccaaDoorTie.lean); close each card by the builder's one call (the guide's Derived/Test/ToyasCard.lean, 'card_holds'). Laid BY PROGRAM, IN A SANDBOX (cutbox-door.mjs). By AI agents, Wed Nov 11 2026. No macro, syntax, notation, axiom, sorry.
-/
import Derived.Test.YteflbdlfjebccaaDoorRows
import GoSem.ClaimSeven
namespace Go.Proofs.YteflbdlfjebccaaDoor
namespace Rows

/-- THE TIED CARD OF 'arrearslaw6.FrameGoesAgain'. -/
def frameGoesAgainCard : Claim7 := { stood := { row := frameGoesAgainRow, standIns := [], harness := (true, "67e7ac7e407445834309d04f9355c5d34f50b49e48afb8e119276c7a45164388"), looks := false }, kinds := [], alts := [], laidByText := true, laidKinds := [.data], laidTests := true, laidLooks := .later }
def FrameGoesAgainCardSaid : Prop := Claim7.holds Tryd.pinned (.plain (OpenSpec.ofChange frameGoesAgainSpec)) frameGoesAgainCard

/-- THE SECOND FORM's CARD OF 'arrearslaw6.FrameGoesAgain'. -/
def frameGoesAgainUptoCard : Claim7 := { stood := { row := frameGoesAgainUptoRow, standIns := [], harness := (true, "67e7ac7e407445834309d04f9355c5d34f50b49e48afb8e119276c7a45164388"), looks := false }, kinds := [], alts := [], laidByText := true, laidKinds := [.data], laidTests := true, laidLooks := .later }
def FrameGoesAgainUptoCardSaid : Prop := Claim7.holds Tryd.pinned (.plain (OpenSpec.upto frameGoesAgainSpec)) frameGoesAgainUptoCard
end Rows
end Go.Proofs.YteflbdlfjebccaaDoor
