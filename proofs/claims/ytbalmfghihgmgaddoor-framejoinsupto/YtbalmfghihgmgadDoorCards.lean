/-
  DERIVED. GIVEN WITH THE SEED: THE CARDS: each row of YtbalmfghihgmgadDoorRows.lean that lists a variable, with what it lists TIED to the program's text (the seventh form; the later family's looks); each row that meets fmt, with fmt's text TOLD by the authors' own Lean function (tested against real Go, not proved from fmt's source: count such statements apart). THE CARD IS WHAT COUNTS. Prove the row's statement (the work); the ties are given (YtbalmfghihgmgadDoorTie.lean); close each card by the builder's one call (the guide's Derived/Test/ToyasCard.lean, 'card_holds'). Laid BY PROGRAM, IN A SANDBOX (cutbox-door.mjs). By AI agents, Wed Nov 11 2026. No macro, syntax, notation, axiom, sorry.
-/
import Derived.Test.YtbalmfghihgmgadDoorRows
import GoSem.ClaimSeven
namespace Go.Proofs.YtbalmfghihgmgadDoor
namespace Rows

/-- THE TIED CARD OF 'arrearslaw6.FrameScans'. -/
def frameScansCard : Claim7 := { stood := { row := frameScansRow, standIns := [], harness := (true, "3061fd0021d8b37d880004ac23b1ed8ef0a57aa95852607f6f58f7620bd26bc1"), looks := false }, kinds := [], alts := [], laidByText := true, laidKinds := [.data], laidTests := true, laidLooks := .later }
def FrameScansCardSaid : Prop := Claim7.holds Tryd.pinned (.plain (OpenSpec.ofChange frameScansSpec)) frameScansCard

/-- THE TIED CARD OF 'arrearslaw6.FrameJoins'. -/
def frameJoinsCard : Claim7 := { stood := { row := frameJoinsRow, standIns := [], harness := (true, "3061fd0021d8b37d880004ac23b1ed8ef0a57aa95852607f6f58f7620bd26bc1"), looks := false }, kinds := [], alts := [], laidByText := true, laidKinds := [.data], laidTests := true, laidLooks := .later }
def FrameJoinsCardSaid : Prop := Claim7.holds Tryd.pinned (.plain (OpenSpec.ofChange frameJoinsSpec)) frameJoinsCard

/-- THE TIED CARD OF 'arrearslaw6.FrameGoesAgain'. -/
def frameGoesAgainCard : Claim7 := { stood := { row := frameGoesAgainRow, standIns := [], harness := (true, "3061fd0021d8b37d880004ac23b1ed8ef0a57aa95852607f6f58f7620bd26bc1"), looks := false }, kinds := [], alts := [], laidByText := true, laidKinds := [.data], laidTests := true, laidLooks := .later }
def FrameGoesAgainCardSaid : Prop := Claim7.holds Tryd.pinned (.plain (OpenSpec.ofChange frameGoesAgainSpec)) frameGoesAgainCard

/-- THE SECOND FORM's CARD OF 'arrearslaw6.FrameScans'. -/
def frameScansUptoCard : Claim7 := { stood := { row := frameScansUptoRow, standIns := [], harness := (true, "3061fd0021d8b37d880004ac23b1ed8ef0a57aa95852607f6f58f7620bd26bc1"), looks := false }, kinds := [], alts := [], laidByText := true, laidKinds := [.data], laidTests := true, laidLooks := .later }
def FrameScansUptoCardSaid : Prop := Claim7.holds Tryd.pinned (.plain (OpenSpec.upto frameScansSpec)) frameScansUptoCard

/-- THE SECOND FORM's CARD OF 'arrearslaw6.FrameJoins'. -/
def frameJoinsUptoCard : Claim7 := { stood := { row := frameJoinsUptoRow, standIns := [], harness := (true, "3061fd0021d8b37d880004ac23b1ed8ef0a57aa95852607f6f58f7620bd26bc1"), looks := false }, kinds := [], alts := [], laidByText := true, laidKinds := [.data], laidTests := true, laidLooks := .later }
def FrameJoinsUptoCardSaid : Prop := Claim7.holds Tryd.pinned (.plain (OpenSpec.upto frameJoinsSpec)) frameJoinsUptoCard

/-- THE SECOND FORM's CARD OF 'arrearslaw6.FrameGoesAgain'. -/
def frameGoesAgainUptoCard : Claim7 := { stood := { row := frameGoesAgainUptoRow, standIns := [], harness := (true, "3061fd0021d8b37d880004ac23b1ed8ef0a57aa95852607f6f58f7620bd26bc1"), looks := false }, kinds := [], alts := [], laidByText := true, laidKinds := [.data], laidTests := true, laidLooks := .later }
def FrameGoesAgainUptoCardSaid : Prop := Claim7.holds Tryd.pinned (.plain (OpenSpec.upto frameGoesAgainSpec)) frameGoesAgainUptoCard
end Rows
end Go.Proofs.YtbalmfghihgmgadDoor
