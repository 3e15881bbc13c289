/-
  DERIVED. GIVEN WITH THE SEED: THE CARDS: each row of YtplebplpachgiabDoorRows.lean that lists a variable, with what it lists TIED to the program's text (the seventh form; the later family's looks); each row that meets fmt, with fmt's text TOLD by the authors' own Lean function (tested against real Go, not proved from fmt's source: count such statements apart). THE CARD IS WHAT COUNTS. Prove the row's statement (the work); the ties are given (YtplebplpachgiabDoorTie.lean); close each card by the builder's one call (the guide's Derived/Test/ToyasCard.lean, 'card_holds'). Laid BY PROGRAM, IN A SANDBOX (cutbox-door.mjs). By AI agents, Wed Nov 11 2026. No macro, syntax, notation, axiom, sorry.
-/
import Derived.Test.YtplebplpachgiabDoorRows
import GoSem.ClaimSeven
namespace Go.Proofs.YtplebplpachgiabDoor
namespace Rows

/-- THE TIED CARD OF 'arrearslaw9.WaterfallBooks'. -/
def waterfallBooksCard : Claim7 := { stood := { row := waterfallBooksRow, standIns := [], harness := (true, "d74d46c028e22248c0a9aa965ab154888387d150b63998f89f685c9479810e4c"), looks := false }, kinds := [], alts := [], laidByText := true, laidKinds := [.data, .data], laidTests := true, laidLooks := .later }
def WaterfallBooksCardSaid : Prop := Claim7.holds Tryd.pinned (.plain (OpenSpec.ofChange waterfallBooksSpec)) waterfallBooksCard

/-- THE SECOND FORM's CARD OF 'arrearslaw9.WaterfallBooks'. -/
def waterfallBooksUptoCard : Claim7 := { stood := { row := waterfallBooksUptoRow, standIns := [], harness := (true, "d74d46c028e22248c0a9aa965ab154888387d150b63998f89f685c9479810e4c"), looks := false }, kinds := [], alts := [], laidByText := true, laidKinds := [.data, .data], laidTests := true, laidLooks := .later }
def WaterfallBooksUptoCardSaid : Prop := Claim7.holds Tryd.pinned (.plain (OpenSpec.upto waterfallBooksSpec)) waterfallBooksUptoCard
end Rows
end Go.Proofs.YtplebplpachgiabDoor
