/-
  DERIVED. GIVEN WITH THE SEED: THE CARDS: each row of YtacdnigeboeleaaDoorRows.lean that lists a variable, with what it lists TIED to the program's text (the seventh form; the later family's looks); each row that meets fmt, with fmt's text TOLD by the authors' own Lean function (tested against real Go, not proved from fmt's source: count such statements apart). THE CARD IS WHAT COUNTS. Prove the row's statement (the work); the ties are given (YtacdnigeboeleaaDoorTie.lean); close each card by the builder's one call (the guide's Derived/Test/ToyasCard.lean, 'card_holds'). Laid BY PROGRAM, IN A SANDBOX (cutbox-door.mjs). By AI agents, Wed Nov 11 2026. No macro, syntax, notation, axiom, sorry.
-/
import Derived.Test.YtacdnigeboeleaaDoorRows
import GoSem.ClaimSeven
namespace Go.Proofs.YtacdnigeboeleaaDoor
namespace Rows

/-- THE TIED CARD OF 'arrearslaw8.LedgerExact'. -/
def ledgerExactCard : Claim7 := { stood := { row := ledgerExactRow, standIns := [], harness := (true, "1f05298dd71d652283972899fefe68d95feb17177cd5ade7e619df68eb3c39e5"), looks := false }, kinds := [], alts := [], laidByText := true, laidKinds := [.data], laidTests := true, laidLooks := .later }
def LedgerExactCardSaid : Prop := Claim7.holds Tryd.pinned (.plain (OpenSpec.ofChange ledgerExactSpec)) ledgerExactCard

/-- THE SECOND FORM's CARD OF 'arrearslaw8.LedgerExact'. -/
def ledgerExactUptoCard : Claim7 := { stood := { row := ledgerExactUptoRow, standIns := [], harness := (true, "1f05298dd71d652283972899fefe68d95feb17177cd5ade7e619df68eb3c39e5"), looks := false }, kinds := [], alts := [], laidByText := true, laidKinds := [.data], laidTests := true, laidLooks := .later }
def LedgerExactUptoCardSaid : Prop := Claim7.holds Tryd.pinned (.plain (OpenSpec.upto ledgerExactSpec)) ledgerExactUptoCard
end Rows
end Go.Proofs.YtacdnigeboeleaaDoor
