/-
  DERIVED. GIVEN WITH THE SEED: THE CARDS: each row of YtkmmpffkmoaceaaDoorRows.lean that lists a variable, with what it lists TIED to the program's text (the seventh form; the later family's looks); each row that meets fmt, with fmt's text TOLD by the authors' own Lean function (tested against real Go, not proved from fmt's source: count such statements apart). THE CARD IS WHAT COUNTS. Prove the row's statement (the work); the ties are given (YtkmmpffkmoaceaaDoorTie.lean); close each card by the builder's one call (the guide's Derived/Test/ToyasCard.lean, 'card_holds'). Laid BY PROGRAM, IN A SANDBOX (cutbox-door.mjs). By AI agents, Wed Nov 11 2026. No macro, syntax, notation, axiom, sorry.
-/
import Derived.Test.YtkmmpffkmoaceaaDoorRows
import GoSem.ClaimSeven
namespace Go.Proofs.YtkmmpffkmoaceaaDoor
namespace Rows

/-- THE TIED CARD OF 'arrearslaw8.LedgerBalances'. -/
def ledgerBalancesCard : Claim7 := { stood := { row := ledgerBalancesRow, standIns := [], harness := (true, "1e1c9916fe30cfcfbcb986673ea34d280abf4ef44c9d7abffeed2a340bf869cd"), looks := false }, kinds := [], alts := [], laidByText := true, laidKinds := [.data], laidTests := true, laidLooks := .later }
def LedgerBalancesCardSaid : Prop := Claim7.holds Tryd.pinned (.plain (OpenSpec.ofChange ledgerBalancesSpec)) ledgerBalancesCard

/-- THE TIED CARD OF 'arrearslaw8.LedgerOrderless'. -/
def ledgerOrderlessCard : Claim7 := { stood := { row := ledgerOrderlessRow, standIns := [], harness := (true, "1e1c9916fe30cfcfbcb986673ea34d280abf4ef44c9d7abffeed2a340bf869cd"), looks := false }, kinds := [], alts := [], laidByText := true, laidKinds := [.data], laidTests := true, laidLooks := .later }
def LedgerOrderlessCardSaid : Prop := Claim7.holds Tryd.pinned (.plain (OpenSpec.ofChange ledgerOrderlessSpec)) ledgerOrderlessCard

/-- THE TIED CARD OF 'arrearslaw8.LedgerJoins'. -/
def ledgerJoinsCard : Claim7 := { stood := { row := ledgerJoinsRow, standIns := [], harness := (true, "1e1c9916fe30cfcfbcb986673ea34d280abf4ef44c9d7abffeed2a340bf869cd"), looks := false }, kinds := [], alts := [], laidByText := true, laidKinds := [.data], laidTests := true, laidLooks := .later }
def LedgerJoinsCardSaid : Prop := Claim7.holds Tryd.pinned (.plain (OpenSpec.ofChange ledgerJoinsSpec)) ledgerJoinsCard

/-- THE SECOND FORM's CARD OF 'arrearslaw8.LedgerBalances'. -/
def ledgerBalancesUptoCard : Claim7 := { stood := { row := ledgerBalancesUptoRow, standIns := [], harness := (true, "1e1c9916fe30cfcfbcb986673ea34d280abf4ef44c9d7abffeed2a340bf869cd"), looks := false }, kinds := [], alts := [], laidByText := true, laidKinds := [.data], laidTests := true, laidLooks := .later }
def LedgerBalancesUptoCardSaid : Prop := Claim7.holds Tryd.pinned (.plain (OpenSpec.upto ledgerBalancesSpec)) ledgerBalancesUptoCard

/-- THE SECOND FORM's CARD OF 'arrearslaw8.LedgerOrderless'. -/
def ledgerOrderlessUptoCard : Claim7 := { stood := { row := ledgerOrderlessUptoRow, standIns := [], harness := (true, "1e1c9916fe30cfcfbcb986673ea34d280abf4ef44c9d7abffeed2a340bf869cd"), looks := false }, kinds := [], alts := [], laidByText := true, laidKinds := [.data], laidTests := true, laidLooks := .later }
def LedgerOrderlessUptoCardSaid : Prop := Claim7.holds Tryd.pinned (.plain (OpenSpec.upto ledgerOrderlessSpec)) ledgerOrderlessUptoCard

/-- THE SECOND FORM's CARD OF 'arrearslaw8.LedgerJoins'. -/
def ledgerJoinsUptoCard : Claim7 := { stood := { row := ledgerJoinsUptoRow, standIns := [], harness := (true, "1e1c9916fe30cfcfbcb986673ea34d280abf4ef44c9d7abffeed2a340bf869cd"), looks := false }, kinds := [], alts := [], laidByText := true, laidKinds := [.data], laidTests := true, laidLooks := .later }
def LedgerJoinsUptoCardSaid : Prop := Claim7.holds Tryd.pinned (.plain (OpenSpec.upto ledgerJoinsSpec)) ledgerJoinsUptoCard
end Rows
end Go.Proofs.YtkmmpffkmoaceaaDoor
