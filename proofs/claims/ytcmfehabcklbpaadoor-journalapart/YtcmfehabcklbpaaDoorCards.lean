/-
  DERIVED. GIVEN WITH THE SEED: THE CARDS: each row of YtcmfehabcklbpaaDoorRows.lean that lists a variable, with what it lists TIED to the program's text (the seventh form; the later family's looks); each row that meets fmt, with fmt's text TOLD by the authors' own Lean function (tested against real Go, not proved from fmt's source: count such statements apart). THE CARD IS WHAT COUNTS. Prove the row's statement (the work); the ties are given (YtcmfehabcklbpaaDoorTie.lean); close each card by the builder's one call (the guide's Derived/Test/ToyasCard.lean, 'card_holds'). Laid BY PROGRAM, IN A SANDBOX (cutbox-door.mjs). By AI agents, Wed Nov 11 2026. No macro, syntax, notation, axiom, sorry.
-/
import Derived.Test.YtcmfehabcklbpaaDoorRows
import GoSem.ClaimSeven
namespace Go.Proofs.YtcmfehabcklbpaaDoor
namespace Rows

/-- THE TIED CARD OF 'arrearslaw7.JournalCosts'. -/
def journalCostsCard : Claim7 := { stood := { row := journalCostsRow, standIns := [], harness := (true, "636072e545f67c7ca708227ccdf253e219a4417f63ac75c48d2af03b3b683464"), looks := false }, kinds := [], alts := [], laidByText := true, laidKinds := [.data], laidTests := true, laidLooks := .later }
def JournalCostsCardSaid : Prop := Claim7.holds Tryd.pinned (.plain (OpenSpec.ofChange journalCostsSpec)) journalCostsCard

/-- THE TIED CARD OF 'arrearslaw7.JournalApart'. -/
def journalApartCard : Claim7 := { stood := { row := journalApartRow, standIns := [], harness := (true, "636072e545f67c7ca708227ccdf253e219a4417f63ac75c48d2af03b3b683464"), looks := false }, kinds := [], alts := [], laidByText := true, laidKinds := [.data], laidTests := true, laidLooks := .later }
def JournalApartCardSaid : Prop := Claim7.holds Tryd.pinned (.plain (OpenSpec.ofChange journalApartSpec)) journalApartCard

/-- THE TIED CARD OF 'arrearslaw7.JournalTorn'. -/
def journalTornCard : Claim7 := { stood := { row := journalTornRow, standIns := [], harness := (true, "636072e545f67c7ca708227ccdf253e219a4417f63ac75c48d2af03b3b683464"), looks := false }, kinds := [], alts := [], laidByText := true, laidKinds := [.data], laidTests := true, laidLooks := .later }
def JournalTornCardSaid : Prop := Claim7.holds Tryd.pinned (.plain (OpenSpec.ofChange journalTornSpec)) journalTornCard

/-- THE TIED CARD OF 'arrearslaw7.JournalCommits'. -/
def journalCommitsCard : Claim7 := { stood := { row := journalCommitsRow, standIns := [], harness := (true, "636072e545f67c7ca708227ccdf253e219a4417f63ac75c48d2af03b3b683464"), looks := false }, kinds := [], alts := [], laidByText := true, laidKinds := [.data], laidTests := true, laidLooks := .later }
def JournalCommitsCardSaid : Prop := Claim7.holds Tryd.pinned (.plain (OpenSpec.ofChange journalCommitsSpec)) journalCommitsCard

/-- THE SECOND FORM's CARD OF 'arrearslaw7.JournalCosts'. -/
def journalCostsUptoCard : Claim7 := { stood := { row := journalCostsUptoRow, standIns := [], harness := (true, "636072e545f67c7ca708227ccdf253e219a4417f63ac75c48d2af03b3b683464"), looks := false }, kinds := [], alts := [], laidByText := true, laidKinds := [.data], laidTests := true, laidLooks := .later }
def JournalCostsUptoCardSaid : Prop := Claim7.holds Tryd.pinned (.plain (OpenSpec.upto journalCostsSpec)) journalCostsUptoCard

/-- THE SECOND FORM's CARD OF 'arrearslaw7.JournalApart'. -/
def journalApartUptoCard : Claim7 := { stood := { row := journalApartUptoRow, standIns := [], harness := (true, "636072e545f67c7ca708227ccdf253e219a4417f63ac75c48d2af03b3b683464"), looks := false }, kinds := [], alts := [], laidByText := true, laidKinds := [.data], laidTests := true, laidLooks := .later }
def JournalApartUptoCardSaid : Prop := Claim7.holds Tryd.pinned (.plain (OpenSpec.upto journalApartSpec)) journalApartUptoCard

/-- THE SECOND FORM's CARD OF 'arrearslaw7.JournalTorn'. -/
def journalTornUptoCard : Claim7 := { stood := { row := journalTornUptoRow, standIns := [], harness := (true, "636072e545f67c7ca708227ccdf253e219a4417f63ac75c48d2af03b3b683464"), looks := false }, kinds := [], alts := [], laidByText := true, laidKinds := [.data], laidTests := true, laidLooks := .later }
def JournalTornUptoCardSaid : Prop := Claim7.holds Tryd.pinned (.plain (OpenSpec.upto journalTornSpec)) journalTornUptoCard

/-- THE SECOND FORM's CARD OF 'arrearslaw7.JournalCommits'. -/
def journalCommitsUptoCard : Claim7 := { stood := { row := journalCommitsUptoRow, standIns := [], harness := (true, "636072e545f67c7ca708227ccdf253e219a4417f63ac75c48d2af03b3b683464"), looks := false }, kinds := [], alts := [], laidByText := true, laidKinds := [.data], laidTests := true, laidLooks := .later }
def JournalCommitsUptoCardSaid : Prop := Claim7.holds Tryd.pinned (.plain (OpenSpec.upto journalCommitsSpec)) journalCommitsUptoCard
end Rows
end Go.Proofs.YtcmfehabcklbpaaDoor
