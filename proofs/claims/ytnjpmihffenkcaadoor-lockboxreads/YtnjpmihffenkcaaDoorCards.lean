/-
  DERIVED. GIVEN WITH THE SEED: THE CARDS: each row of YtnjpmihffenkcaaDoorRows.lean that lists a variable, with what it lists TIED to the program's text (the seventh form; the later family's looks); each row that meets fmt, with fmt's text TOLD by the authors' own Lean function (tested against real Go, not proved from fmt's source: count such statements apart). THE CARD IS WHAT COUNTS. Prove the row's statement (the work); the ties are given (YtnjpmihffenkcaaDoorTie.lean); close each card by the builder's one call (the guide's Derived/Test/ToyasCard.lean, 'card_holds'). Laid BY PROGRAM, IN A SANDBOX (cutbox-door.mjs). By AI agents, Wed Nov 11 2026. No macro, syntax, notation, axiom, sorry.
-/
import Derived.Test.YtnjpmihffenkcaaDoorRows
import GoSem.ClaimSeven
namespace Go.Proofs.YtnjpmihffenkcaaDoor
namespace Rows

/-- THE TIED CARD OF 'arrearslaw20.LockboxTells'. -/
def lockboxTellsCard : Claim7 := { stood := { row := lockboxTellsRow, standIns := [], harness := (true, "7c4cd83e2d311fee2207a05e489e785eba6e3d57411d2ca253af3ef4f950352a"), looks := true }, kinds := [], alts := [], laidByText := true, laidKinds := [.data, .data, .data, .data, .data], laidTests := true, laidLooks := .later }
def LockboxTellsCardSaid : Prop := Claim7.holds Tryd.pinned (.plain (OpenSpec.ofChange lockboxTellsSpec)) lockboxTellsCard

/-- THE TIED CARD OF 'arrearslaw20.LockboxSpoilt'. -/
def lockboxSpoiltCard : Claim7 := { stood := { row := lockboxSpoiltRow, standIns := [], harness := (true, "7c4cd83e2d311fee2207a05e489e785eba6e3d57411d2ca253af3ef4f950352a"), looks := true }, kinds := [], alts := [], laidByText := true, laidKinds := [.data, .data, .data, .handle, .data, .data, .data], laidTests := true, laidLooks := .later }
def LockboxSpoiltCardSaid : Prop := Claim7.holds Tryd.pinned (.plain (OpenSpec.ofChange lockboxSpoiltSpec)) lockboxSpoiltCard

/-- THE TIED CARD OF 'arrearslaw20.LockboxRoundTrip'. -/
def lockboxRoundTripCard : Claim7 := { stood := { row := lockboxRoundTripRow, standIns := [], harness := (true, "7c4cd83e2d311fee2207a05e489e785eba6e3d57411d2ca253af3ef4f950352a"), looks := true }, kinds := [], alts := [], laidByText := true, laidKinds := [.data, .data, .data, .handle, .data, .data, .data], laidTests := true, laidLooks := .later }
def LockboxRoundTripCardSaid : Prop := Claim7.holds Tryd.pinned (.plain (OpenSpec.ofChange lockboxRoundTripSpec)) lockboxRoundTripCard

/-- THE TIED CARD OF 'arrearslaw20.LockboxReads'. -/
def lockboxReadsCard : Claim7 := { stood := { row := lockboxReadsRow, standIns := [], harness := (true, "7c4cd83e2d311fee2207a05e489e785eba6e3d57411d2ca253af3ef4f950352a"), looks := true }, kinds := [], alts := [], laidByText := true, laidKinds := [.data, .data, .data, .handle, .data, .data, .data], laidTests := true, laidLooks := .later }
def LockboxReadsCardSaid : Prop := Claim7.holds Tryd.pinned (.plain (OpenSpec.ofChange lockboxReadsSpec)) lockboxReadsCard

/-- THE SECOND FORM's CARD OF 'arrearslaw20.LockboxTells'. -/
def lockboxTellsUptoCard : Claim7 := { stood := { row := lockboxTellsUptoRow, standIns := [], harness := (true, "7c4cd83e2d311fee2207a05e489e785eba6e3d57411d2ca253af3ef4f950352a"), looks := true }, kinds := [], alts := [], laidByText := true, laidKinds := [.data, .data, .data, .data, .data], laidTests := true, laidLooks := .later }
def LockboxTellsUptoCardSaid : Prop := Claim7.holds Tryd.pinned (.plain (OpenSpec.upto lockboxTellsSpec)) lockboxTellsUptoCard

/-- THE SECOND FORM's CARD OF 'arrearslaw20.LockboxSpoilt'. -/
def lockboxSpoiltUptoCard : Claim7 := { stood := { row := lockboxSpoiltUptoRow, standIns := [], harness := (true, "7c4cd83e2d311fee2207a05e489e785eba6e3d57411d2ca253af3ef4f950352a"), looks := true }, kinds := [], alts := [], laidByText := true, laidKinds := [.data, .data, .data, .handle, .data, .data, .data], laidTests := true, laidLooks := .later }
def LockboxSpoiltUptoCardSaid : Prop := Claim7.holds Tryd.pinned (.plain (OpenSpec.upto lockboxSpoiltSpec)) lockboxSpoiltUptoCard

/-- THE SECOND FORM's CARD OF 'arrearslaw20.LockboxRoundTrip'. -/
def lockboxRoundTripUptoCard : Claim7 := { stood := { row := lockboxRoundTripUptoRow, standIns := [], harness := (true, "7c4cd83e2d311fee2207a05e489e785eba6e3d57411d2ca253af3ef4f950352a"), looks := true }, kinds := [], alts := [], laidByText := true, laidKinds := [.data, .data, .data, .handle, .data, .data, .data], laidTests := true, laidLooks := .later }
def LockboxRoundTripUptoCardSaid : Prop := Claim7.holds Tryd.pinned (.plain (OpenSpec.upto lockboxRoundTripSpec)) lockboxRoundTripUptoCard

/-- THE SECOND FORM's CARD OF 'arrearslaw20.LockboxReads'. -/
def lockboxReadsUptoCard : Claim7 := { stood := { row := lockboxReadsUptoRow, standIns := [], harness := (true, "7c4cd83e2d311fee2207a05e489e785eba6e3d57411d2ca253af3ef4f950352a"), looks := true }, kinds := [], alts := [], laidByText := true, laidKinds := [.data, .data, .data, .handle, .data, .data, .data], laidTests := true, laidLooks := .later }
def LockboxReadsUptoCardSaid : Prop := Claim7.holds Tryd.pinned (.plain (OpenSpec.upto lockboxReadsSpec)) lockboxReadsUptoCard
end Rows
end Go.Proofs.YtnjpmihffenkcaaDoor
