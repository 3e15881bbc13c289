/-
  DERIVED. GIVEN WITH THE SEED: THE CARDS: each row of YtkmmpffkmoaceabDoorRows.lean that lists a variable, with what it lists TIED to the program's text (the seventh form; the later family's looks); each row that meets fmt, with fmt's text TOLD by the authors' own Lean function (tested against real Go, not proved from fmt's source: count such statements apart). THE CARD IS WHAT COUNTS. Prove the row's statement (the work); the ties are given (YtkmmpffkmoaceabDoorTie.lean); close each card by the builder's one call (the guide's Derived/Test/ToyasCard.lean, 'card_holds'). Laid BY PROGRAM, IN A SANDBOX (cutbox-door.mjs). By AI agents, Wed Nov 11 2026. No macro, syntax, notation, axiom, sorry.
-/
import Derived.Test.YtkmmpffkmoaceabDoorRows
import GoSem.ClaimSeven
namespace Go.Proofs.YtkmmpffkmoaceabDoor
namespace Rows

/-- THE TIED CARD OF 'arrearslaw8.LedgerAllOrNone'. -/
def ledgerAllOrNoneCard : Claim7 := { stood := { row := ledgerAllOrNoneRow, standIns := [], harness := (true, "c55e4cf5d39aa23a1ef4d0f00b08f71fea710ca5bf51e74779d1cd3b96cbda67"), looks := false }, kinds := [], alts := [], laidByText := true, laidKinds := [.data], laidTests := true, laidLooks := .later }
def LedgerAllOrNoneCardSaid : Prop := Claim7.holds Tryd.pinned (.plain (OpenSpec.ofChange ledgerAllOrNoneSpec)) ledgerAllOrNoneCard

/-- THE TIED CARD OF 'arrearslaw8.LedgerUndoes'. -/
def ledgerUndoesCard : Claim7 := { stood := { row := ledgerUndoesRow, standIns := [], harness := (true, "c55e4cf5d39aa23a1ef4d0f00b08f71fea710ca5bf51e74779d1cd3b96cbda67"), looks := false }, kinds := [], alts := [], laidByText := true, laidKinds := [.data], laidTests := true, laidLooks := .later }
def LedgerUndoesCardSaid : Prop := Claim7.holds Tryd.pinned (.plain (OpenSpec.ofChange ledgerUndoesSpec)) ledgerUndoesCard

/-- THE TIED CARD OF 'arrearslaw8.LedgerSides'. -/
def ledgerSidesCard : Claim7 := { stood := { row := ledgerSidesRow, standIns := [], harness := (true, "c55e4cf5d39aa23a1ef4d0f00b08f71fea710ca5bf51e74779d1cd3b96cbda67"), looks := false }, kinds := [], alts := [], laidByText := true, laidKinds := [.data], laidTests := true, laidLooks := .later }
def LedgerSidesCardSaid : Prop := Claim7.holds Tryd.pinned (.plain (OpenSpec.ofChange ledgerSidesSpec)) ledgerSidesCard

/-- THE TIED CARD OF 'arrearslaw8.LedgerBalanced'. -/
def ledgerBalancedCard : Claim7 := { stood := { row := ledgerBalancedRow, standIns := [], harness := (true, "c55e4cf5d39aa23a1ef4d0f00b08f71fea710ca5bf51e74779d1cd3b96cbda67"), looks := false }, kinds := [], alts := [], laidByText := true, laidKinds := [.data], laidTests := true, laidLooks := .later }
def LedgerBalancedCardSaid : Prop := Claim7.holds Tryd.pinned (.plain (OpenSpec.ofChange ledgerBalancedSpec)) ledgerBalancedCard

/-- THE TIED CARD OF 'arrearslaw8.LedgerPosts'. -/
def ledgerPostsCard : Claim7 := { stood := { row := ledgerPostsRow, standIns := [], harness := (true, "c55e4cf5d39aa23a1ef4d0f00b08f71fea710ca5bf51e74779d1cd3b96cbda67"), looks := false }, kinds := [], alts := [], laidByText := true, laidKinds := [.data], laidTests := true, laidLooks := .later }
def LedgerPostsCardSaid : Prop := Claim7.holds Tryd.pinned (.plain (OpenSpec.ofChange ledgerPostsSpec)) ledgerPostsCard

/-- THE SECOND FORM's CARD OF 'arrearslaw8.LedgerAllOrNone'. -/
def ledgerAllOrNoneUptoCard : Claim7 := { stood := { row := ledgerAllOrNoneUptoRow, standIns := [], harness := (true, "c55e4cf5d39aa23a1ef4d0f00b08f71fea710ca5bf51e74779d1cd3b96cbda67"), looks := false }, kinds := [], alts := [], laidByText := true, laidKinds := [.data], laidTests := true, laidLooks := .later }
def LedgerAllOrNoneUptoCardSaid : Prop := Claim7.holds Tryd.pinned (.plain (OpenSpec.upto ledgerAllOrNoneSpec)) ledgerAllOrNoneUptoCard

/-- THE SECOND FORM's CARD OF 'arrearslaw8.LedgerUndoes'. -/
def ledgerUndoesUptoCard : Claim7 := { stood := { row := ledgerUndoesUptoRow, standIns := [], harness := (true, "c55e4cf5d39aa23a1ef4d0f00b08f71fea710ca5bf51e74779d1cd3b96cbda67"), looks := false }, kinds := [], alts := [], laidByText := true, laidKinds := [.data], laidTests := true, laidLooks := .later }
def LedgerUndoesUptoCardSaid : Prop := Claim7.holds Tryd.pinned (.plain (OpenSpec.upto ledgerUndoesSpec)) ledgerUndoesUptoCard

/-- THE SECOND FORM's CARD OF 'arrearslaw8.LedgerSides'. -/
def ledgerSidesUptoCard : Claim7 := { stood := { row := ledgerSidesUptoRow, standIns := [], harness := (true, "c55e4cf5d39aa23a1ef4d0f00b08f71fea710ca5bf51e74779d1cd3b96cbda67"), looks := false }, kinds := [], alts := [], laidByText := true, laidKinds := [.data], laidTests := true, laidLooks := .later }
def LedgerSidesUptoCardSaid : Prop := Claim7.holds Tryd.pinned (.plain (OpenSpec.upto ledgerSidesSpec)) ledgerSidesUptoCard

/-- THE SECOND FORM's CARD OF 'arrearslaw8.LedgerBalanced'. -/
def ledgerBalancedUptoCard : Claim7 := { stood := { row := ledgerBalancedUptoRow, standIns := [], harness := (true, "c55e4cf5d39aa23a1ef4d0f00b08f71fea710ca5bf51e74779d1cd3b96cbda67"), looks := false }, kinds := [], alts := [], laidByText := true, laidKinds := [.data], laidTests := true, laidLooks := .later }
def LedgerBalancedUptoCardSaid : Prop := Claim7.holds Tryd.pinned (.plain (OpenSpec.upto ledgerBalancedSpec)) ledgerBalancedUptoCard

/-- THE SECOND FORM's CARD OF 'arrearslaw8.LedgerPosts'. -/
def ledgerPostsUptoCard : Claim7 := { stood := { row := ledgerPostsUptoRow, standIns := [], harness := (true, "c55e4cf5d39aa23a1ef4d0f00b08f71fea710ca5bf51e74779d1cd3b96cbda67"), looks := false }, kinds := [], alts := [], laidByText := true, laidKinds := [.data], laidTests := true, laidLooks := .later }
def LedgerPostsUptoCardSaid : Prop := Claim7.holds Tryd.pinned (.plain (OpenSpec.upto ledgerPostsSpec)) ledgerPostsUptoCard
end Rows
end Go.Proofs.YtkmmpffkmoaceabDoor
