/-
  DERIVED. GIVEN WITH THE SEED: THE CARDS: each row of YtkikpdgpggbakaaDoorRows.lean that lists a variable, with what it lists TIED to the program's text (the seventh form; the later family's looks); each row that meets fmt, with fmt's text TOLD by the authors' own Lean function (tested against real Go, not proved from fmt's source: count such statements apart). THE CARD IS WHAT COUNTS. Prove the row's statement (the work); the ties are given (YtkikpdgpggbakaaDoorTie.lean); close each card by the builder's one call (the guide's Derived/Test/ToyasCard.lean, 'card_holds'). Laid BY PROGRAM, IN A SANDBOX (cutbox-door.mjs). By AI agents, Wed Nov 11 2026. No macro, syntax, notation, axiom, sorry.
-/
import Derived.Test.YtkikpdgpggbakaaDoorRows
import GoSem.ClaimSeven
namespace Go.Proofs.YtkikpdgpggbakaaDoor
namespace Rows

/-- THE TIED CARD OF 'arrearslaw20.LockboxLuhn'. -/
def lockboxLuhnCard : Claim7 := { stood := { row := lockboxLuhnRow, standIns := [], harness := (true, "e91af795cc01295537c2bae19883dfa21dc35e4d2786a140862fde9540295ddd"), looks := false }, kinds := [], alts := [], laidByText := true, laidKinds := [.data, .data, .data], laidTests := true, laidLooks := .later }
def LockboxLuhnCardSaid : Prop := Claim7.holds Tryd.pinned (.plain (OpenSpec.ofChange lockboxLuhnSpec)) lockboxLuhnCard

/-- THE TIED CARD OF 'arrearslaw20.LockboxDigits'. -/
def lockboxDigitsCard : Claim7 := { stood := { row := lockboxDigitsRow, standIns := [], harness := (true, "e91af795cc01295537c2bae19883dfa21dc35e4d2786a140862fde9540295ddd"), looks := false }, kinds := [], alts := [], laidByText := true, laidKinds := [.data, .data, .data], laidTests := true, laidLooks := .later }
def LockboxDigitsCardSaid : Prop := Claim7.holds Tryd.pinned (.plain (OpenSpec.ofChange lockboxDigitsSpec)) lockboxDigitsCard

/-- THE SECOND FORM's CARD OF 'arrearslaw20.LockboxLuhn'. -/
def lockboxLuhnUptoCard : Claim7 := { stood := { row := lockboxLuhnUptoRow, standIns := [], harness := (true, "e91af795cc01295537c2bae19883dfa21dc35e4d2786a140862fde9540295ddd"), looks := false }, kinds := [], alts := [], laidByText := true, laidKinds := [.data, .data, .data], laidTests := true, laidLooks := .later }
def LockboxLuhnUptoCardSaid : Prop := Claim7.holds Tryd.pinned (.plain (OpenSpec.upto lockboxLuhnSpec)) lockboxLuhnUptoCard

/-- THE SECOND FORM's CARD OF 'arrearslaw20.LockboxDigits'. -/
def lockboxDigitsUptoCard : Claim7 := { stood := { row := lockboxDigitsUptoRow, standIns := [], harness := (true, "e91af795cc01295537c2bae19883dfa21dc35e4d2786a140862fde9540295ddd"), looks := false }, kinds := [], alts := [], laidByText := true, laidKinds := [.data, .data, .data], laidTests := true, laidLooks := .later }
def LockboxDigitsUptoCardSaid : Prop := Claim7.holds Tryd.pinned (.plain (OpenSpec.upto lockboxDigitsSpec)) lockboxDigitsUptoCard
end Rows
end Go.Proofs.YtkikpdgpggbakaaDoor
