/-
  DERIVED. GIVEN WITH THE SEED: THE CARDS: each row of YtnelmgjdbheogacDoorRows.lean that lists a variable, with what it lists TIED to the program's text (the seventh form; the later family's looks); each row that meets fmt, with fmt's text TOLD by the authors' own Lean function (tested against real Go, not proved from fmt's source: count such statements apart). THE CARD IS WHAT COUNTS. Prove the row's statement (the work); the ties are given (YtnelmgjdbheogacDoorTie.lean); close each card by the builder's one call (the guide's Derived/Test/ToyasCard.lean, 'card_holds'). Laid BY PROGRAM, IN A SANDBOX (cutbox-door.mjs). By AI agents, Wed Nov 11 2026. No macro, syntax, notation, axiom, sorry.
-/
import Derived.Test.YtnelmgjdbheogacDoorRows
import GoSem.ClaimSeven
namespace Go.Proofs.YtnelmgjdbheogacDoor
namespace Rows

/-- THE TIED CARD OF 'arrearslaw2.CalendarTexts'. -/
def calendarTextsCard : Claim7 := { stood := { row := calendarTextsRow, standIns := [], harness := (true, "b04217a0a81cf0cd1aec251e044002968d99f41af5678501de414d4b98a91651"), looks := false }, kinds := [], alts := [], laidByText := true, laidKinds := [.data, .data, .data, .data, .data], laidTests := true, laidLooks := .later }
def CalendarTextsCardSaid : Prop := Claim7.holds Tryd.pinned (.plain (OpenSpec.ofChange calendarTextsSpec)) calendarTextsCard

/-- THE TIED CARD OF 'arrearslaw2.CalendarExact'. -/
def calendarExactCard : Claim7 := { stood := { row := calendarExactRow, standIns := [], harness := (true, "b04217a0a81cf0cd1aec251e044002968d99f41af5678501de414d4b98a91651"), looks := false }, kinds := [], alts := [], laidByText := true, laidKinds := [.data, .data, .data, .data, .data], laidTests := true, laidLooks := .later }
def CalendarExactCardSaid : Prop := Claim7.holds Tryd.pinned (.plain (OpenSpec.ofChange calendarExactSpec)) calendarExactCard

/-- THE SECOND FORM's CARD OF 'arrearslaw2.CalendarTexts'. -/
def calendarTextsUptoCard : Claim7 := { stood := { row := calendarTextsUptoRow, standIns := [], harness := (true, "b04217a0a81cf0cd1aec251e044002968d99f41af5678501de414d4b98a91651"), looks := false }, kinds := [], alts := [], laidByText := true, laidKinds := [.data, .data, .data, .data, .data], laidTests := true, laidLooks := .later }
def CalendarTextsUptoCardSaid : Prop := Claim7.holds Tryd.pinned (.plain (OpenSpec.upto calendarTextsSpec)) calendarTextsUptoCard

/-- THE SECOND FORM's CARD OF 'arrearslaw2.CalendarExact'. -/
def calendarExactUptoCard : Claim7 := { stood := { row := calendarExactUptoRow, standIns := [], harness := (true, "b04217a0a81cf0cd1aec251e044002968d99f41af5678501de414d4b98a91651"), looks := false }, kinds := [], alts := [], laidByText := true, laidKinds := [.data, .data, .data, .data, .data], laidTests := true, laidLooks := .later }
def CalendarExactUptoCardSaid : Prop := Claim7.holds Tryd.pinned (.plain (OpenSpec.upto calendarExactSpec)) calendarExactUptoCard
end Rows
end Go.Proofs.YtnelmgjdbheogacDoor
