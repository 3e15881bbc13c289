/-
  DERIVED. GIVEN WITH THE SEED: THE CARDS: each row of YtnelmgjdbheogabDoorRows.lean that lists a variable, with what it lists TIED to the program's text (the seventh form; the later family's looks); each row that meets fmt, with fmt's text TOLD by the authors' own Lean function (tested against real Go, not proved from fmt's source: count such statements apart). THE CARD IS WHAT COUNTS. Prove the row's statement (the work); the ties are given (YtnelmgjdbheogabDoorTie.lean); close each card by the builder's one call (the guide's Derived/Test/ToyasCard.lean, 'card_holds'). Laid BY PROGRAM, IN A SANDBOX (cutbox-door.mjs). By AI agents, Wed Nov 11 2026. No macro, syntax, notation, axiom, sorry.
-/
import Derived.Test.YtnelmgjdbheogabDoorRows
import GoSem.ClaimSeven
namespace Go.Proofs.YtnelmgjdbheogabDoor
namespace Rows

/-- THE TIED CARD OF 'arrearslaw2.CalendarTextOrder'. -/
def calendarTextOrderCard : Claim7 := { stood := { row := calendarTextOrderRow, standIns := [], harness := (true, "9cd89571018656ad4de4bd2bf3848342233bda93702ab241cf8a06f9fbab5f6c"), looks := false }, kinds := [], alts := [], laidByText := true, laidKinds := [.data, .data, .data, .data, .data], laidTests := true, laidLooks := .later }
def CalendarTextOrderCardSaid : Prop := Claim7.holds Tryd.pinned (.plain (OpenSpec.ofChange calendarTextOrderSpec)) calendarTextOrderCard

/-- THE TIED CARD OF 'arrearslaw2.CalendarDays'. -/
def calendarDaysCard : Claim7 := { stood := { row := calendarDaysRow, standIns := [], harness := (true, "9cd89571018656ad4de4bd2bf3848342233bda93702ab241cf8a06f9fbab5f6c"), looks := false }, kinds := [], alts := [], laidByText := true, laidKinds := [.data], laidTests := true, laidLooks := .later }
def CalendarDaysCardSaid : Prop := Claim7.holds Tryd.pinned (.plain (OpenSpec.ofChange calendarDaysSpec)) calendarDaysCard

/-- THE TIED CARD OF 'arrearslaw2.CalendarBetweens'. -/
def calendarBetweensCard : Claim7 := { stood := { row := calendarBetweensRow, standIns := [], harness := (true, "9cd89571018656ad4de4bd2bf3848342233bda93702ab241cf8a06f9fbab5f6c"), looks := false }, kinds := [], alts := [], laidByText := true, laidKinds := [.data], laidTests := true, laidLooks := .later }
def CalendarBetweensCardSaid : Prop := Claim7.holds Tryd.pinned (.plain (OpenSpec.ofChange calendarBetweensSpec)) calendarBetweensCard

/-- THE TIED CARD OF 'arrearslaw2.CalendarBusiness'. -/
def calendarBusinessCard : Claim7 := { stood := { row := calendarBusinessRow, standIns := [], harness := (true, "9cd89571018656ad4de4bd2bf3848342233bda93702ab241cf8a06f9fbab5f6c"), looks := false }, kinds := [], alts := [], laidByText := true, laidKinds := [.data], laidTests := true, laidLooks := .later }
def CalendarBusinessCardSaid : Prop := Claim7.holds Tryd.pinned (.plain (OpenSpec.ofChange calendarBusinessSpec)) calendarBusinessCard

/-- THE TIED CARD OF 'arrearslaw2.CalendarMonths'. -/
def calendarMonthsCard : Claim7 := { stood := { row := calendarMonthsRow, standIns := [], harness := (true, "9cd89571018656ad4de4bd2bf3848342233bda93702ab241cf8a06f9fbab5f6c"), looks := false }, kinds := [], alts := [], laidByText := true, laidKinds := [.data, .data], laidTests := true, laidLooks := .later }
def CalendarMonthsCardSaid : Prop := Claim7.holds Tryd.pinned (.plain (OpenSpec.ofChange calendarMonthsSpec)) calendarMonthsCard

/-- THE TIED CARD OF 'arrearslaw2.CalendarAdjusts'. -/
def calendarAdjustsCard : Claim7 := { stood := { row := calendarAdjustsRow, standIns := [], harness := (true, "9cd89571018656ad4de4bd2bf3848342233bda93702ab241cf8a06f9fbab5f6c"), looks := false }, kinds := [], alts := [], laidByText := true, laidKinds := [.data], laidTests := true, laidLooks := .later }
def CalendarAdjustsCardSaid : Prop := Claim7.holds Tryd.pinned (.plain (OpenSpec.ofChange calendarAdjustsSpec)) calendarAdjustsCard

/-- THE SECOND FORM's CARD OF 'arrearslaw2.CalendarTextOrder'. -/
def calendarTextOrderUptoCard : Claim7 := { stood := { row := calendarTextOrderUptoRow, standIns := [], harness := (true, "9cd89571018656ad4de4bd2bf3848342233bda93702ab241cf8a06f9fbab5f6c"), looks := false }, kinds := [], alts := [], laidByText := true, laidKinds := [.data, .data, .data, .data, .data], laidTests := true, laidLooks := .later }
def CalendarTextOrderUptoCardSaid : Prop := Claim7.holds Tryd.pinned (.plain (OpenSpec.upto calendarTextOrderSpec)) calendarTextOrderUptoCard

/-- THE SECOND FORM's CARD OF 'arrearslaw2.CalendarDays'. -/
def calendarDaysUptoCard : Claim7 := { stood := { row := calendarDaysUptoRow, standIns := [], harness := (true, "9cd89571018656ad4de4bd2bf3848342233bda93702ab241cf8a06f9fbab5f6c"), looks := false }, kinds := [], alts := [], laidByText := true, laidKinds := [.data], laidTests := true, laidLooks := .later }
def CalendarDaysUptoCardSaid : Prop := Claim7.holds Tryd.pinned (.plain (OpenSpec.upto calendarDaysSpec)) calendarDaysUptoCard

/-- THE SECOND FORM's CARD OF 'arrearslaw2.CalendarBetweens'. -/
def calendarBetweensUptoCard : Claim7 := { stood := { row := calendarBetweensUptoRow, standIns := [], harness := (true, "9cd89571018656ad4de4bd2bf3848342233bda93702ab241cf8a06f9fbab5f6c"), looks := false }, kinds := [], alts := [], laidByText := true, laidKinds := [.data], laidTests := true, laidLooks := .later }
def CalendarBetweensUptoCardSaid : Prop := Claim7.holds Tryd.pinned (.plain (OpenSpec.upto calendarBetweensSpec)) calendarBetweensUptoCard

/-- THE SECOND FORM's CARD OF 'arrearslaw2.CalendarBusiness'. -/
def calendarBusinessUptoCard : Claim7 := { stood := { row := calendarBusinessUptoRow, standIns := [], harness := (true, "9cd89571018656ad4de4bd2bf3848342233bda93702ab241cf8a06f9fbab5f6c"), looks := false }, kinds := [], alts := [], laidByText := true, laidKinds := [.data], laidTests := true, laidLooks := .later }
def CalendarBusinessUptoCardSaid : Prop := Claim7.holds Tryd.pinned (.plain (OpenSpec.upto calendarBusinessSpec)) calendarBusinessUptoCard

/-- THE SECOND FORM's CARD OF 'arrearslaw2.CalendarMonths'. -/
def calendarMonthsUptoCard : Claim7 := { stood := { row := calendarMonthsUptoRow, standIns := [], harness := (true, "9cd89571018656ad4de4bd2bf3848342233bda93702ab241cf8a06f9fbab5f6c"), looks := false }, kinds := [], alts := [], laidByText := true, laidKinds := [.data, .data], laidTests := true, laidLooks := .later }
def CalendarMonthsUptoCardSaid : Prop := Claim7.holds Tryd.pinned (.plain (OpenSpec.upto calendarMonthsSpec)) calendarMonthsUptoCard

/-- THE SECOND FORM's CARD OF 'arrearslaw2.CalendarAdjusts'. -/
def calendarAdjustsUptoCard : Claim7 := { stood := { row := calendarAdjustsUptoRow, standIns := [], harness := (true, "9cd89571018656ad4de4bd2bf3848342233bda93702ab241cf8a06f9fbab5f6c"), looks := false }, kinds := [], alts := [], laidByText := true, laidKinds := [.data], laidTests := true, laidLooks := .later }
def CalendarAdjustsUptoCardSaid : Prop := Claim7.holds Tryd.pinned (.plain (OpenSpec.upto calendarAdjustsSpec)) calendarAdjustsUptoCard
end Rows
end Go.Proofs.YtnelmgjdbheogabDoor
