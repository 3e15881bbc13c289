/-
  DERIVED. GIVEN WITH THE SEED: THE CARDS: each row of YtnelmgjdbheogaaDoorRows.lean that lists a variable, with what it lists TIED to the program's text (the seventh form; the later family's looks); each row that meets fmt, with fmt's text TOLD by the authors' own Lean function (tested against real Go, not proved from fmt's source: count such statements apart). THE CARD IS WHAT COUNTS. Prove the row's statement (the work); the ties are given (YtnelmgjdbheogaaDoorTie.lean); close each card by the builder's one call (the guide's Derived/Test/ToyasCard.lean, 'card_holds'). Laid BY PROGRAM, IN A SANDBOX (cutbox-door.mjs). By AI agents, Wed Nov 11 2026. No macro, syntax, notation, axiom, sorry.
-/
import Derived.Test.YtnelmgjdbheogaaDoorRows
import GoSem.ClaimSeven
namespace Go.Proofs.YtnelmgjdbheogaaDoor
namespace Rows

/-- THE TIED CARD OF 'arrearslaw2.CalendarCycle'. -/
def calendarCycleCard : Claim7 := { stood := { row := calendarCycleRow, standIns := [], harness := (true, "4e0819b060de16c51854a87c1e601a4daaf1a736e0459c33ce7f84e1a70f4763"), looks := false }, kinds := [], alts := [], laidByText := true, laidKinds := [.data], laidTests := true, laidLooks := .later }
def CalendarCycleCardSaid : Prop := Claim7.holds Tryd.pinned (.plain (OpenSpec.ofChange calendarCycleSpec)) calendarCycleCard

/-- THE TIED CARD OF 'arrearslaw2.CalendarGregorian'. -/
def calendarGregorianCard : Claim7 := { stood := { row := calendarGregorianRow, standIns := [], harness := (true, "4e0819b060de16c51854a87c1e601a4daaf1a736e0459c33ce7f84e1a70f4763"), looks := false }, kinds := [], alts := [], laidByText := true, laidKinds := [.data], laidTests := true, laidLooks := .later }
def CalendarGregorianCardSaid : Prop := Claim7.holds Tryd.pinned (.plain (OpenSpec.ofChange calendarGregorianSpec)) calendarGregorianCard

/-- THE TIED CARD OF 'arrearslaw2.CalendarRoundTrip'. -/
def calendarRoundTripCard : Claim7 := { stood := { row := calendarRoundTripRow, standIns := [], harness := (true, "4e0819b060de16c51854a87c1e601a4daaf1a736e0459c33ce7f84e1a70f4763"), looks := false }, kinds := [], alts := [], laidByText := true, laidKinds := [.data, .data], laidTests := true, laidLooks := .later }
def CalendarRoundTripCardSaid : Prop := Claim7.holds Tryd.pinned (.plain (OpenSpec.ofChange calendarRoundTripSpec)) calendarRoundTripCard

/-- THE TIED CARD OF 'arrearslaw2.CalendarMonthSteps'. -/
def calendarMonthStepsCard : Claim7 := { stood := { row := calendarMonthStepsRow, standIns := [], harness := (true, "4e0819b060de16c51854a87c1e601a4daaf1a736e0459c33ce7f84e1a70f4763"), looks := false }, kinds := [], alts := [], laidByText := true, laidKinds := [.data, .data], laidTests := true, laidLooks := .later }
def CalendarMonthStepsCardSaid : Prop := Claim7.holds Tryd.pinned (.plain (OpenSpec.ofChange calendarMonthStepsSpec)) calendarMonthStepsCard

/-- THE TIED CARD OF 'arrearslaw2.CalendarSpans'. -/
def calendarSpansCard : Claim7 := { stood := { row := calendarSpansRow, standIns := [], harness := (true, "4e0819b060de16c51854a87c1e601a4daaf1a736e0459c33ce7f84e1a70f4763"), looks := false }, kinds := [], alts := [], laidByText := true, laidKinds := [.data, .data], laidTests := true, laidLooks := .later }
def CalendarSpansCardSaid : Prop := Claim7.holds Tryd.pinned (.plain (OpenSpec.ofChange calendarSpansSpec)) calendarSpansCard

/-- THE TIED CARD OF 'arrearslaw2.CalendarDates'. -/
def calendarDatesCard : Claim7 := { stood := { row := calendarDatesRow, standIns := [], harness := (true, "4e0819b060de16c51854a87c1e601a4daaf1a736e0459c33ce7f84e1a70f4763"), looks := false }, kinds := [], alts := [], laidByText := true, laidKinds := [.data, .data], laidTests := true, laidLooks := .later }
def CalendarDatesCardSaid : Prop := Claim7.holds Tryd.pinned (.plain (OpenSpec.ofChange calendarDatesSpec)) calendarDatesCard

/-- THE SECOND FORM's CARD OF 'arrearslaw2.CalendarCycle'. -/
def calendarCycleUptoCard : Claim7 := { stood := { row := calendarCycleUptoRow, standIns := [], harness := (true, "4e0819b060de16c51854a87c1e601a4daaf1a736e0459c33ce7f84e1a70f4763"), looks := false }, kinds := [], alts := [], laidByText := true, laidKinds := [.data], laidTests := true, laidLooks := .later }
def CalendarCycleUptoCardSaid : Prop := Claim7.holds Tryd.pinned (.plain (OpenSpec.upto calendarCycleSpec)) calendarCycleUptoCard

/-- THE SECOND FORM's CARD OF 'arrearslaw2.CalendarGregorian'. -/
def calendarGregorianUptoCard : Claim7 := { stood := { row := calendarGregorianUptoRow, standIns := [], harness := (true, "4e0819b060de16c51854a87c1e601a4daaf1a736e0459c33ce7f84e1a70f4763"), looks := false }, kinds := [], alts := [], laidByText := true, laidKinds := [.data], laidTests := true, laidLooks := .later }
def CalendarGregorianUptoCardSaid : Prop := Claim7.holds Tryd.pinned (.plain (OpenSpec.upto calendarGregorianSpec)) calendarGregorianUptoCard

/-- THE SECOND FORM's CARD OF 'arrearslaw2.CalendarRoundTrip'. -/
def calendarRoundTripUptoCard : Claim7 := { stood := { row := calendarRoundTripUptoRow, standIns := [], harness := (true, "4e0819b060de16c51854a87c1e601a4daaf1a736e0459c33ce7f84e1a70f4763"), looks := false }, kinds := [], alts := [], laidByText := true, laidKinds := [.data, .data], laidTests := true, laidLooks := .later }
def CalendarRoundTripUptoCardSaid : Prop := Claim7.holds Tryd.pinned (.plain (OpenSpec.upto calendarRoundTripSpec)) calendarRoundTripUptoCard

/-- THE SECOND FORM's CARD OF 'arrearslaw2.CalendarMonthSteps'. -/
def calendarMonthStepsUptoCard : Claim7 := { stood := { row := calendarMonthStepsUptoRow, standIns := [], harness := (true, "4e0819b060de16c51854a87c1e601a4daaf1a736e0459c33ce7f84e1a70f4763"), looks := false }, kinds := [], alts := [], laidByText := true, laidKinds := [.data, .data], laidTests := true, laidLooks := .later }
def CalendarMonthStepsUptoCardSaid : Prop := Claim7.holds Tryd.pinned (.plain (OpenSpec.upto calendarMonthStepsSpec)) calendarMonthStepsUptoCard

/-- THE SECOND FORM's CARD OF 'arrearslaw2.CalendarSpans'. -/
def calendarSpansUptoCard : Claim7 := { stood := { row := calendarSpansUptoRow, standIns := [], harness := (true, "4e0819b060de16c51854a87c1e601a4daaf1a736e0459c33ce7f84e1a70f4763"), looks := false }, kinds := [], alts := [], laidByText := true, laidKinds := [.data, .data], laidTests := true, laidLooks := .later }
def CalendarSpansUptoCardSaid : Prop := Claim7.holds Tryd.pinned (.plain (OpenSpec.upto calendarSpansSpec)) calendarSpansUptoCard

/-- THE SECOND FORM's CARD OF 'arrearslaw2.CalendarDates'. -/
def calendarDatesUptoCard : Claim7 := { stood := { row := calendarDatesUptoRow, standIns := [], harness := (true, "4e0819b060de16c51854a87c1e601a4daaf1a736e0459c33ce7f84e1a70f4763"), looks := false }, kinds := [], alts := [], laidByText := true, laidKinds := [.data, .data], laidTests := true, laidLooks := .later }
def CalendarDatesUptoCardSaid : Prop := Claim7.holds Tryd.pinned (.plain (OpenSpec.upto calendarDatesSpec)) calendarDatesUptoCard
end Rows
end Go.Proofs.YtnelmgjdbheogaaDoor
