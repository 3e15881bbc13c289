/-
  NARROWER THAN 'FOR EVERY INPUT', by the rows' own cells (each row's printed sentence says how): CalendarCycle: laid · CalendarGregorian: laid · CalendarRoundTrip: laid · CalendarMonthSteps: laid · CalendarSpans: laid · CalendarDates: laid.
  DERIVED. THE GIVEN ROWS OF THIS SEAT. 6 by the template 'for every input the law returns true; each argument reads behind the call as it read before'; 0 by the template 'total and deterministic' (their statements: YtnelmgjdbheogaaDoorTotals.lean).
  GIVEN WITH THE SEED: the statements are not yours to turn. If you find one false, say at which input.
  Laid BY PROGRAM, IN A SANDBOX (cutbox-rows.mjs): the forced cells as the released guide's own fill.sh prints them over the translation 06bc4f39b12d6358… (all of the seat's roots in one cut). By AI agents, Wed Nov 11 2026. No macro, syntax, notation, axiom, sorry.
-/
import Derived.Test.YtnelmgjdbheogaaDoorChecked
import GoSem.Claim
import GoSem.ClaimJoined
import GoSem.ClaimMapViews
import Derived.JoinedTies
import Derived.KernelRfl
namespace Go.Proofs.YtnelmgjdbheogaaDoor
/- THE CELL 'sum', in the pinned program and in every row, IS THE sha256 OF THE DUMP (.gsa) THAT YtnelmgjdbheogaaDoorProg.lean LOADS. Nothing in Lean hashes anything: it is a label: what it is worth is what the hold of that sum in a sandbox is worth. -/
noncomputable def Tryd.pinned : Pinned := { name := "ytnelmgjdbheogaadoor", sum := "06bc4f39b12d6358c0c6ca456d2ba75237f4bc8d223c959f44bfd1312e30f3a6", checked := Tryd.checked }
namespace Rows
def none {H : Type} : Left H := { results := [], args := [] }

/- WHAT THE LISTED PACKAGE-LEVEL VARIABLES READ AS WHEN THE CALL BEGINS. Each datum BY PROGRAM (the guide's laid-datum.mjs) off the statement by which the dump's own 'gosem.cut.vars' lays the variable. In a bare row this is a premise. The card (YtnelmgjdbheogaaDoorCards.lean) ties it to the program's text. -/
def laid_arrears_calendar_ahead {H : Type} : DataW H := .agg [.lit (.int .i64 0), .lit (.int .i64 0), .lit (.int .i64 31), .lit (.int .i64 59), .lit (.int .i64 90), .lit (.int .i64 120), .lit (.int .i64 151), .lit (.int .i64 181), .lit (.int .i64 212), .lit (.int .i64 243), .lit (.int .i64 273), .lit (.int .i64 304), .lit (.int .i64 334)]
def laid_arrears_calendar_lengths {H : Type} : DataW H := .agg [.lit (.int .i64 0), .lit (.int .i64 31), .lit (.int .i64 28), .lit (.int .i64 31), .lit (.int .i64 30), .lit (.int .i64 31), .lit (.int .i64 30), .lit (.int .i64 31), .lit (.int .i64 31), .lit (.int .i64 30), .lit (.int .i64 31), .lit (.int .i64 30), .lit (.int .i64 31)]

/-- 'arrearslaw2.CalendarCycle': WHATEVER THE INPUT: true; the input reads as it did. -/
def calendarCycleSpec : ChangeSpec := { name := "calendarCycle", fn := fun _ => fun
  | [d] => { results := [.lit (.bool true)], args := [d] }
  | _ => none }
def calendarCycleRow : OpenClaim := { program := "ytnelmgjdbheogaadoor", sum := "06bc4f39b12d6358c0c6ca456d2ba75237f4bc8d223c959f44bfd1312e30f3a6", func := "arrears/arrearslaw2.CalendarCycle", spec := "calendarCycle", named := ["arrears/calendar.ahead"], apart := false, laid := [("arrears/calendar.ahead", laid_arrears_calendar_ahead)] }
def CalendarCycleSaid : Prop := calendarCycleRow.holds Tryd.pinned (OpenSpec.ofChange calendarCycleSpec)

/-- ITS FALSE NEIGHBOUR: 'it returns false'. Refute it at one input. -/
def calendarCycleWrong : ChangeSpec := { name := "calendarCycle", fn := fun _ => fun
  | [d] => { results := [.lit (.bool false)], args := [d] }
  | _ => none }
def CalendarCycleWrongFalsely : Prop := calendarCycleRow.holds Tryd.pinned (OpenSpec.ofChange calendarCycleWrong)

/-- 'arrearslaw2.CalendarGregorian': WHATEVER THE INPUT: true; the input reads as it did. -/
def calendarGregorianSpec : ChangeSpec := { name := "calendarGregorian", fn := fun _ => fun
  | [d] => { results := [.lit (.bool true)], args := [d] }
  | _ => none }
def calendarGregorianRow : OpenClaim := { program := "ytnelmgjdbheogaadoor", sum := "06bc4f39b12d6358c0c6ca456d2ba75237f4bc8d223c959f44bfd1312e30f3a6", func := "arrears/arrearslaw2.CalendarGregorian", spec := "calendarGregorian", named := ["arrears/calendar.ahead"], apart := false, laid := [("arrears/calendar.ahead", laid_arrears_calendar_ahead)] }
def CalendarGregorianSaid : Prop := calendarGregorianRow.holds Tryd.pinned (OpenSpec.ofChange calendarGregorianSpec)

/-- ITS FALSE NEIGHBOUR: 'it returns false'. Refute it at one input. -/
def calendarGregorianWrong : ChangeSpec := { name := "calendarGregorian", fn := fun _ => fun
  | [d] => { results := [.lit (.bool false)], args := [d] }
  | _ => none }
def CalendarGregorianWrongFalsely : Prop := calendarGregorianRow.holds Tryd.pinned (OpenSpec.ofChange calendarGregorianWrong)

/-- 'arrearslaw2.CalendarRoundTrip': WHATEVER THE INPUT: true; the input reads as it did. -/
def calendarRoundTripSpec : ChangeSpec := { name := "calendarRoundTrip", fn := fun _ => fun
  | [d1, d2, d3, d4] => { results := [.lit (.bool true)], args := [d1, d2, d3, d4] }
  | _ => none }
def calendarRoundTripRow : OpenClaim := { program := "ytnelmgjdbheogaadoor", sum := "06bc4f39b12d6358c0c6ca456d2ba75237f4bc8d223c959f44bfd1312e30f3a6", func := "arrears/arrearslaw2.CalendarRoundTrip", spec := "calendarRoundTrip", named := ["arrears/calendar.ahead", "arrears/calendar.lengths"], apart := false, laid := [("arrears/calendar.lengths", laid_arrears_calendar_lengths), ("arrears/calendar.ahead", laid_arrears_calendar_ahead)] }
def CalendarRoundTripSaid : Prop := calendarRoundTripRow.holds Tryd.pinned (OpenSpec.ofChange calendarRoundTripSpec)

/-- ITS FALSE NEIGHBOUR: 'it returns false'. Refute it at one input. -/
def calendarRoundTripWrong : ChangeSpec := { name := "calendarRoundTrip", fn := fun _ => fun
  | [d1, d2, d3, d4] => { results := [.lit (.bool false)], args := [d1, d2, d3, d4] }
  | _ => none }
def CalendarRoundTripWrongFalsely : Prop := calendarRoundTripRow.holds Tryd.pinned (OpenSpec.ofChange calendarRoundTripWrong)

/-- 'arrearslaw2.CalendarMonthSteps': WHATEVER THE INPUT: true; the input reads as it did. -/
def calendarMonthStepsSpec : ChangeSpec := { name := "calendarMonthSteps", fn := fun _ => fun
  | [d1, d2, d3, d4] => { results := [.lit (.bool true)], args := [d1, d2, d3, d4] }
  | _ => none }
def calendarMonthStepsRow : OpenClaim := { program := "ytnelmgjdbheogaadoor", sum := "06bc4f39b12d6358c0c6ca456d2ba75237f4bc8d223c959f44bfd1312e30f3a6", func := "arrears/arrearslaw2.CalendarMonthSteps", spec := "calendarMonthSteps", named := ["arrears/calendar.ahead", "arrears/calendar.lengths"], apart := false, laid := [("arrears/calendar.lengths", laid_arrears_calendar_lengths), ("arrears/calendar.ahead", laid_arrears_calendar_ahead)] }
def CalendarMonthStepsSaid : Prop := calendarMonthStepsRow.holds Tryd.pinned (OpenSpec.ofChange calendarMonthStepsSpec)

/-- ITS FALSE NEIGHBOUR: 'it returns false'. Refute it at one input. -/
def calendarMonthStepsWrong : ChangeSpec := { name := "calendarMonthSteps", fn := fun _ => fun
  | [d1, d2, d3, d4] => { results := [.lit (.bool false)], args := [d1, d2, d3, d4] }
  | _ => none }
def CalendarMonthStepsWrongFalsely : Prop := calendarMonthStepsRow.holds Tryd.pinned (OpenSpec.ofChange calendarMonthStepsWrong)

/-- 'arrearslaw2.CalendarSpans': WHATEVER THE INPUT: true; the input reads as it did. -/
def calendarSpansSpec : ChangeSpec := { name := "calendarSpans", fn := fun _ => fun
  | [d1, d2, d3, d4] => { results := [.lit (.bool true)], args := [d1, d2, d3, d4] }
  | _ => none }
def calendarSpansRow : OpenClaim := { program := "ytnelmgjdbheogaadoor", sum := "06bc4f39b12d6358c0c6ca456d2ba75237f4bc8d223c959f44bfd1312e30f3a6", func := "arrears/arrearslaw2.CalendarSpans", spec := "calendarSpans", named := ["arrears/calendar.ahead", "arrears/calendar.lengths"], apart := false, laid := [("arrears/calendar.lengths", laid_arrears_calendar_lengths), ("arrears/calendar.ahead", laid_arrears_calendar_ahead)] }
def CalendarSpansSaid : Prop := calendarSpansRow.holds Tryd.pinned (OpenSpec.ofChange calendarSpansSpec)

/-- ITS FALSE NEIGHBOUR: 'it returns false'. Refute it at one input. -/
def calendarSpansWrong : ChangeSpec := { name := "calendarSpans", fn := fun _ => fun
  | [d1, d2, d3, d4] => { results := [.lit (.bool false)], args := [d1, d2, d3, d4] }
  | _ => none }
def CalendarSpansWrongFalsely : Prop := calendarSpansRow.holds Tryd.pinned (OpenSpec.ofChange calendarSpansWrong)

/-- 'arrearslaw2.CalendarDates': WHATEVER THE INPUT: true; the input reads as it did. -/
def calendarDatesSpec : ChangeSpec := { name := "calendarDates", fn := fun _ => fun
  | [d1, d2, d3] => { results := [.lit (.bool true)], args := [d1, d2, d3] }
  | _ => none }
def calendarDatesRow : OpenClaim := { program := "ytnelmgjdbheogaadoor", sum := "06bc4f39b12d6358c0c6ca456d2ba75237f4bc8d223c959f44bfd1312e30f3a6", func := "arrears/arrearslaw2.CalendarDates", spec := "calendarDates", named := ["arrears/calendar.lengths", "arrears/calendar.ahead"], apart := false, laid := [("arrears/calendar.lengths", laid_arrears_calendar_lengths), ("arrears/calendar.ahead", laid_arrears_calendar_ahead)] }
def CalendarDatesSaid : Prop := calendarDatesRow.holds Tryd.pinned (OpenSpec.ofChange calendarDatesSpec)

/-- ITS FALSE NEIGHBOUR: 'it returns false'. Refute it at one input. -/
def calendarDatesWrong : ChangeSpec := { name := "calendarDates", fn := fun _ => fun
  | [d1, d2, d3] => { results := [.lit (.bool false)], args := [d1, d2, d3] }
  | _ => none }
def CalendarDatesWrongFalsely : Prop := calendarDatesRow.holds Tryd.pinned (OpenSpec.ofChange calendarDatesWrong)

/- THE SECOND FORM. 'bulk': how many values and letters a reading holds, each counted each time it is reached (what is shared counts as often as it is met; a slice's spare places count too). A statement '..UptoSaid' is the law's where the arguments, and the package variables that the reading takes, are together of bulk at most 1048576: NARROWER than '..Said'. Prove '..Said' where nothing that the law and all that it calls make is longer than what came in: it says more and counts as full. Else prove '..UptoSaid'. A law counts once. -/
mutual
def uptoBulk {H : Type} : DataW H → Nat
  | .lit (.string bytes) => bytes.length + 1
  | .lit _ => 1
  | .nil => 1
  | .ptr d => uptoBulk d + 1
  | .slice elems spare => uptoBulkAll elems + uptoBulkAll spare + 1
  | .agg parts => uptoBulkAll parts + 1
  | .iface _ d => uptoBulk d + 1
  | .map entries => uptoBulkEntries entries + 1
  | .held _ => 1
def uptoBulkAll {H : Type} : List (DataW H) → Nat
  | [] => 0
  | d :: r => uptoBulk d + uptoBulkAll r
def uptoBulkEntries {H : Type} : List (Lit × DataW H) → Nat
  | [] => 0
  | x :: r => uptoBulkEntry x + uptoBulkEntries r
def uptoBulkEntry {H : Type} : Lit × DataW H → Nat
  | (.string bytes, d) => bytes.length + uptoBulk d + 1
  | (_, d) => uptoBulk d + 1
 end
def uptoSmall : (H : Type) → List (DataW H) → Bool := fun _ ds => decide (uptoBulkAll ds ≤ 1048576)
def OpenSpec.upto (s : _root_.Go.ChangeSpec) : _root_.Go.OpenSpec := { _root_.Go.OpenSpec.ofChange s with cond := some uptoSmall }

/-- 'arrearslaw2.CalendarCycle', WHERE WHAT IT READS IS OF BULK AT MOST 1048576: true; the input reads as it did. -/
def calendarCycleUptoRow : OpenClaim := { program := "ytnelmgjdbheogaadoor", sum := "06bc4f39b12d6358c0c6ca456d2ba75237f4bc8d223c959f44bfd1312e30f3a6", func := "arrears/arrearslaw2.CalendarCycle", spec := "calendarCycle", named := ["arrears/calendar.ahead"], apart := false, laid := [("arrears/calendar.ahead", laid_arrears_calendar_ahead)], narrowed := true }
def CalendarCycleUptoSaid : Prop := calendarCycleUptoRow.holds Tryd.pinned (OpenSpec.upto calendarCycleSpec)

/-- 'arrearslaw2.CalendarGregorian', WHERE WHAT IT READS IS OF BULK AT MOST 1048576: true; the input reads as it did. -/
def calendarGregorianUptoRow : OpenClaim := { program := "ytnelmgjdbheogaadoor", sum := "06bc4f39b12d6358c0c6ca456d2ba75237f4bc8d223c959f44bfd1312e30f3a6", func := "arrears/arrearslaw2.CalendarGregorian", spec := "calendarGregorian", named := ["arrears/calendar.ahead"], apart := false, laid := [("arrears/calendar.ahead", laid_arrears_calendar_ahead)], narrowed := true }
def CalendarGregorianUptoSaid : Prop := calendarGregorianUptoRow.holds Tryd.pinned (OpenSpec.upto calendarGregorianSpec)

/-- 'arrearslaw2.CalendarRoundTrip', WHERE WHAT IT READS IS OF BULK AT MOST 1048576: true; the input reads as it did. -/
def calendarRoundTripUptoRow : OpenClaim := { program := "ytnelmgjdbheogaadoor", sum := "06bc4f39b12d6358c0c6ca456d2ba75237f4bc8d223c959f44bfd1312e30f3a6", func := "arrears/arrearslaw2.CalendarRoundTrip", spec := "calendarRoundTrip", named := ["arrears/calendar.ahead", "arrears/calendar.lengths"], apart := false, laid := [("arrears/calendar.lengths", laid_arrears_calendar_lengths), ("arrears/calendar.ahead", laid_arrears_calendar_ahead)], narrowed := true }
def CalendarRoundTripUptoSaid : Prop := calendarRoundTripUptoRow.holds Tryd.pinned (OpenSpec.upto calendarRoundTripSpec)

/-- 'arrearslaw2.CalendarMonthSteps', WHERE WHAT IT READS IS OF BULK AT MOST 1048576: true; the input reads as it did. -/
def calendarMonthStepsUptoRow : OpenClaim := { program := "ytnelmgjdbheogaadoor", sum := "06bc4f39b12d6358c0c6ca456d2ba75237f4bc8d223c959f44bfd1312e30f3a6", func := "arrears/arrearslaw2.CalendarMonthSteps", spec := "calendarMonthSteps", named := ["arrears/calendar.ahead", "arrears/calendar.lengths"], apart := false, laid := [("arrears/calendar.lengths", laid_arrears_calendar_lengths), ("arrears/calendar.ahead", laid_arrears_calendar_ahead)], narrowed := true }
def CalendarMonthStepsUptoSaid : Prop := calendarMonthStepsUptoRow.holds Tryd.pinned (OpenSpec.upto calendarMonthStepsSpec)

/-- 'arrearslaw2.CalendarSpans', WHERE WHAT IT READS IS OF BULK AT MOST 1048576: true; the input reads as it did. -/
def calendarSpansUptoRow : OpenClaim := { program := "ytnelmgjdbheogaadoor", sum := "06bc4f39b12d6358c0c6ca456d2ba75237f4bc8d223c959f44bfd1312e30f3a6", func := "arrears/arrearslaw2.CalendarSpans", spec := "calendarSpans", named := ["arrears/calendar.ahead", "arrears/calendar.lengths"], apart := false, laid := [("arrears/calendar.lengths", laid_arrears_calendar_lengths), ("arrears/calendar.ahead", laid_arrears_calendar_ahead)], narrowed := true }
def CalendarSpansUptoSaid : Prop := calendarSpansUptoRow.holds Tryd.pinned (OpenSpec.upto calendarSpansSpec)

/-- 'arrearslaw2.CalendarDates', WHERE WHAT IT READS IS OF BULK AT MOST 1048576: true; the input reads as it did. -/
def calendarDatesUptoRow : OpenClaim := { program := "ytnelmgjdbheogaadoor", sum := "06bc4f39b12d6358c0c6ca456d2ba75237f4bc8d223c959f44bfd1312e30f3a6", func := "arrears/arrearslaw2.CalendarDates", spec := "calendarDates", named := ["arrears/calendar.lengths", "arrears/calendar.ahead"], apart := false, laid := [("arrears/calendar.lengths", laid_arrears_calendar_lengths), ("arrears/calendar.ahead", laid_arrears_calendar_ahead)], narrowed := true }
def CalendarDatesUptoSaid : Prop := calendarDatesUptoRow.holds Tryd.pinned (OpenSpec.upto calendarDatesSpec)

end Rows
end Go.Proofs.YtnelmgjdbheogaaDoor
