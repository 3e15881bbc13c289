/-
  NARROWER THAN 'FOR EVERY INPUT', by the rows' own cells (each row's printed sentence says how): LedgerBalances: laid · LedgerOrderless: laid · LedgerJoins: laid.
  DERIVED. THE GIVEN ROWS OF THIS SEAT. 3 by the template 'for every input the law returns true; each argument reads behind the call as it read before'; 0 by the template 'total and deterministic' (their statements: YtkmmpffkmoaceaaDoorTotals.lean).
  GIVEN WITH THE SEED: the statements are not yours to turn. If you find one false, say at which input.
  Laid BY PROGRAM, IN A SANDBOX (cutbox-rows.mjs): the forced cells as the released guide's own fill.sh prints them over the translation a8c31b5763566aa8… (all of the seat's roots in one cut). By AI agents, Wed Nov 11 2026. No macro, syntax, notation, axiom, sorry.
-/
import Derived.Test.YtkmmpffkmoaceaaDoorChecked
import GoSem.Claim
import GoSem.ClaimJoined
import GoSem.ClaimMapViews
import Derived.JoinedTies
import Derived.KernelRfl
namespace Go.Proofs.YtkmmpffkmoaceaaDoor
/- THE CELL 'sum', in the pinned program and in every row, IS THE sha256 OF THE DUMP (.gsa) THAT YtkmmpffkmoaceaaDoorProg.lean LOADS. Nothing in Lean hashes anything: it is a label: what it is worth is what the hold of that sum in a sandbox is worth. -/
noncomputable def Tryd.pinned : Pinned := { name := "ytkmmpffkmoaceaadoor", sum := "a8c31b5763566aa8767a5a4d02154fb120e8213a701b8f97b52777483d83a2c9", checked := Tryd.checked }
namespace Rows
def none {H : Type} : Left H := { results := [], args := [] }

/- WHAT THE LISTED PACKAGE-LEVEL VARIABLES READ AS WHEN THE CALL BEGINS. Each datum BY PROGRAM (the guide's laid-datum.mjs) off the statement by which the dump's own 'gosem.cut.vars' lays the variable. In a bare row this is a premise. The card (YtkmmpffkmoaceaaDoorCards.lean) ties it to the program's text. -/
def laid_arrears_ledger_debits {H : Type} : DataW H := .agg [.lit (.bool true), .lit (.bool true), .lit (.bool true), .lit (.bool true), .lit (.bool false), .lit (.bool false), .lit (.bool false), .lit (.bool false), .lit (.bool false), .lit (.bool true), .lit (.bool false), .lit (.bool true)]

/-- 'arrearslaw8.LedgerBalances': WHATEVER THE INPUT: true; the input reads as it did. -/
def ledgerBalancesSpec : ChangeSpec := { name := "ledgerBalances", fn := fun _ => fun
  | [d1, d2] => { results := [.lit (.bool true)], args := [d1, d2] }
  | _ => none }
def ledgerBalancesRow : OpenClaim := { program := "ytkmmpffkmoaceaadoor", sum := "a8c31b5763566aa8767a5a4d02154fb120e8213a701b8f97b52777483d83a2c9", func := "arrears/arrearslaw8.LedgerBalances", spec := "ledgerBalances", named := ["arrears/ledger.debits"], apart := false, laid := [("arrears/ledger.debits", laid_arrears_ledger_debits)] }
def LedgerBalancesSaid : Prop := ledgerBalancesRow.holds Tryd.pinned (OpenSpec.ofChange ledgerBalancesSpec)

/-- ITS FALSE NEIGHBOUR: 'it returns false'. Refute it at one input. -/
def ledgerBalancesWrong : ChangeSpec := { name := "ledgerBalances", fn := fun _ => fun
  | [d1, d2] => { results := [.lit (.bool false)], args := [d1, d2] }
  | _ => none }
def LedgerBalancesWrongFalsely : Prop := ledgerBalancesRow.holds Tryd.pinned (OpenSpec.ofChange ledgerBalancesWrong)

/-- 'arrearslaw8.LedgerOrderless': WHATEVER THE INPUT: true; the input reads as it did. -/
def ledgerOrderlessSpec : ChangeSpec := { name := "ledgerOrderless", fn := fun _ => fun
  | [d1, d2, d3] => { results := [.lit (.bool true)], args := [d1, d2, d3] }
  | _ => none }
def ledgerOrderlessRow : OpenClaim := { program := "ytkmmpffkmoaceaadoor", sum := "a8c31b5763566aa8767a5a4d02154fb120e8213a701b8f97b52777483d83a2c9", func := "arrears/arrearslaw8.LedgerOrderless", spec := "ledgerOrderless", inPlace := ["math/bits.Add64", "math/bits.Sub64"], named := ["arrears/ledger.debits"], apart := false, laid := [("arrears/ledger.debits", laid_arrears_ledger_debits)] }
def LedgerOrderlessSaid : Prop := ledgerOrderlessRow.holds Tryd.pinned (OpenSpec.ofChange ledgerOrderlessSpec)

/-- ITS FALSE NEIGHBOUR: 'it returns false'. Refute it at one input. -/
def ledgerOrderlessWrong : ChangeSpec := { name := "ledgerOrderless", fn := fun _ => fun
  | [d1, d2, d3] => { results := [.lit (.bool false)], args := [d1, d2, d3] }
  | _ => none }
def LedgerOrderlessWrongFalsely : Prop := ledgerOrderlessRow.holds Tryd.pinned (OpenSpec.ofChange ledgerOrderlessWrong)

/-- 'arrearslaw8.LedgerJoins': WHATEVER THE INPUT: true; the input reads as it did. -/
def ledgerJoinsSpec : ChangeSpec := { name := "ledgerJoins", fn := fun _ => fun
  | [d1, d2, d3] => { results := [.lit (.bool true)], args := [d1, d2, d3] }
  | _ => none }
def ledgerJoinsRow : OpenClaim := { program := "ytkmmpffkmoaceaadoor", sum := "a8c31b5763566aa8767a5a4d02154fb120e8213a701b8f97b52777483d83a2c9", func := "arrears/arrearslaw8.LedgerJoins", spec := "ledgerJoins", inPlace := ["math/bits.Add64", "math/bits.Sub64"], named := ["arrears/ledger.debits"], apart := false, laid := [("arrears/ledger.debits", laid_arrears_ledger_debits)] }
def LedgerJoinsSaid : Prop := ledgerJoinsRow.holds Tryd.pinned (OpenSpec.ofChange ledgerJoinsSpec)

/-- ITS FALSE NEIGHBOUR: 'it returns false'. Refute it at one input. -/
def ledgerJoinsWrong : ChangeSpec := { name := "ledgerJoins", fn := fun _ => fun
  | [d1, d2, d3] => { results := [.lit (.bool false)], args := [d1, d2, d3] }
  | _ => none }
def LedgerJoinsWrongFalsely : Prop := ledgerJoinsRow.holds Tryd.pinned (OpenSpec.ofChange ledgerJoinsWrong)

/- THE SECOND FORM. 'bulk': how many values and letters a reading holds, each counted each time it is reached (what is shared counts as often as it is met; a slice's spare places count too). A statement '..UptoSaid' is the law's where the arguments, and the package variables that the reading takes, are together of bulk at most 1048576: NARROWER than '..Said'. Prove '..Said' where nothing that the law and all that it calls make is longer than what came in: it says more and counts as full. Else prove '..UptoSaid'. A law counts once. -/
mutual
def uptoBulk {H : Type} : DataW H → Nat
  | .lit (.string bytes) => bytes.length + 1
  | .lit _ => 1
  | .nil => 1
  | .ptr d => uptoBulk d + 1
  | .slice elems spare => uptoBulkAll elems + uptoBulkAll spare + 1
  | .agg parts => uptoBulkAll parts + 1
  | .iface _ d => uptoBulk d + 1
  | .map entries => uptoBulkEntries entries + 1
  | .held _ => 1
def uptoBulkAll {H : Type} : List (DataW H) → Nat
  | [] => 0
  | d :: r => uptoBulk d + uptoBulkAll r
def uptoBulkEntries {H : Type} : List (Lit × DataW H) → Nat
  | [] => 0
  | x :: r => uptoBulkEntry x + uptoBulkEntries r
def uptoBulkEntry {H : Type} : Lit × DataW H → Nat
  | (.string bytes, d) => bytes.length + uptoBulk d + 1
  | (_, d) => uptoBulk d + 1
 end
def uptoSmall : (H : Type) → List (DataW H) → Bool := fun _ ds => decide (uptoBulkAll ds ≤ 1048576)
def OpenSpec.upto (s : _root_.Go.ChangeSpec) : _root_.Go.OpenSpec := { _root_.Go.OpenSpec.ofChange s with cond := some uptoSmall }

/-- 'arrearslaw8.LedgerBalances', WHERE WHAT IT READS IS OF BULK AT MOST 1048576: true; the input reads as it did. -/
def ledgerBalancesUptoRow : OpenClaim := { program := "ytkmmpffkmoaceaadoor", sum := "a8c31b5763566aa8767a5a4d02154fb120e8213a701b8f97b52777483d83a2c9", func := "arrears/arrearslaw8.LedgerBalances", spec := "ledgerBalances", named := ["arrears/ledger.debits"], apart := false, laid := [("arrears/ledger.debits", laid_arrears_ledger_debits)], narrowed := true }
def LedgerBalancesUptoSaid : Prop := ledgerBalancesUptoRow.holds Tryd.pinned (OpenSpec.upto ledgerBalancesSpec)

/-- 'arrearslaw8.LedgerOrderless', WHERE WHAT IT READS IS OF BULK AT MOST 1048576: true; the input reads as it did. -/
def ledgerOrderlessUptoRow : OpenClaim := { program := "ytkmmpffkmoaceaadoor", sum := "a8c31b5763566aa8767a5a4d02154fb120e8213a701b8f97b52777483d83a2c9", func := "arrears/arrearslaw8.LedgerOrderless", spec := "ledgerOrderless", inPlace := ["math/bits.Add64", "math/bits.Sub64"], named := ["arrears/ledger.debits"], apart := false, laid := [("arrears/ledger.debits", laid_arrears_ledger_debits)], narrowed := true }
def LedgerOrderlessUptoSaid : Prop := ledgerOrderlessUptoRow.holds Tryd.pinned (OpenSpec.upto ledgerOrderlessSpec)

/-- 'arrearslaw8.LedgerJoins', WHERE WHAT IT READS IS OF BULK AT MOST 1048576: true; the input reads as it did. -/
def ledgerJoinsUptoRow : OpenClaim := { program := "ytkmmpffkmoaceaadoor", sum := "a8c31b5763566aa8767a5a4d02154fb120e8213a701b8f97b52777483d83a2c9", func := "arrears/arrearslaw8.LedgerJoins", spec := "ledgerJoins", inPlace := ["math/bits.Add64", "math/bits.Sub64"], named := ["arrears/ledger.debits"], apart := false, laid := [("arrears/ledger.debits", laid_arrears_ledger_debits)], narrowed := true }
def LedgerJoinsUptoSaid : Prop := ledgerJoinsUptoRow.holds Tryd.pinned (OpenSpec.upto ledgerJoinsSpec)

end Rows
end Go.Proofs.YtkmmpffkmoaceaaDoor
