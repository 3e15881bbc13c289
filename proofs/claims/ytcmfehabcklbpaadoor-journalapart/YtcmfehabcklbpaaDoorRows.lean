/-
  NARROWER THAN 'FOR EVERY INPUT', by the rows' own cells (each row's printed sentence says how): JournalCosts: laid · JournalApart: laid · JournalTorn: laid · JournalCommits: laid.
  DERIVED. THE GIVEN ROWS OF THIS SEAT. 4 by the template 'for every input the law returns true; each argument reads behind the call as it read before'; 0 by the template 'total and deterministic' (their statements: YtcmfehabcklbpaaDoorTotals.lean).
  GIVEN WITH THE SEED: the statements are not yours to turn. If you find one false, say at which input.
  Laid BY PROGRAM, IN A SANDBOX (cutbox-rows.mjs): the forced cells as the released guide's own fill.sh prints them over the translation 3ba2c3f0fffc0ed4… (all of the seat's roots in one cut). By AI agents, Wed Nov 11 2026. No macro, syntax, notation, axiom, sorry.
-/
import Derived.Test.YtcmfehabcklbpaaDoorChecked
import GoSem.Claim
import GoSem.ClaimJoined
import GoSem.ClaimMapViews
import Derived.JoinedTies
import Derived.KernelRfl
namespace Go.Proofs.YtcmfehabcklbpaaDoor
/- THE CELL 'sum', in the pinned program and in every row, IS THE sha256 OF THE DUMP (.gsa) THAT YtcmfehabcklbpaaDoorProg.lean LOADS. Nothing in Lean hashes anything: it is a label: what it is worth is what the hold of that sum in a sandbox is worth. -/
noncomputable def Tryd.pinned : Pinned := { name := "ytcmfehabcklbpaadoor", sum := "3ba2c3f0fffc0ed4526a3bf1745b4e11a63ab443acefab7aa1287f9af075272a", checked := Tryd.checked }
namespace Rows
def none {H : Type} : Left H := { results := [], args := [] }

/- WHAT THE LISTED PACKAGE-LEVEL VARIABLES READ AS WHEN THE CALL BEGINS. Each datum BY PROGRAM (the guide's laid-datum.mjs) off the statement by which the dump's own 'gosem.cut.vars' lays the variable. In a bare row this is a premise. The card (YtcmfehabcklbpaaDoorCards.lean) ties it to the program's text. -/
def laid_arrears_frame_steps {H : Type} : DataW H := .agg [.lit (.int .u32 0), .lit (.int .u32 498536548), .lit (.int .u32 997073096), .lit (.int .u32 651767980), .lit (.int .u32 1994146192), .lit (.int .u32 1802195444), .lit (.int .u32 1303535960), .lit (.int .u32 1342533948), .lit (.int .u32 3988292384), .lit (.int .u32 4027552580), .lit (.int .u32 3604390888), .lit (.int .u32 3412177804), .lit (.int .u32 2607071920), .lit (.int .u32 2262029012), .lit (.int .u32 2685067896), .lit (.int .u32 3183342108)]

/-- 'arrearslaw7.JournalCosts': WHATEVER THE INPUT: true; the input reads as it did. -/
def journalCostsSpec : ChangeSpec := { name := "journalCosts", fn := fun _ => fun
  | [d1, d2] => { results := [.lit (.bool true)], args := [d1, d2] }
  | _ => none }
def journalCostsRow : OpenClaim := { program := "ytcmfehabcklbpaadoor", sum := "3ba2c3f0fffc0ed4526a3bf1745b4e11a63ab443acefab7aa1287f9af075272a", func := "arrears/arrearslaw7.JournalCosts", spec := "journalCosts", unfollowed := true, recurses := true, named := ["arrears/frame.steps"], apart := false, laid := [("arrears/frame.steps", laid_arrears_frame_steps)] }
def JournalCostsSaid : Prop := journalCostsRow.holds Tryd.pinned (OpenSpec.ofChange journalCostsSpec)

/-- ITS FALSE NEIGHBOUR: 'it returns false'. Refute it at one input. -/
def journalCostsWrong : ChangeSpec := { name := "journalCosts", fn := fun _ => fun
  | [d1, d2] => { results := [.lit (.bool false)], args := [d1, d2] }
  | _ => none }
def JournalCostsWrongFalsely : Prop := journalCostsRow.holds Tryd.pinned (OpenSpec.ofChange journalCostsWrong)

/-- 'arrearslaw7.JournalApart': WHATEVER THE INPUT: true; the input reads as it did. -/
def journalApartSpec : ChangeSpec := { name := "journalApart", fn := fun _ => fun
  | [d1, d2, d3] => { results := [.lit (.bool true)], args := [d1, d2, d3] }
  | _ => none }
def journalApartRow : OpenClaim := { program := "ytcmfehabcklbpaadoor", sum := "3ba2c3f0fffc0ed4526a3bf1745b4e11a63ab443acefab7aa1287f9af075272a", func := "arrears/arrearslaw7.JournalApart", spec := "journalApart", unfollowed := true, recurses := true, named := ["arrears/frame.steps"], apart := false, laid := [("arrears/frame.steps", laid_arrears_frame_steps)] }
def JournalApartSaid : Prop := journalApartRow.holds Tryd.pinned (OpenSpec.ofChange journalApartSpec)

/-- ITS FALSE NEIGHBOUR: 'it returns false'. Refute it at one input. -/
def journalApartWrong : ChangeSpec := { name := "journalApart", fn := fun _ => fun
  | [d1, d2, d3] => { results := [.lit (.bool false)], args := [d1, d2, d3] }
  | _ => none }
def JournalApartWrongFalsely : Prop := journalApartRow.holds Tryd.pinned (OpenSpec.ofChange journalApartWrong)

/-- 'arrearslaw7.JournalTorn': WHATEVER THE INPUT: true; the input reads as it did. -/
def journalTornSpec : ChangeSpec := { name := "journalTorn", fn := fun _ => fun
  | [d1, d2, d3] => { results := [.lit (.bool true)], args := [d1, d2, d3] }
  | _ => none }
def journalTornRow : OpenClaim := { program := "ytcmfehabcklbpaadoor", sum := "3ba2c3f0fffc0ed4526a3bf1745b4e11a63ab443acefab7aa1287f9af075272a", func := "arrears/arrearslaw7.JournalTorn", spec := "journalTorn", unfollowed := true, recurses := true, named := ["arrears/frame.steps"], apart := false, laid := [("arrears/frame.steps", laid_arrears_frame_steps)] }
def JournalTornSaid : Prop := journalTornRow.holds Tryd.pinned (OpenSpec.ofChange journalTornSpec)

/-- ITS FALSE NEIGHBOUR: 'it returns false'. Refute it at one input. -/
def journalTornWrong : ChangeSpec := { name := "journalTorn", fn := fun _ => fun
  | [d1, d2, d3] => { results := [.lit (.bool false)], args := [d1, d2, d3] }
  | _ => none }
def JournalTornWrongFalsely : Prop := journalTornRow.holds Tryd.pinned (OpenSpec.ofChange journalTornWrong)

/-- 'arrearslaw7.JournalCommits': WHATEVER THE INPUT: true; the input reads as it did. -/
def journalCommitsSpec : ChangeSpec := { name := "journalCommits", fn := fun _ => fun
  | [d1, d2] => { results := [.lit (.bool true)], args := [d1, d2] }
  | _ => none }
def journalCommitsRow : OpenClaim := { program := "ytcmfehabcklbpaadoor", sum := "3ba2c3f0fffc0ed4526a3bf1745b4e11a63ab443acefab7aa1287f9af075272a", func := "arrears/arrearslaw7.JournalCommits", spec := "journalCommits", unfollowed := true, recurses := true, named := ["arrears/frame.steps"], apart := false, laid := [("arrears/frame.steps", laid_arrears_frame_steps)] }
def JournalCommitsSaid : Prop := journalCommitsRow.holds Tryd.pinned (OpenSpec.ofChange journalCommitsSpec)

/-- ITS FALSE NEIGHBOUR: 'it returns false'. Refute it at one input. -/
def journalCommitsWrong : ChangeSpec := { name := "journalCommits", fn := fun _ => fun
  | [d1, d2] => { results := [.lit (.bool false)], args := [d1, d2] }
  | _ => none }
def JournalCommitsWrongFalsely : Prop := journalCommitsRow.holds Tryd.pinned (OpenSpec.ofChange journalCommitsWrong)

/- THE SECOND FORM. 'bulk': how many values and letters a reading holds, each counted each time it is reached (what is shared counts as often as it is met; a slice's spare places count too). A statement '..UptoSaid' is the law's where the arguments, and the package variables that the reading takes, are together of bulk at most 1048576: NARROWER than '..Said'. Prove '..Said' where nothing that the law and all that it calls make is longer than what came in: it says more and counts as full. Else prove '..UptoSaid'. A law counts once. -/
mutual
def uptoBulk {H : Type} : DataW H → Nat
  | .lit (.string bytes) => bytes.length + 1
  | .lit _ => 1
  | .nil => 1
  | .ptr d => uptoBulk d + 1
  | .slice elems spare => uptoBulkAll elems + uptoBulkAll spare + 1
  | .agg parts => uptoBulkAll parts + 1
  | .iface _ d => uptoBulk d + 1
  | .map entries => uptoBulkEntries entries + 1
  | .held _ => 1
def uptoBulkAll {H : Type} : List (DataW H) → Nat
  | [] => 0
  | d :: r => uptoBulk d + uptoBulkAll r
def uptoBulkEntries {H : Type} : List (Lit × DataW H) → Nat
  | [] => 0
  | x :: r => uptoBulkEntry x + uptoBulkEntries r
def uptoBulkEntry {H : Type} : Lit × DataW H → Nat
  | (.string bytes, d) => bytes.length + uptoBulk d + 1
  | (_, d) => uptoBulk d + 1
 end
def uptoSmall : (H : Type) → List (DataW H) → Bool := fun _ ds => decide (uptoBulkAll ds ≤ 1048576)
def OpenSpec.upto (s : _root_.Go.ChangeSpec) : _root_.Go.OpenSpec := { _root_.Go.OpenSpec.ofChange s with cond := some uptoSmall }

/-- 'arrearslaw7.JournalCosts', WHERE WHAT IT READS IS OF BULK AT MOST 1048576: true; the input reads as it did. -/
def journalCostsUptoRow : OpenClaim := { program := "ytcmfehabcklbpaadoor", sum := "3ba2c3f0fffc0ed4526a3bf1745b4e11a63ab443acefab7aa1287f9af075272a", func := "arrears/arrearslaw7.JournalCosts", spec := "journalCosts", unfollowed := true, recurses := true, named := ["arrears/frame.steps"], apart := false, laid := [("arrears/frame.steps", laid_arrears_frame_steps)], narrowed := true }
def JournalCostsUptoSaid : Prop := journalCostsUptoRow.holds Tryd.pinned (OpenSpec.upto journalCostsSpec)

/-- 'arrearslaw7.JournalApart', WHERE WHAT IT READS IS OF BULK AT MOST 1048576: true; the input reads as it did. -/
def journalApartUptoRow : OpenClaim := { program := "ytcmfehabcklbpaadoor", sum := "3ba2c3f0fffc0ed4526a3bf1745b4e11a63ab443acefab7aa1287f9af075272a", func := "arrears/arrearslaw7.JournalApart", spec := "journalApart", unfollowed := true, recurses := true, named := ["arrears/frame.steps"], apart := false, laid := [("arrears/frame.steps", laid_arrears_frame_steps)], narrowed := true }
def JournalApartUptoSaid : Prop := journalApartUptoRow.holds Tryd.pinned (OpenSpec.upto journalApartSpec)

/-- 'arrearslaw7.JournalTorn', WHERE WHAT IT READS IS OF BULK AT MOST 1048576: true; the input reads as it did. -/
def journalTornUptoRow : OpenClaim := { program := "ytcmfehabcklbpaadoor", sum := "3ba2c3f0fffc0ed4526a3bf1745b4e11a63ab443acefab7aa1287f9af075272a", func := "arrears/arrearslaw7.JournalTorn", spec := "journalTorn", unfollowed := true, recurses := true, named := ["arrears/frame.steps"], apart := false, laid := [("arrears/frame.steps", laid_arrears_frame_steps)], narrowed := true }
def JournalTornUptoSaid : Prop := journalTornUptoRow.holds Tryd.pinned (OpenSpec.upto journalTornSpec)

/-- 'arrearslaw7.JournalCommits', WHERE WHAT IT READS IS OF BULK AT MOST 1048576: true; the input reads as it did. -/
def journalCommitsUptoRow : OpenClaim := { program := "ytcmfehabcklbpaadoor", sum := "3ba2c3f0fffc0ed4526a3bf1745b4e11a63ab443acefab7aa1287f9af075272a", func := "arrears/arrearslaw7.JournalCommits", spec := "journalCommits", unfollowed := true, recurses := true, named := ["arrears/frame.steps"], apart := false, laid := [("arrears/frame.steps", laid_arrears_frame_steps)], narrowed := true }
def JournalCommitsUptoSaid : Prop := journalCommitsUptoRow.holds Tryd.pinned (OpenSpec.upto journalCommitsSpec)

end Rows
end Go.Proofs.YtcmfehabcklbpaaDoor
