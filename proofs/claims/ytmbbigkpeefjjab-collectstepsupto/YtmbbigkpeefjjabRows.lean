/-
  No cell of these rows narrows 'for every input' (looked for: loops, veiled, ifaces, maps, wideKeys, modest, calm, conditions, laid).
  DERIVED. THE GIVEN ROWS OF THIS SEAT. 4 by the template 'for every input the law returns true; each argument reads behind the call as it read before'; 0 by the template 'total and deterministic' (their statements: YtmbbigkpeefjjabTotals.lean).
  GIVEN WITH THE SEED: the statements are not yours to turn. If you find one false, say at which input.
  Laid BY PROGRAM, IN A SANDBOX (cutbox-rows.mjs): the forced cells as the released guide's own fill.sh prints them over the translation 0dc81ff32c9276a4… (all of the seat's roots in one cut). By AI agents, Wed Nov 11 2026. No macro, syntax, notation, axiom, sorry.
-/
import Derived.Test.YtmbbigkpeefjjabChecked
import GoSem.Claim
import GoSem.ClaimJoined
import GoSem.ClaimMapViews
import Derived.JoinedTies
import Derived.KernelRfl
namespace Go.Proofs.Ytmbbigkpeefjjab
/- THE CELL 'sum', in the pinned program and in every row, IS THE sha256 OF THE DUMP (.gsa) THAT YtmbbigkpeefjjabProg.lean LOADS. Nothing in Lean hashes anything: it is a label: what it is worth is what the hold of that sum in a sandbox is worth. -/
noncomputable def Try.pinned : Pinned := { name := "ytmbbigkpeefjjab", sum := "0dc81ff32c9276a4247052a33d41594e44f5a75691257c0987f6531b69f2e0f8", checked := Try.checked }
namespace Rows
def none {H : Type} : Left H := { results := [], args := [] }

/-- 'arrearslaw13.CollectResolves': WHATEVER THE INPUT: true; the input reads as it did. -/
def collectResolvesSpec : ChangeSpec := { name := "collectResolves", fn := fun _ => fun
  | [d1, d2, d3] => { results := [.lit (.bool true)], args := [d1, d2, d3] }
  | _ => none }
def collectResolvesRow : OpenClaim := { program := "ytmbbigkpeefjjab", sum := "0dc81ff32c9276a4247052a33d41594e44f5a75691257c0987f6531b69f2e0f8", func := "arrears/arrearslaw13.CollectResolves", spec := "collectResolves", unfollowed := true, recurses := true, apart := false }
def CollectResolvesSaid : Prop := collectResolvesRow.holds Try.pinned (OpenSpec.ofChange collectResolvesSpec)

/-- ITS FALSE NEIGHBOUR: 'it returns false'. Refute it at one input. -/
def collectResolvesWrong : ChangeSpec := { name := "collectResolves", fn := fun _ => fun
  | [d1, d2, d3] => { results := [.lit (.bool false)], args := [d1, d2, d3] }
  | _ => none }
def CollectResolvesWrongFalsely : Prop := collectResolvesRow.holds Try.pinned (OpenSpec.ofChange collectResolvesWrong)

/-- 'arrearslaw13.CollectRunSteps': WHATEVER THE INPUT: true; the input reads as it did. -/
def collectRunStepsSpec : ChangeSpec := { name := "collectRunSteps", fn := fun _ => fun
  | [d1, d2, d3] => { results := [.lit (.bool true)], args := [d1, d2, d3] }
  | _ => none }
def collectRunStepsRow : OpenClaim := { program := "ytmbbigkpeefjjab", sum := "0dc81ff32c9276a4247052a33d41594e44f5a75691257c0987f6531b69f2e0f8", func := "arrears/arrearslaw13.CollectRunSteps", spec := "collectRunSteps", unfollowed := true, recurses := true, apart := false }
def CollectRunStepsSaid : Prop := collectRunStepsRow.holds Try.pinned (OpenSpec.ofChange collectRunStepsSpec)

/-- ITS FALSE NEIGHBOUR: 'it returns false'. Refute it at one input. -/
def collectRunStepsWrong : ChangeSpec := { name := "collectRunSteps", fn := fun _ => fun
  | [d1, d2, d3] => { results := [.lit (.bool false)], args := [d1, d2, d3] }
  | _ => none }
def CollectRunStepsWrongFalsely : Prop := collectRunStepsRow.holds Try.pinned (OpenSpec.ofChange collectRunStepsWrong)

/-- 'arrearslaw13.CollectAges': WHATEVER THE INPUT: true; the input reads as it did. -/
def collectAgesSpec : ChangeSpec := { name := "collectAges", fn := fun _ => fun
  | [d1, d2, d3] => { results := [.lit (.bool true)], args := [d1, d2, d3] }
  | _ => none }
def collectAgesRow : OpenClaim := { program := "ytmbbigkpeefjjab", sum := "0dc81ff32c9276a4247052a33d41594e44f5a75691257c0987f6531b69f2e0f8", func := "arrears/arrearslaw13.CollectAges", spec := "collectAges", unfollowed := true, recurses := true, apart := false }
def CollectAgesSaid : Prop := collectAgesRow.holds Try.pinned (OpenSpec.ofChange collectAgesSpec)

/-- ITS FALSE NEIGHBOUR: 'it returns false'. Refute it at one input. -/
def collectAgesWrong : ChangeSpec := { name := "collectAges", fn := fun _ => fun
  | [d1, d2, d3] => { results := [.lit (.bool false)], args := [d1, d2, d3] }
  | _ => none }
def CollectAgesWrongFalsely : Prop := collectAgesRow.holds Try.pinned (OpenSpec.ofChange collectAgesWrong)

/-- 'arrearslaw13.CollectSteps': WHATEVER THE INPUT: true; the input reads as it did. -/
def collectStepsSpec : ChangeSpec := { name := "collectSteps", fn := fun _ => fun
  | [d1, d2] => { results := [.lit (.bool true)], args := [d1, d2] }
  | _ => none }
def collectStepsRow : OpenClaim := { program := "ytmbbigkpeefjjab", sum := "0dc81ff32c9276a4247052a33d41594e44f5a75691257c0987f6531b69f2e0f8", func := "arrears/arrearslaw13.CollectSteps", spec := "collectSteps", unfollowed := true, recurses := true, apart := false }
def CollectStepsSaid : Prop := collectStepsRow.holds Try.pinned (OpenSpec.ofChange collectStepsSpec)

/-- ITS FALSE NEIGHBOUR: 'it returns false'. Refute it at one input. -/
def collectStepsWrong : ChangeSpec := { name := "collectSteps", fn := fun _ => fun
  | [d1, d2] => { results := [.lit (.bool false)], args := [d1, d2] }
  | _ => none }
def CollectStepsWrongFalsely : Prop := collectStepsRow.holds Try.pinned (OpenSpec.ofChange collectStepsWrong)

/- THE SECOND FORM. 'bulk': how many values and letters a reading holds, each counted each time it is reached (what is shared counts as often as it is met; a slice's spare places count too). A statement '..UptoSaid' is the law's where the arguments, and the package variables that the reading takes, are together of bulk at most 1048576: NARROWER than '..Said'. Prove '..Said' where nothing that the law and all that it calls make is longer than what came in: it says more and counts as full. Else prove '..UptoSaid'. A law counts once. -/
mutual
def uptoBulk {H : Type} : DataW H → Nat
  | .lit (.string bytes) => bytes.length + 1
  | .lit _ => 1
  | .nil => 1
  | .ptr d => uptoBulk d + 1
  | .slice elems spare => uptoBulkAll elems + uptoBulkAll spare + 1
  | .agg parts => uptoBulkAll parts + 1
  | .iface _ d => uptoBulk d + 1
  | .map entries => uptoBulkEntries entries + 1
  | .held _ => 1
def uptoBulkAll {H : Type} : List (DataW H) → Nat
  | [] => 0
  | d :: r => uptoBulk d + uptoBulkAll r
def uptoBulkEntries {H : Type} : List (Lit × DataW H) → Nat
  | [] => 0
  | x :: r => uptoBulkEntry x + uptoBulkEntries r
def uptoBulkEntry {H : Type} : Lit × DataW H → Nat
  | (.string bytes, d) => bytes.length + uptoBulk d + 1
  | (_, d) => uptoBulk d + 1
 end
def uptoSmall : (H : Type) → List (DataW H) → Bool := fun _ ds => decide (uptoBulkAll ds ≤ 1048576)
def OpenSpec.upto (s : _root_.Go.ChangeSpec) : _root_.Go.OpenSpec := { _root_.Go.OpenSpec.ofChange s with cond := some uptoSmall }

/-- 'arrearslaw13.CollectResolves', WHERE WHAT IT READS IS OF BULK AT MOST 1048576: true; the input reads as it did. -/
def collectResolvesUptoRow : OpenClaim := { program := "ytmbbigkpeefjjab", sum := "0dc81ff32c9276a4247052a33d41594e44f5a75691257c0987f6531b69f2e0f8", func := "arrears/arrearslaw13.CollectResolves", spec := "collectResolves", unfollowed := true, recurses := true, apart := false, narrowed := true }
def CollectResolvesUptoSaid : Prop := collectResolvesUptoRow.holds Try.pinned (OpenSpec.upto collectResolvesSpec)

/-- 'arrearslaw13.CollectRunSteps', WHERE WHAT IT READS IS OF BULK AT MOST 1048576: true; the input reads as it did. -/
def collectRunStepsUptoRow : OpenClaim := { program := "ytmbbigkpeefjjab", sum := "0dc81ff32c9276a4247052a33d41594e44f5a75691257c0987f6531b69f2e0f8", func := "arrears/arrearslaw13.CollectRunSteps", spec := "collectRunSteps", unfollowed := true, recurses := true, apart := false, narrowed := true }
def CollectRunStepsUptoSaid : Prop := collectRunStepsUptoRow.holds Try.pinned (OpenSpec.upto collectRunStepsSpec)

/-- 'arrearslaw13.CollectAges', WHERE WHAT IT READS IS OF BULK AT MOST 1048576: true; the input reads as it did. -/
def collectAgesUptoRow : OpenClaim := { program := "ytmbbigkpeefjjab", sum := "0dc81ff32c9276a4247052a33d41594e44f5a75691257c0987f6531b69f2e0f8", func := "arrears/arrearslaw13.CollectAges", spec := "collectAges", unfollowed := true, recurses := true, apart := false, narrowed := true }
def CollectAgesUptoSaid : Prop := collectAgesUptoRow.holds Try.pinned (OpenSpec.upto collectAgesSpec)

/-- 'arrearslaw13.CollectSteps', WHERE WHAT IT READS IS OF BULK AT MOST 1048576: true; the input reads as it did. -/
def collectStepsUptoRow : OpenClaim := { program := "ytmbbigkpeefjjab", sum := "0dc81ff32c9276a4247052a33d41594e44f5a75691257c0987f6531b69f2e0f8", func := "arrears/arrearslaw13.CollectSteps", spec := "collectSteps", unfollowed := true, recurses := true, apart := false, narrowed := true }
def CollectStepsUptoSaid : Prop := collectStepsUptoRow.holds Try.pinned (OpenSpec.upto collectStepsSpec)

end Rows
end Go.Proofs.Ytmbbigkpeefjjab
