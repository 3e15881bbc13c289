/-
  No cell of these rows narrows 'for every input' (looked for: loops, veiled, ifaces, maps, wideKeys, modest, calm, conditions, laid).
  DERIVED. THE GIVEN ROWS OF THIS SEAT. 3 by the template 'for every input the law returns true; each argument reads behind the call as it read before'; 0 by the template 'total and deterministic' (their statements: YtekejcpgoijoaabTotals.lean).
  GIVEN WITH THE SEED: the statements are not yours to turn. If you find one false, say at which input.
  Laid BY PROGRAM, IN A SANDBOX (cutbox-rows.mjs): the forced cells as the released guide's own fill.sh prints them over the translation 15a599626c22a066… (all of the seat's roots in one cut). By AI agents, Wed Nov 11 2026. No macro, syntax, notation, axiom, sorry.
-/
import Derived.Test.YtekejcpgoijoaabChecked
import GoSem.Claim
import GoSem.ClaimJoined
import GoSem.ClaimMapViews
import Derived.JoinedTies
import Derived.KernelRfl
namespace Go.Proofs.Ytekejcpgoijoaab
/- THE CELL 'sum', in the pinned program and in every row, IS THE sha256 OF THE DUMP (.gsa) THAT YtekejcpgoijoaabProg.lean LOADS. Nothing in Lean hashes anything: it is a label: what it is worth is what the hold of that sum in a sandbox is worth. -/
noncomputable def Try.pinned : Pinned := { name := "ytekejcpgoijoaab", sum := "15a599626c22a066c8bea06d2155880b73f0213bd338939d185521ce25fb92b3", checked := Try.checked }
namespace Rows
def none {H : Type} : Left H := { results := [], args := [] }

/-- 'arrearslaw10.AgingReach': WHATEVER THE INPUT: true; the input reads as it did. -/
def agingReachSpec : ChangeSpec := { name := "agingReach", fn := fun _ => fun
  | [d1, d2, d3, d4] => { results := [.lit (.bool true)], args := [d1, d2, d3, d4] }
  | _ => none }
def agingReachRow : OpenClaim := { program := "ytekejcpgoijoaab", sum := "15a599626c22a066c8bea06d2155880b73f0213bd338939d185521ce25fb92b3", func := "arrears/arrearslaw10.AgingReach", spec := "agingReach", inPlace := ["math/bits.Add64"], apart := false }
def AgingReachSaid : Prop := agingReachRow.holds Try.pinned (OpenSpec.ofChange agingReachSpec)

/-- ITS FALSE NEIGHBOUR: 'it returns false'. Refute it at one input. -/
def agingReachWrong : ChangeSpec := { name := "agingReach", fn := fun _ => fun
  | [d1, d2, d3, d4] => { results := [.lit (.bool false)], args := [d1, d2, d3, d4] }
  | _ => none }
def AgingReachWrongFalsely : Prop := agingReachRow.holds Try.pinned (OpenSpec.ofChange agingReachWrong)

/-- 'arrearslaw10.AgingMisses': WHATEVER THE INPUT: true; the input reads as it did. -/
def agingMissesSpec : ChangeSpec := { name := "agingMisses", fn := fun _ => fun
  | [d1, d2, d3, d4, d5] => { results := [.lit (.bool true)], args := [d1, d2, d3, d4, d5] }
  | _ => none }
def agingMissesRow : OpenClaim := { program := "ytekejcpgoijoaab", sum := "15a599626c22a066c8bea06d2155880b73f0213bd338939d185521ce25fb92b3", func := "arrears/arrearslaw10.AgingMisses", spec := "agingMisses", inPlace := ["math/bits.Add64"], apart := false }
def AgingMissesSaid : Prop := agingMissesRow.holds Try.pinned (OpenSpec.ofChange agingMissesSpec)

/-- ITS FALSE NEIGHBOUR: 'it returns false'. Refute it at one input. -/
def agingMissesWrong : ChangeSpec := { name := "agingMisses", fn := fun _ => fun
  | [d1, d2, d3, d4, d5] => { results := [.lit (.bool false)], args := [d1, d2, d3, d4, d5] }
  | _ => none }
def AgingMissesWrongFalsely : Prop := agingMissesRow.holds Try.pinned (OpenSpec.ofChange agingMissesWrong)

/-- 'arrearslaw10.AgingExact': WHATEVER THE INPUT: true; the input reads as it did. -/
def agingExactSpec : ChangeSpec := { name := "agingExact", fn := fun _ => fun
  | [d1, d2, d3] => { results := [.lit (.bool true)], args := [d1, d2, d3] }
  | _ => none }
def agingExactRow : OpenClaim := { program := "ytekejcpgoijoaab", sum := "15a599626c22a066c8bea06d2155880b73f0213bd338939d185521ce25fb92b3", func := "arrears/arrearslaw10.AgingExact", spec := "agingExact", inPlace := ["math/bits.Add64"], apart := false }
def AgingExactSaid : Prop := agingExactRow.holds Try.pinned (OpenSpec.ofChange agingExactSpec)

/-- ITS FALSE NEIGHBOUR: 'it returns false'. Refute it at one input. -/
def agingExactWrong : ChangeSpec := { name := "agingExact", fn := fun _ => fun
  | [d1, d2, d3] => { results := [.lit (.bool false)], args := [d1, d2, d3] }
  | _ => none }
def AgingExactWrongFalsely : Prop := agingExactRow.holds Try.pinned (OpenSpec.ofChange agingExactWrong)

/- THE SECOND FORM. 'bulk': how many values and letters a reading holds, each counted each time it is reached (what is shared counts as often as it is met; a slice's spare places count too). A statement '..UptoSaid' is the law's where the arguments, and the package variables that the reading takes, are together of bulk at most 1048576: NARROWER than '..Said'. Prove '..Said' where nothing that the law and all that it calls make is longer than what came in: it says more and counts as full. Else prove '..UptoSaid'. A law counts once. -/
mutual
def uptoBulk {H : Type} : DataW H → Nat
  | .lit (.string bytes) => bytes.length + 1
  | .lit _ => 1
  | .nil => 1
  | .ptr d => uptoBulk d + 1
  | .slice elems spare => uptoBulkAll elems + uptoBulkAll spare + 1
  | .agg parts => uptoBulkAll parts + 1
  | .iface _ d => uptoBulk d + 1
  | .map entries => uptoBulkEntries entries + 1
  | .held _ => 1
def uptoBulkAll {H : Type} : List (DataW H) → Nat
  | [] => 0
  | d :: r => uptoBulk d + uptoBulkAll r
def uptoBulkEntries {H : Type} : List (Lit × DataW H) → Nat
  | [] => 0
  | x :: r => uptoBulkEntry x + uptoBulkEntries r
def uptoBulkEntry {H : Type} : Lit × DataW H → Nat
  | (.string bytes, d) => bytes.length + uptoBulk d + 1
  | (_, d) => uptoBulk d + 1
 end
def uptoSmall : (H : Type) → List (DataW H) → Bool := fun _ ds => decide (uptoBulkAll ds ≤ 1048576)
def OpenSpec.upto (s : _root_.Go.ChangeSpec) : _root_.Go.OpenSpec := { _root_.Go.OpenSpec.ofChange s with cond := some uptoSmall }

/-- 'arrearslaw10.AgingReach', WHERE WHAT IT READS IS OF BULK AT MOST 1048576: true; the input reads as it did. -/
def agingReachUptoRow : OpenClaim := { program := "ytekejcpgoijoaab", sum := "15a599626c22a066c8bea06d2155880b73f0213bd338939d185521ce25fb92b3", func := "arrears/arrearslaw10.AgingReach", spec := "agingReach", inPlace := ["math/bits.Add64"], apart := false, narrowed := true }
def AgingReachUptoSaid : Prop := agingReachUptoRow.holds Try.pinned (OpenSpec.upto agingReachSpec)

/-- 'arrearslaw10.AgingMisses', WHERE WHAT IT READS IS OF BULK AT MOST 1048576: true; the input reads as it did. -/
def agingMissesUptoRow : OpenClaim := { program := "ytekejcpgoijoaab", sum := "15a599626c22a066c8bea06d2155880b73f0213bd338939d185521ce25fb92b3", func := "arrears/arrearslaw10.AgingMisses", spec := "agingMisses", inPlace := ["math/bits.Add64"], apart := false, narrowed := true }
def AgingMissesUptoSaid : Prop := agingMissesUptoRow.holds Try.pinned (OpenSpec.upto agingMissesSpec)

/-- 'arrearslaw10.AgingExact', WHERE WHAT IT READS IS OF BULK AT MOST 1048576: true; the input reads as it did. -/
def agingExactUptoRow : OpenClaim := { program := "ytekejcpgoijoaab", sum := "15a599626c22a066c8bea06d2155880b73f0213bd338939d185521ce25fb92b3", func := "arrears/arrearslaw10.AgingExact", spec := "agingExact", inPlace := ["math/bits.Add64"], apart := false, narrowed := true }
def AgingExactUptoSaid : Prop := agingExactUptoRow.holds Try.pinned (OpenSpec.upto agingExactSpec)

end Rows
end Go.Proofs.Ytekejcpgoijoaab
