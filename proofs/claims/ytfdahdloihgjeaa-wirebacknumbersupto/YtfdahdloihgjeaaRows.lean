/-
  No cell of these rows narrows 'for every input' (looked for: loops, veiled, ifaces, maps, wideKeys, modest, calm, conditions, laid).
  DERIVED. THE GIVEN ROWS OF THIS SEAT. 6 by the template 'for every input the law returns true; each argument reads behind the call as it read before'; 0 by the template 'total and deterministic' (their statements: YtfdahdloihgjeaaTotals.lean).
  GIVEN WITH THE SEED: the statements are not yours to turn. If you find one false, say at which input.
  Laid BY PROGRAM, IN A SANDBOX (cutbox-rows.mjs): the forced cells as the released guide's own fill.sh prints them over the translation 9b75b3d81cebfef6… (all of the seat's roots in one cut). By AI agents, Wed Nov 11 2026. No macro, syntax, notation, axiom, sorry.
-/
import Derived.Test.YtfdahdloihgjeaaChecked
import GoSem.Claim
import GoSem.ClaimJoined
import GoSem.ClaimMapViews
import Derived.JoinedTies
import Derived.KernelRfl
namespace Go.Proofs.Ytfdahdloihgjeaa
/- THE CELL 'sum', in the pinned program and in every row, IS THE sha256 OF THE DUMP (.gsa) THAT YtfdahdloihgjeaaProg.lean LOADS. Nothing in Lean hashes anything: it is a label: what it is worth is what the hold of that sum in a sandbox is worth. -/
noncomputable def Try.pinned : Pinned := { name := "ytfdahdloihgjeaa", sum := "9b75b3d81cebfef66e7101ec3eeb46a4b2952f85956043019699f56e56ecefa7", checked := Try.checked }
namespace Rows
def none {H : Type} : Left H := { results := [], args := [] }

/-- 'arrearslaw4.WirePutsList': WHATEVER THE INPUT: true; the input reads as it did. -/
def wirePutsListSpec : ChangeSpec := { name := "wirePutsList", fn := fun _ => fun
  | [d] => { results := [.lit (.bool true)], args := [d] }
  | _ => none }
def wirePutsListRow : OpenClaim := { program := "ytfdahdloihgjeaa", sum := "9b75b3d81cebfef66e7101ec3eeb46a4b2952f85956043019699f56e56ecefa7", func := "arrears/arrearslaw4.WirePutsList", spec := "wirePutsList", unfollowed := true, recurses := true, apart := false }
def WirePutsListSaid : Prop := wirePutsListRow.holds Try.pinned (OpenSpec.ofChange wirePutsListSpec)

/-- ITS FALSE NEIGHBOUR: 'it returns false'. Refute it at one input. -/
def wirePutsListWrong : ChangeSpec := { name := "wirePutsList", fn := fun _ => fun
  | [d] => { results := [.lit (.bool false)], args := [d] }
  | _ => none }
def WirePutsListWrongFalsely : Prop := wirePutsListRow.holds Try.pinned (OpenSpec.ofChange wirePutsListWrong)

/-- 'arrearslaw4.WireReadsList': WHATEVER THE INPUT: true; the input reads as it did. -/
def wireReadsListSpec : ChangeSpec := { name := "wireReadsList", fn := fun _ => fun
  | [d1, d2] => { results := [.lit (.bool true)], args := [d1, d2] }
  | _ => none }
def wireReadsListRow : OpenClaim := { program := "ytfdahdloihgjeaa", sum := "9b75b3d81cebfef66e7101ec3eeb46a4b2952f85956043019699f56e56ecefa7", func := "arrears/arrearslaw4.WireReadsList", spec := "wireReadsList", unfollowed := true, recurses := true, apart := false }
def WireReadsListSaid : Prop := wireReadsListRow.holds Try.pinned (OpenSpec.ofChange wireReadsListSpec)

/-- ITS FALSE NEIGHBOUR: 'it returns false'. Refute it at one input. -/
def wireReadsListWrong : ChangeSpec := { name := "wireReadsList", fn := fun _ => fun
  | [d1, d2] => { results := [.lit (.bool false)], args := [d1, d2] }
  | _ => none }
def WireReadsListWrongFalsely : Prop := wireReadsListRow.holds Try.pinned (OpenSpec.ofChange wireReadsListWrong)

/-- 'arrearslaw4.WireNumbers': WHATEVER THE INPUT: true; the input reads as it did. -/
def wireNumbersSpec : ChangeSpec := { name := "wireNumbers", fn := fun _ => fun
  | [d1, d2, d3, d4] => { results := [.lit (.bool true)], args := [d1, d2, d3, d4] }
  | _ => none }
def wireNumbersRow : OpenClaim := { program := "ytfdahdloihgjeaa", sum := "9b75b3d81cebfef66e7101ec3eeb46a4b2952f85956043019699f56e56ecefa7", func := "arrears/arrearslaw4.WireNumbers", spec := "wireNumbers", apart := false }
def WireNumbersSaid : Prop := wireNumbersRow.holds Try.pinned (OpenSpec.ofChange wireNumbersSpec)

/-- ITS FALSE NEIGHBOUR: 'it returns false'. Refute it at one input. -/
def wireNumbersWrong : ChangeSpec := { name := "wireNumbers", fn := fun _ => fun
  | [d1, d2, d3, d4] => { results := [.lit (.bool false)], args := [d1, d2, d3, d4] }
  | _ => none }
def WireNumbersWrongFalsely : Prop := wireNumbersRow.holds Try.pinned (OpenSpec.ofChange wireNumbersWrong)

/-- 'arrearslaw4.WireBackNumbers': WHATEVER THE INPUT: true; the input reads as it did. -/
def wireBackNumbersSpec : ChangeSpec := { name := "wireBackNumbers", fn := fun _ => fun
  | [d1, d2, d3, d4, d5, d6, d7] => { results := [.lit (.bool true)], args := [d1, d2, d3, d4, d5, d6, d7] }
  | _ => none }
def wireBackNumbersRow : OpenClaim := { program := "ytfdahdloihgjeaa", sum := "9b75b3d81cebfef66e7101ec3eeb46a4b2952f85956043019699f56e56ecefa7", func := "arrears/arrearslaw4.WireBackNumbers", spec := "wireBackNumbers", unfollowed := true, recurses := true, apart := false }
def WireBackNumbersSaid : Prop := wireBackNumbersRow.holds Try.pinned (OpenSpec.ofChange wireBackNumbersSpec)

/-- ITS FALSE NEIGHBOUR: 'it returns false'. Refute it at one input. -/
def wireBackNumbersWrong : ChangeSpec := { name := "wireBackNumbers", fn := fun _ => fun
  | [d1, d2, d3, d4, d5, d6, d7] => { results := [.lit (.bool false)], args := [d1, d2, d3, d4, d5, d6, d7] }
  | _ => none }
def WireBackNumbersWrongFalsely : Prop := wireBackNumbersRow.holds Try.pinned (OpenSpec.ofChange wireBackNumbersWrong)

/-- 'arrearslaw4.WirePrefix': WHATEVER THE INPUT: true; the input reads as it did. -/
def wirePrefixSpec : ChangeSpec := { name := "wirePrefix", fn := fun _ => fun
  | [d1, d2, d3] => { results := [.lit (.bool true)], args := [d1, d2, d3] }
  | _ => none }
def wirePrefixRow : OpenClaim := { program := "ytfdahdloihgjeaa", sum := "9b75b3d81cebfef66e7101ec3eeb46a4b2952f85956043019699f56e56ecefa7", func := "arrears/arrearslaw4.WirePrefix", spec := "wirePrefix", unfollowed := true, recurses := true, apart := false }
def WirePrefixSaid : Prop := wirePrefixRow.holds Try.pinned (OpenSpec.ofChange wirePrefixSpec)

/-- ITS FALSE NEIGHBOUR: 'it returns false'. Refute it at one input. -/
def wirePrefixWrong : ChangeSpec := { name := "wirePrefix", fn := fun _ => fun
  | [d1, d2, d3] => { results := [.lit (.bool false)], args := [d1, d2, d3] }
  | _ => none }
def WirePrefixWrongFalsely : Prop := wirePrefixRow.holds Try.pinned (OpenSpec.ofChange wirePrefixWrong)

/-- 'arrearslaw4.WireApart': WHATEVER THE INPUT: true; the input reads as it did. -/
def wireApartSpec : ChangeSpec := { name := "wireApart", fn := fun _ => fun
  | [d1, d2, d3, d4, d5, d6] => { results := [.lit (.bool true)], args := [d1, d2, d3, d4, d5, d6] }
  | _ => none }
def wireApartRow : OpenClaim := { program := "ytfdahdloihgjeaa", sum := "9b75b3d81cebfef66e7101ec3eeb46a4b2952f85956043019699f56e56ecefa7", func := "arrears/arrearslaw4.WireApart", spec := "wireApart", unfollowed := true, recurses := true, apart := false }
def WireApartSaid : Prop := wireApartRow.holds Try.pinned (OpenSpec.ofChange wireApartSpec)

/-- ITS FALSE NEIGHBOUR: 'it returns false'. Refute it at one input. -/
def wireApartWrong : ChangeSpec := { name := "wireApart", fn := fun _ => fun
  | [d1, d2, d3, d4, d5, d6] => { results := [.lit (.bool false)], args := [d1, d2, d3, d4, d5, d6] }
  | _ => none }
def WireApartWrongFalsely : Prop := wireApartRow.holds Try.pinned (OpenSpec.ofChange wireApartWrong)

/- THE SECOND FORM. 'bulk': how many values and letters a reading holds, each counted each time it is reached (what is shared counts as often as it is met; a slice's spare places count too). A statement '..UptoSaid' is the law's where the arguments, and the package variables that the reading takes, are together of bulk at most 1048576: NARROWER than '..Said'. Prove '..Said' where nothing that the law and all that it calls make is longer than what came in: it says more and counts as full. Else prove '..UptoSaid'. A law counts once. -/
mutual
def uptoBulk {H : Type} : DataW H → Nat
  | .lit (.string bytes) => bytes.length + 1
  | .lit _ => 1
  | .nil => 1
  | .ptr d => uptoBulk d + 1
  | .slice elems spare => uptoBulkAll elems + uptoBulkAll spare + 1
  | .agg parts => uptoBulkAll parts + 1
  | .iface _ d => uptoBulk d + 1
  | .map entries => uptoBulkEntries entries + 1
  | .held _ => 1
def uptoBulkAll {H : Type} : List (DataW H) → Nat
  | [] => 0
  | d :: r => uptoBulk d + uptoBulkAll r
def uptoBulkEntries {H : Type} : List (Lit × DataW H) → Nat
  | [] => 0
  | x :: r => uptoBulkEntry x + uptoBulkEntries r
def uptoBulkEntry {H : Type} : Lit × DataW H → Nat
  | (.string bytes, d) => bytes.length + uptoBulk d + 1
  | (_, d) => uptoBulk d + 1
 end
def uptoSmall : (H : Type) → List (DataW H) → Bool := fun _ ds => decide (uptoBulkAll ds ≤ 1048576)
def OpenSpec.upto (s : _root_.Go.ChangeSpec) : _root_.Go.OpenSpec := { _root_.Go.OpenSpec.ofChange s with cond := some uptoSmall }

/-- 'arrearslaw4.WirePutsList', WHERE WHAT IT READS IS OF BULK AT MOST 1048576: true; the input reads as it did. -/
def wirePutsListUptoRow : OpenClaim := { program := "ytfdahdloihgjeaa", sum := "9b75b3d81cebfef66e7101ec3eeb46a4b2952f85956043019699f56e56ecefa7", func := "arrears/arrearslaw4.WirePutsList", spec := "wirePutsList", unfollowed := true, recurses := true, apart := false, narrowed := true }
def WirePutsListUptoSaid : Prop := wirePutsListUptoRow.holds Try.pinned (OpenSpec.upto wirePutsListSpec)

/-- 'arrearslaw4.WireReadsList', WHERE WHAT IT READS IS OF BULK AT MOST 1048576: true; the input reads as it did. -/
def wireReadsListUptoRow : OpenClaim := { program := "ytfdahdloihgjeaa", sum := "9b75b3d81cebfef66e7101ec3eeb46a4b2952f85956043019699f56e56ecefa7", func := "arrears/arrearslaw4.WireReadsList", spec := "wireReadsList", unfollowed := true, recurses := true, apart := false, narrowed := true }
def WireReadsListUptoSaid : Prop := wireReadsListUptoRow.holds Try.pinned (OpenSpec.upto wireReadsListSpec)

/-- 'arrearslaw4.WireNumbers', WHERE WHAT IT READS IS OF BULK AT MOST 1048576: true; the input reads as it did. -/
def wireNumbersUptoRow : OpenClaim := { program := "ytfdahdloihgjeaa", sum := "9b75b3d81cebfef66e7101ec3eeb46a4b2952f85956043019699f56e56ecefa7", func := "arrears/arrearslaw4.WireNumbers", spec := "wireNumbers", apart := false, narrowed := true }
def WireNumbersUptoSaid : Prop := wireNumbersUptoRow.holds Try.pinned (OpenSpec.upto wireNumbersSpec)

/-- 'arrearslaw4.WireBackNumbers', WHERE WHAT IT READS IS OF BULK AT MOST 1048576: true; the input reads as it did. -/
def wireBackNumbersUptoRow : OpenClaim := { program := "ytfdahdloihgjeaa", sum := "9b75b3d81cebfef66e7101ec3eeb46a4b2952f85956043019699f56e56ecefa7", func := "arrears/arrearslaw4.WireBackNumbers", spec := "wireBackNumbers", unfollowed := true, recurses := true, apart := false, narrowed := true }
def WireBackNumbersUptoSaid : Prop := wireBackNumbersUptoRow.holds Try.pinned (OpenSpec.upto wireBackNumbersSpec)

/-- 'arrearslaw4.WirePrefix', WHERE WHAT IT READS IS OF BULK AT MOST 1048576: true; the input reads as it did. -/
def wirePrefixUptoRow : OpenClaim := { program := "ytfdahdloihgjeaa", sum := "9b75b3d81cebfef66e7101ec3eeb46a4b2952f85956043019699f56e56ecefa7", func := "arrears/arrearslaw4.WirePrefix", spec := "wirePrefix", unfollowed := true, recurses := true, apart := false, narrowed := true }
def WirePrefixUptoSaid : Prop := wirePrefixUptoRow.holds Try.pinned (OpenSpec.upto wirePrefixSpec)

/-- 'arrearslaw4.WireApart', WHERE WHAT IT READS IS OF BULK AT MOST 1048576: true; the input reads as it did. -/
def wireApartUptoRow : OpenClaim := { program := "ytfdahdloihgjeaa", sum := "9b75b3d81cebfef66e7101ec3eeb46a4b2952f85956043019699f56e56ecefa7", func := "arrears/arrearslaw4.WireApart", spec := "wireApart", unfollowed := true, recurses := true, apart := false, narrowed := true }
def WireApartUptoSaid : Prop := wireApartUptoRow.holds Try.pinned (OpenSpec.upto wireApartSpec)

end Rows
end Go.Proofs.Ytfdahdloihgjeaa
