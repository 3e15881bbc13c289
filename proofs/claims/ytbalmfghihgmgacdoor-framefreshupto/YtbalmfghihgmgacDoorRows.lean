/-
  NARROWER THAN 'FOR EVERY INPUT', by the rows' own cells (each row's printed sentence says how): FrameCutAgain: laid · FrameSpoilt: laid · FrameTorn: laid · FrameDecodes: laid · FrameGoesOn: laid · FrameFresh: laid.
  DERIVED. THE GIVEN ROWS OF THIS SEAT. 6 by the template 'for every input the law returns true; each argument reads behind the call as it read before'; 0 by the template 'total and deterministic' (their statements: YtbalmfghihgmgacDoorTotals.lean).
  GIVEN WITH THE SEED: the statements are not yours to turn. If you find one false, say at which input.
  Laid BY PROGRAM, IN A SANDBOX (cutbox-rows.mjs): the forced cells as the released guide's own fill.sh prints them over the translation 437782f5478a8a5c… (all of the seat's roots in one cut). By AI agents, Wed Nov 11 2026. No macro, syntax, notation, axiom, sorry.
-/
import Derived.Test.YtbalmfghihgmgacDoorChecked
import GoSem.Claim
import GoSem.ClaimJoined
import GoSem.ClaimMapViews
import Derived.JoinedTies
import Derived.KernelRfl
namespace Go.Proofs.YtbalmfghihgmgacDoor
/- THE CELL 'sum', in the pinned program and in every row, IS THE sha256 OF THE DUMP (.gsa) THAT YtbalmfghihgmgacDoorProg.lean LOADS. Nothing in Lean hashes anything: it is a label: what it is worth is what the hold of that sum in a sandbox is worth. -/
noncomputable def Tryd.pinned : Pinned := { name := "ytbalmfghihgmgacdoor", sum := "437782f5478a8a5cd13b27ac829a295ac6c0127020211ed6e3e317b80f9376e1", checked := Tryd.checked }
namespace Rows
def none {H : Type} : Left H := { results := [], args := [] }

/- WHAT THE LISTED PACKAGE-LEVEL VARIABLES READ AS WHEN THE CALL BEGINS. Each datum BY PROGRAM (the guide's laid-datum.mjs) off the statement by which the dump's own 'gosem.cut.vars' lays the variable. In a bare row this is a premise. The card (YtbalmfghihgmgacDoorCards.lean) ties it to the program's text. -/
def laid_arrears_frame_steps {H : Type} : DataW H := .agg [.lit (.int .u32 0), .lit (.int .u32 498536548), .lit (.int .u32 997073096), .lit (.int .u32 651767980), .lit (.int .u32 1994146192), .lit (.int .u32 1802195444), .lit (.int .u32 1303535960), .lit (.int .u32 1342533948), .lit (.int .u32 3988292384), .lit (.int .u32 4027552580), .lit (.int .u32 3604390888), .lit (.int .u32 3412177804), .lit (.int .u32 2607071920), .lit (.int .u32 2262029012), .lit (.int .u32 2685067896), .lit (.int .u32 3183342108)]

/-- 'arrearslaw6.FrameCutAgain': WHATEVER THE INPUT: true; the input reads as it did. -/
def frameCutAgainSpec : ChangeSpec := { name := "frameCutAgain", fn := fun _ => fun
  | [d1, d2] => { results := [.lit (.bool true)], args := [d1, d2] }
  | _ => none }
def frameCutAgainRow : OpenClaim := { program := "ytbalmfghihgmgacdoor", sum := "437782f5478a8a5cd13b27ac829a295ac6c0127020211ed6e3e317b80f9376e1", func := "arrears/arrearslaw6.FrameCutAgain", spec := "frameCutAgain", unfollowed := true, recurses := true, named := ["arrears/frame.steps"], apart := false, laid := [("arrears/frame.steps", laid_arrears_frame_steps)] }
def FrameCutAgainSaid : Prop := frameCutAgainRow.holds Tryd.pinned (OpenSpec.ofChange frameCutAgainSpec)

/-- ITS FALSE NEIGHBOUR: 'it returns false'. Refute it at one input. -/
def frameCutAgainWrong : ChangeSpec := { name := "frameCutAgain", fn := fun _ => fun
  | [d1, d2] => { results := [.lit (.bool false)], args := [d1, d2] }
  | _ => none }
def FrameCutAgainWrongFalsely : Prop := frameCutAgainRow.holds Tryd.pinned (OpenSpec.ofChange frameCutAgainWrong)

/-- 'arrearslaw6.FrameSpoilt': WHATEVER THE INPUT: true; the input reads as it did. -/
def frameSpoiltSpec : ChangeSpec := { name := "frameSpoilt", fn := fun _ => fun
  | [d1, d2, d3, d4] => { results := [.lit (.bool true)], args := [d1, d2, d3, d4] }
  | _ => none }
def frameSpoiltRow : OpenClaim := { program := "ytbalmfghihgmgacdoor", sum := "437782f5478a8a5cd13b27ac829a295ac6c0127020211ed6e3e317b80f9376e1", func := "arrears/arrearslaw6.FrameSpoilt", spec := "frameSpoilt", unfollowed := true, recurses := true, named := ["arrears/frame.steps"], apart := false, laid := [("arrears/frame.steps", laid_arrears_frame_steps)] }
def FrameSpoiltSaid : Prop := frameSpoiltRow.holds Tryd.pinned (OpenSpec.ofChange frameSpoiltSpec)

/-- ITS FALSE NEIGHBOUR: 'it returns false'. Refute it at one input. -/
def frameSpoiltWrong : ChangeSpec := { name := "frameSpoilt", fn := fun _ => fun
  | [d1, d2, d3, d4] => { results := [.lit (.bool false)], args := [d1, d2, d3, d4] }
  | _ => none }
def FrameSpoiltWrongFalsely : Prop := frameSpoiltRow.holds Tryd.pinned (OpenSpec.ofChange frameSpoiltWrong)

/-- 'arrearslaw6.FrameTorn': WHATEVER THE INPUT: true; the input reads as it did. -/
def frameTornSpec : ChangeSpec := { name := "frameTorn", fn := fun _ => fun
  | [d1, d2] => { results := [.lit (.bool true)], args := [d1, d2] }
  | _ => none }
def frameTornRow : OpenClaim := { program := "ytbalmfghihgmgacdoor", sum := "437782f5478a8a5cd13b27ac829a295ac6c0127020211ed6e3e317b80f9376e1", func := "arrears/arrearslaw6.FrameTorn", spec := "frameTorn", unfollowed := true, recurses := true, named := ["arrears/frame.steps"], apart := false, laid := [("arrears/frame.steps", laid_arrears_frame_steps)] }
def FrameTornSaid : Prop := frameTornRow.holds Tryd.pinned (OpenSpec.ofChange frameTornSpec)

/-- ITS FALSE NEIGHBOUR: 'it returns false'. Refute it at one input. -/
def frameTornWrong : ChangeSpec := { name := "frameTorn", fn := fun _ => fun
  | [d1, d2] => { results := [.lit (.bool false)], args := [d1, d2] }
  | _ => none }
def FrameTornWrongFalsely : Prop := frameTornRow.holds Tryd.pinned (OpenSpec.ofChange frameTornWrong)

/-- 'arrearslaw6.FrameDecodes': WHATEVER THE INPUT: true; the input reads as it did. -/
def frameDecodesSpec : ChangeSpec := { name := "frameDecodes", fn := fun _ => fun
  | [d1, d2] => { results := [.lit (.bool true)], args := [d1, d2] }
  | _ => none }
def frameDecodesRow : OpenClaim := { program := "ytbalmfghihgmgacdoor", sum := "437782f5478a8a5cd13b27ac829a295ac6c0127020211ed6e3e317b80f9376e1", func := "arrears/arrearslaw6.FrameDecodes", spec := "frameDecodes", named := ["arrears/frame.steps"], apart := false, laid := [("arrears/frame.steps", laid_arrears_frame_steps)] }
def FrameDecodesSaid : Prop := frameDecodesRow.holds Tryd.pinned (OpenSpec.ofChange frameDecodesSpec)

/-- ITS FALSE NEIGHBOUR: 'it returns false'. Refute it at one input. -/
def frameDecodesWrong : ChangeSpec := { name := "frameDecodes", fn := fun _ => fun
  | [d1, d2] => { results := [.lit (.bool false)], args := [d1, d2] }
  | _ => none }
def FrameDecodesWrongFalsely : Prop := frameDecodesRow.holds Tryd.pinned (OpenSpec.ofChange frameDecodesWrong)

/-- 'arrearslaw6.FrameGoesOn': WHATEVER THE INPUT: true; the input reads as it did. -/
def frameGoesOnSpec : ChangeSpec := { name := "frameGoesOn", fn := fun _ => fun
  | [d1, d2] => { results := [.lit (.bool true)], args := [d1, d2] }
  | _ => none }
def frameGoesOnRow : OpenClaim := { program := "ytbalmfghihgmgacdoor", sum := "437782f5478a8a5cd13b27ac829a295ac6c0127020211ed6e3e317b80f9376e1", func := "arrears/arrearslaw6.FrameGoesOn", spec := "frameGoesOn", unfollowed := true, recurses := true, named := ["arrears/frame.steps"], apart := false, laid := [("arrears/frame.steps", laid_arrears_frame_steps)] }
def FrameGoesOnSaid : Prop := frameGoesOnRow.holds Tryd.pinned (OpenSpec.ofChange frameGoesOnSpec)

/-- ITS FALSE NEIGHBOUR: 'it returns false'. Refute it at one input. -/
def frameGoesOnWrong : ChangeSpec := { name := "frameGoesOn", fn := fun _ => fun
  | [d1, d2] => { results := [.lit (.bool false)], args := [d1, d2] }
  | _ => none }
def FrameGoesOnWrongFalsely : Prop := frameGoesOnRow.holds Tryd.pinned (OpenSpec.ofChange frameGoesOnWrong)

/-- 'arrearslaw6.FrameFresh': WHATEVER THE INPUT: true; the input reads as it did. -/
def frameFreshSpec : ChangeSpec := { name := "frameFresh", fn := fun _ => fun
  | [d] => { results := [.lit (.bool true)], args := [d] }
  | _ => none }
def frameFreshRow : OpenClaim := { program := "ytbalmfghihgmgacdoor", sum := "437782f5478a8a5cd13b27ac829a295ac6c0127020211ed6e3e317b80f9376e1", func := "arrears/arrearslaw6.FrameFresh", spec := "frameFresh", unfollowed := true, recurses := true, named := ["arrears/frame.steps"], apart := false, laid := [("arrears/frame.steps", laid_arrears_frame_steps)] }
def FrameFreshSaid : Prop := frameFreshRow.holds Tryd.pinned (OpenSpec.ofChange frameFreshSpec)

/-- ITS FALSE NEIGHBOUR: 'it returns false'. Refute it at one input. -/
def frameFreshWrong : ChangeSpec := { name := "frameFresh", fn := fun _ => fun
  | [d] => { results := [.lit (.bool false)], args := [d] }
  | _ => none }
def FrameFreshWrongFalsely : Prop := frameFreshRow.holds Tryd.pinned (OpenSpec.ofChange frameFreshWrong)

/- THE SECOND FORM. 'bulk': how many values and letters a reading holds, each counted each time it is reached (what is shared counts as often as it is met; a slice's spare places count too). A statement '..UptoSaid' is the law's where the arguments, and the package variables that the reading takes, are together of bulk at most 1048576: NARROWER than '..Said'. Prove '..Said' where nothing that the law and all that it calls make is longer than what came in: it says more and counts as full. Else prove '..UptoSaid'. A law counts once. -/
mutual
def uptoBulk {H : Type} : DataW H → Nat
  | .lit (.string bytes) => bytes.length + 1
  | .lit _ => 1
  | .nil => 1
  | .ptr d => uptoBulk d + 1
  | .slice elems spare => uptoBulkAll elems + uptoBulkAll spare + 1
  | .agg parts => uptoBulkAll parts + 1
  | .iface _ d => uptoBulk d + 1
  | .map entries => uptoBulkEntries entries + 1
  | .held _ => 1
def uptoBulkAll {H : Type} : List (DataW H) → Nat
  | [] => 0
  | d :: r => uptoBulk d + uptoBulkAll r
def uptoBulkEntries {H : Type} : List (Lit × DataW H) → Nat
  | [] => 0
  | x :: r => uptoBulkEntry x + uptoBulkEntries r
def uptoBulkEntry {H : Type} : Lit × DataW H → Nat
  | (.string bytes, d) => bytes.length + uptoBulk d + 1
  | (_, d) => uptoBulk d + 1
 end
def uptoSmall : (H : Type) → List (DataW H) → Bool := fun _ ds => decide (uptoBulkAll ds ≤ 1048576)
def OpenSpec.upto (s : _root_.Go.ChangeSpec) : _root_.Go.OpenSpec := { _root_.Go.OpenSpec.ofChange s with cond := some uptoSmall }

/-- 'arrearslaw6.FrameCutAgain', WHERE WHAT IT READS IS OF BULK AT MOST 1048576: true; the input reads as it did. -/
def frameCutAgainUptoRow : OpenClaim := { program := "ytbalmfghihgmgacdoor", sum := "437782f5478a8a5cd13b27ac829a295ac6c0127020211ed6e3e317b80f9376e1", func := "arrears/arrearslaw6.FrameCutAgain", spec := "frameCutAgain", unfollowed := true, recurses := true, named := ["arrears/frame.steps"], apart := false, laid := [("arrears/frame.steps", laid_arrears_frame_steps)], narrowed := true }
def FrameCutAgainUptoSaid : Prop := frameCutAgainUptoRow.holds Tryd.pinned (OpenSpec.upto frameCutAgainSpec)

/-- 'arrearslaw6.FrameSpoilt', WHERE WHAT IT READS IS OF BULK AT MOST 1048576: true; the input reads as it did. -/
def frameSpoiltUptoRow : OpenClaim := { program := "ytbalmfghihgmgacdoor", sum := "437782f5478a8a5cd13b27ac829a295ac6c0127020211ed6e3e317b80f9376e1", func := "arrears/arrearslaw6.FrameSpoilt", spec := "frameSpoilt", unfollowed := true, recurses := true, named := ["arrears/frame.steps"], apart := false, laid := [("arrears/frame.steps", laid_arrears_frame_steps)], narrowed := true }
def FrameSpoiltUptoSaid : Prop := frameSpoiltUptoRow.holds Tryd.pinned (OpenSpec.upto frameSpoiltSpec)

/-- 'arrearslaw6.FrameTorn', WHERE WHAT IT READS IS OF BULK AT MOST 1048576: true; the input reads as it did. -/
def frameTornUptoRow : OpenClaim := { program := "ytbalmfghihgmgacdoor", sum := "437782f5478a8a5cd13b27ac829a295ac6c0127020211ed6e3e317b80f9376e1", func := "arrears/arrearslaw6.FrameTorn", spec := "frameTorn", unfollowed := true, recurses := true, named := ["arrears/frame.steps"], apart := false, laid := [("arrears/frame.steps", laid_arrears_frame_steps)], narrowed := true }
def FrameTornUptoSaid : Prop := frameTornUptoRow.holds Tryd.pinned (OpenSpec.upto frameTornSpec)

/-- 'arrearslaw6.FrameDecodes', WHERE WHAT IT READS IS OF BULK AT MOST 1048576: true; the input reads as it did. -/
def frameDecodesUptoRow : OpenClaim := { program := "ytbalmfghihgmgacdoor", sum := "437782f5478a8a5cd13b27ac829a295ac6c0127020211ed6e3e317b80f9376e1", func := "arrears/arrearslaw6.FrameDecodes", spec := "frameDecodes", named := ["arrears/frame.steps"], apart := false, laid := [("arrears/frame.steps", laid_arrears_frame_steps)], narrowed := true }
def FrameDecodesUptoSaid : Prop := frameDecodesUptoRow.holds Tryd.pinned (OpenSpec.upto frameDecodesSpec)

/-- 'arrearslaw6.FrameGoesOn', WHERE WHAT IT READS IS OF BULK AT MOST 1048576: true; the input reads as it did. -/
def frameGoesOnUptoRow : OpenClaim := { program := "ytbalmfghihgmgacdoor", sum := "437782f5478a8a5cd13b27ac829a295ac6c0127020211ed6e3e317b80f9376e1", func := "arrears/arrearslaw6.FrameGoesOn", spec := "frameGoesOn", unfollowed := true, recurses := true, named := ["arrears/frame.steps"], apart := false, laid := [("arrears/frame.steps", laid_arrears_frame_steps)], narrowed := true }
def FrameGoesOnUptoSaid : Prop := frameGoesOnUptoRow.holds Tryd.pinned (OpenSpec.upto frameGoesOnSpec)

/-- 'arrearslaw6.FrameFresh', WHERE WHAT IT READS IS OF BULK AT MOST 1048576: true; the input reads as it did. -/
def frameFreshUptoRow : OpenClaim := { program := "ytbalmfghihgmgacdoor", sum := "437782f5478a8a5cd13b27ac829a295ac6c0127020211ed6e3e317b80f9376e1", func := "arrears/arrearslaw6.FrameFresh", spec := "frameFresh", unfollowed := true, recurses := true, named := ["arrears/frame.steps"], apart := false, laid := [("arrears/frame.steps", laid_arrears_frame_steps)], narrowed := true }
def FrameFreshUptoSaid : Prop := frameFreshUptoRow.holds Tryd.pinned (OpenSpec.upto frameFreshSpec)

end Rows
end Go.Proofs.YtbalmfghihgmgacDoor
