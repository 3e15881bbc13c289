/-
  Ours: the table that a row lists, as the walks ask it; numbers of 32 bits that came in.
-/
import Derived.Test.YtcmfehabcklbpaaDoorWirRow
import Derived.Test.YtcmfehabcklbpaaDoorFrmStep
import Derived.Test.YtcmfehabcklbpaaDoorTie
import Derived.Test.YtcmfehabcklbpaaDoorCards
import Derived.Lib.LaidTab
import Derived.Deep.DeepHandedRow
import Derived.MakeChecks
import Derived.LaidHandle
namespace Go.Proofs.YtcmfehabcklbpaaDoor
open Go.ChangeShapes Go.WideShapes Go.ChangeAt Go.RowKit

theorem bounds32 {x : Int} (h : (Lit.int .u32 x).wf = true) : ∃ n : Nat, x = (n : Int) ∧ n < 4294967296 := by
  simp [Lit.wf, IntKind.min, IntKind.max, IntKind.signed, IntKind.bits] at h
  exact ⟨x.toNat, by omega, by omega⟩
theorem gS : Tryd.prog.globalNamed "arrears/frame.steps" = some 0 := by kernel_rfl
theorem tyS : (Tryd.prog.globals[0]?).map (·.type) = some 115 := by kernel_rfl
theorem cellsW : Tryd.prog.cellsOf 103 = 1 := by kernel_rfl
theorem cellsS : Tryd.prog.cellsOf 115 = 16 := by kernel_rfl
abbrev lstS : List (String × DataW Unit) := [("arrears/frame.steps", Rows.laid_arrears_frame_steps)]
theorem tabS_of {W : World} (h : laidMetH Tryd.prog lstS W) : TabS W := by
  have t : Lib.TabIs Tryd.prog W "arrears/frame.steps" .u32 CrcM.tabL := Lib.tabIs_of_head (rest := []) gS tyS Tryd.underlying115 Tryd.underlying103 cellsW cellsS h
  intro m hm
  have c := t.cell gS m (by simp [CrcM.tabL]; omega)
  rw [c]
  have e := CrcM.tabL_is m hm
  rw [List.getD_eq_getElem?_getD, e]
  rfl

/-- A world for the witness: the table as its initialiser lays it. -/
noncomputable def laidWorld (os : Os) : World :=
  { World.holding Tryd.prog os ⟨#[], #[], []⟩ with heap := (World.holding Tryd.prog os ⟨#[], #[], []⟩).heap.modify 0 fun
      | .cells _ t frozen => .cells #[.int .u32 0, .int .u32 498536548, .int .u32 997073096, .int .u32 651767980, .int .u32 1994146192, .int .u32 1802195444, .int .u32 1303535960, .int .u32 1342533948, .int .u32 3988292384, .int .u32 4027552580, .int .u32 3604390888, .int .u32 3412177804, .int .u32 2607071920, .int .u32 2262029012, .int .u32 2685067896, .int .u32 3183342108] t frozen
      | o => o }
end Go.Proofs.YtcmfehabcklbpaaDoor
