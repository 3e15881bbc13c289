/-
  Ours: the contract of calendar.ParseDate.
-/
import Derived.Test.YtmennknknecgjaaDoorCalTxt
namespace Go.Proofs.YtmennknknecgjaaDoor
open Go.RowKit CalM

instance okDec (y m k : Int) : Decidable (Ok y m k) := by unfold Ok; infer_instance

/-- The date that a text tells, if it is one. -/
def parseO : List UInt8 → Option Int
  | [c0, c1, c2, c3, c4, c5, c6, c7, c8, c9] =>
    if c4 = 45 ∧ c7 = 45 ∧ digOk [c0, c1, c2, c3] = true ∧ digOk [c5, c6] = true ∧ digOk [c8, c9] = true ∧ Ok (digV [c0, c1, c2, c3]) (digV [c5, c6]) (digV [c8, c9]) then
      some (dA (digV [c0, c1, c2, c3]) (digV [c5, c6]) + digV [c8, c9]) else none
  | _ => none
def optZ : Option Int → Int
  | some x => x
  | none => 0

theorem parseO_ten (c0 c1 c2 c3 c4 c5 c6 c7 c8 c9 : UInt8) : parseO [c0, c1, c2, c3, c4, c5, c6, c7, c8, c9] =
    if c4 = 45 ∧ c7 = 45 ∧ digOk [c0, c1, c2, c3] = true ∧ digOk [c5, c6] = true ∧ digOk [c8, c9] = true ∧ Ok (digV [c0, c1, c2, c3]) (digV [c5, c6]) (digV [c8, c9]) then
      some (dA (digV [c0, c1, c2, c3]) (digV [c5, c6]) + digV [c8, c9]) else none := rfl
theorem parseO_len {l : List UInt8} (h : l.length ≠ 10) : parseO l = none := by
  unfold parseO; split
  · simp at h
  · rfl

theorem list_ten {l : List UInt8} (h : l.length = 10) : ∃ c0 c1 c2 c3 c4 c5 c6 c7 c8 c9, l = [c0, c1, c2, c3, c4, c5, c6, c7, c8, c9] := by
  match l, h with
  | [c0, c1, c2, c3, c4, c5, c6, c7, c8, c9], _ => exact ⟨c0, c1, c2, c3, c4, c5, c6, c7, c8, c9, rfl⟩

end Go.Proofs.YtmennknknecgjaaDoor
