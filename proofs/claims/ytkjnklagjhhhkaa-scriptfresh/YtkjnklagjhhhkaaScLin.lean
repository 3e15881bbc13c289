/-
  Ours: the walk of ScriptLines.
-/
import Derived.Test.YtkjnklagjhhhkaaScRef
import Derived.Test.YtkjnklagjhhhkaaScLaw
namespace Go.Proofs.Ytkjnklagjhhhkaa
open Go.RowKit

def marks3 : List Nat := [201, 202, 203]
theorem rd_new (w : World) (ty : TypeId) (cs : List Value) : Rd (w.alloc (.cells cs.toArray ty)) (.slice (some ⟨w.heap.size, 0, none⟩) cs.length cs.length) cs := by
  refine ⟨_, _, rfl, Nat.le_refl _, (fun h => by cases h), fun i hi => ⟨w.heap.size, 0, rfl, by simp, ?_⟩⟩
  rw [Nat.zero_add]
  exact Blk.cell (Blk.new ty cs w) i cs[i] (List.getElem?_eq_getElem hi)

theorem RowB.head {B : Nat} {w : World} {v : Value} {bs M : List Nat} (h : RowB 5 B w v (bs ++ M)) (hM : 0 < M.length) : ∃ g cap, v = .slice (some ⟨g, 0, none⟩) (bs.length + M.length) cap ∧ bs.length ≤ cap ∧ B ≤ g ∧ g < w.heap.size := by
  obtain ⟨g, cap, e, hc, -, -⟩ := RowV.own h (by rw [List.length_map, List.length_append]; omega)
  rw [List.length_map, List.length_append] at e hc
  exact ⟨g, cap, e, by omega, by rw [e] at h; exact RowV.block_ge h rfl, by rw [e] at h; exact RowV.block_lt h rfl⟩
theorem RowB.front {B g n cap : Nat} {w : World} {bs M : List Nat} (h : RowB 5 B w (.slice (some ⟨g, 0, none⟩) n cap) (bs ++ M)) (hn : bs.length ≤ n) : RdB w (.slice (some ⟨g, 0, none⟩) bs.length cap) bs := by
  have := Rd.cut (k := bs.length) (RowV.rd h) hn
  rw [← List.map_take, List.take_left] at this
  exact this

end Go.Proofs.Ytkjnklagjhhhkaa
