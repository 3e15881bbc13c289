/-
  Ours: wakes.
-/
import Derived.Test.YteppdlaoeoeplaaObHlp
namespace Go.Proofs.Yteppdlaoeoeplaa
open Go.RowKit ObM LedM PolM
set_option linter.unusedSimpArgs false

theorem nine_rd (w : World) : RdB (w.alloc (.cells #[.int .u8 9] 5)) (.slice (some ⟨w.heap.size, 0, none⟩) 1 1) [9] := by
  refine RowV.rd (e := 5) (base := 0) ⟨by simp, .inr ⟨w.heap.size, 1, #[.int .u8 9], rfl, Nat.zero_le _, (MapKept.heap_alloc w _).1, by simp, by unfold maxLen; omega, rfl, rfl⟩⟩
end Go.Proofs.Yteppdlaoeoeplaa
