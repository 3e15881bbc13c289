/-
  Ours: arguments that are rows of rows of bytes, opened.
-/
import Derived.Test.YtiefnomldfhhnaaWirRow
import Derived.Test.YtiefnomldfhhnaaDskCount
import Derived.ChangeArms
import Derived.Deep.Slices
namespace Go.Proofs.Ytiefnomldfhhnaa
open Go.ChangeShapes Go.WideShapes Go.ChangeAt Go.RowKit

section
variable {H : Type} {enc : TypeId × Value → H} {W : World}
theorem bulk_elem {d : DataW H} {l r : List (DataW H)} (h : d ∈ l) (hk : Rows.uptoBulk (DataW.slice l r) ≤ 1048576) : Rows.uptoBulk d ≤ 1048576 := by
  have := bulk_mem h
  simp only [Rows.uptoBulk] at hk
  omega
theorem slice_cells {t e : TypeId} {k : IntKind} {fuel : Nat} {u : Value} {x : DataW H × List MemPlace} (ht : Try.prog.underlying t = some (.slice e)) (he : Try.prog.underlying e = some (.int k)) (hc : Try.prog.cellsOf e = 1)
    (hf : DataW.trod enc Try.prog W 0 (fun _ => true) true fuel t [u] = some x) : ∃ a n c, u = .slice a n c := by
  rcases open_ints ht he hc hf with ⟨hcs, _⟩ | ⟨x, l, c, zs, hcs, _⟩
  · simp at hcs; exact ⟨_, _, _, hcs⟩
  · simp at hcs; exact ⟨_, _, _, hcs⟩

end
end Go.Proofs.Ytiefnomldfhhnaa
