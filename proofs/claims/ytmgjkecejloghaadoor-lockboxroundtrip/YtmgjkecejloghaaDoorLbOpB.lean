/-
  Ours: bytes that came in, with their bound.
-/
import Derived.Test.YtmgjkecejloghaaDoorLbTabH
namespace Go.Proofs.YtmgjkecejloghaaDoor
open Go.ChangeShapes Go.WideShapes Go.ChangeAt Go.RowKit LbM LbF CalM
section
variable {H : Type} {enc : TypeId × Value → H} {W : World}
theorem bytesM_open {a : Option Addr} {len cap : Nat} {d : DataW H} {ps : List MemPlace} (h : DataW.Trod enc Tryd.prog W 0 (fun _ => true) true 26 (.slice a len cap) d ps) : ∃ bs : List Nat, bs.length = len ∧ RdB W (.slice a len cap) bs ∧ (∀ z ∈ bs, z < 256) ∧ bs.length ≤ 9223372036854775807 := by
  obtain ⟨bs, h1, h2, h3, -⟩ := bytes_open Tryd.underlying26 Tryd.underlying5 (by kernel_rfl) h
  have hm : len ≤ maxLen := by
    obtain ⟨fuel, hf⟩ := h
    rcases open_ints Tryd.underlying26 Tryd.underlying5 (by kernel_rfl) hf with ⟨hcs, _⟩ | ⟨x, l, c, zs, hcs, _, hl, hm, _⟩
    · simp [Value.cells] at hcs
      omega
    · simp [Value.cells] at hcs
      omega
  exact ⟨bs, h1, h2, h3, by rw [h1]; unfold maxLen at hm; omega⟩
end
end Go.Proofs.YtmgjkecejloghaaDoor
