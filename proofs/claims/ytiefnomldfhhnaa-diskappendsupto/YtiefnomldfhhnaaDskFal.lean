/-
  Ours: the script fallen.
-/
import Derived.Test.YtiefnomldfhhnaaDskUp5
namespace Go.Proofs.Ytiefnomldfhhnaa
open Go.RowKit

def fallenL : List OpD := [(⟨1, false, 0, 0, 0, [1, 2, 3]⟩ : OpD), (⟨7, false, 0, 1, 2, []⟩ : OpD), (⟨3, false, 0, 0, 0, []⟩ : OpD), (⟨10, false, 0, 0, 0, []⟩ : OpD), (⟨5, false, 0, 0, 0, []⟩ : OpD), (⟨6, false, 0, 0, 0, []⟩ : OpD), (⟨1, false, 0, 0, 0, [9]⟩ : OpD), (⟨9, false, 0, 0, 0, []⟩ : OpD), (⟨10, false, 0, 0, 0, []⟩ : OpD), (⟨5, false, 0, 0, 0, []⟩ : OpD), (⟨1, false, 0, 0, 0, [4]⟩ : OpD), (⟨4, false, 0, 1, 0, []⟩ : OpD), (⟨3, false, 0, 0, 0, []⟩ : OpD), (⟨6, false, 0, 0, 0, []⟩ : OpD), (⟨5, false, 0, 0, 0, []⟩ : OpD), (⟨9, false, 0, 0, 0, []⟩ : OpD), (⟨11, false, 0, 0, 0, []⟩ : OpD)]
theorem rdBlk (w : World) (G n : Nat) (bs : List Nat) (hn : bs.length = n) (h : Blk G 5 (bs.map bv) w) : RdB w (.slice (some ⟨G, 0, none⟩) n n) bs := by
  subst hn
  refine ⟨_, _, by rw [List.length_map], by rw [List.length_map]; exact Nat.le_refl _, (fun h => by cases h), fun i hi => ⟨G, 0, rfl, h.lt, ?_⟩⟩
  rw [Nat.zero_add]
  exact h.cell i _ (List.getElem?_eq_getElem hi)
set_option maxRecDepth 20000 in
theorem fallen_rd (w : World) : RdO ((((w.alloc (.cells #[.int .u8 1, .int .u8 2, .int .u8 3] 5)).alloc (.cells #[.int .u8 9] 5)).alloc (.cells #[.int .u8 4] 5)).alloc (.cells #[.int .i64 1, .bool false, .int .i64 0, .int .i64 0, .int .i64 0, .slice (some ⟨w.heap.size, 0, none⟩) 3 3, .int .i64 7, .bool false, .int .i64 0, .int .i64 1, .int .i64 2, .slice none 0 0, .int .i64 3, .bool false, .int .i64 0, .int .i64 0, .int .i64 0, .slice none 0 0, .int .i64 10, .bool false, .int .i64 0, .int .i64 0, .int .i64 0, .slice none 0 0, .int .i64 5, .bool false, .int .i64 0, .int .i64 0, .int .i64 0, .slice none 0 0, .int .i64 6, .bool false, .int .i64 0, .int .i64 0, .int .i64 0, .slice none 0 0, .int .i64 1, .bool false, .int .i64 0, .int .i64 0, .int .i64 0, .slice (some ⟨w.heap.size + 1, 0, none⟩) 1 1, .int .i64 9, .bool false, .int .i64 0, .int .i64 0, .int .i64 0, .slice none 0 0, .int .i64 10, .bool false, .int .i64 0, .int .i64 0, .int .i64 0, .slice none 0 0, .int .i64 5, .bool false, .int .i64 0, .int .i64 0, .int .i64 0, .slice none 0 0, .int .i64 1, .bool false, .int .i64 0, .int .i64 0, .int .i64 0, .slice (some ⟨w.heap.size + 1 + 1, 0, none⟩) 1 1, .int .i64 4, .bool false, .int .i64 0, .int .i64 1, .int .i64 0, .slice none 0 0, .int .i64 3, .bool false, .int .i64 0, .int .i64 0, .int .i64 0, .slice none 0 0, .int .i64 6, .bool false, .int .i64 0, .int .i64 0, .int .i64 0, .slice none 0 0, .int .i64 5, .bool false, .int .i64 0, .int .i64 0, .int .i64 0, .slice none 0 0, .int .i64 9, .bool false, .int .i64 0, .int .i64 0, .int .i64 0, .slice none 0 0, .int .i64 11, .bool false, .int .i64 0, .int .i64 0, .int .i64 0, .slice none 0 0] 28)) (.slice (some ⟨w.heap.size + 1 + 1 + 1, 0, none⟩) 17 17) fallenL ∧ Below w.heap.size w ((((w.alloc (.cells #[.int .u8 1, .int .u8 2, .int .u8 3] 5)).alloc (.cells #[.int .u8 9] 5)).alloc (.cells #[.int .u8 4] 5)).alloc (.cells #[.int .i64 1, .bool false, .int .i64 0, .int .i64 0, .int .i64 0, .slice (some ⟨w.heap.size, 0, none⟩) 3 3, .int .i64 7, .bool false, .int .i64 0, .int .i64 1, .int .i64 2, .slice none 0 0, .int .i64 3, .bool false, .int .i64 0, .int .i64 0, .int .i64 0, .slice none 0 0, .int .i64 10, .bool false, .int .i64 0, .int .i64 0, .int .i64 0, .slice none 0 0, .int .i64 5, .bool false, .int .i64 0, .int .i64 0, .int .i64 0, .slice none 0 0, .int .i64 6, .bool false, .int .i64 0, .int .i64 0, .int .i64 0, .slice none 0 0, .int .i64 1, .bool false, .int .i64 0, .int .i64 0, .int .i64 0, .slice (some ⟨w.heap.size + 1, 0, none⟩) 1 1, .int .i64 9, .bool false, .int .i64 0, .int .i64 0, .int .i64 0, .slice none 0 0, .int .i64 10, .bool false, .int .i64 0, .int .i64 0, .int .i64 0, .slice none 0 0, .int .i64 5, .bool false, .int .i64 0, .int .i64 0, .int .i64 0, .slice none 0 0, .int .i64 1, .bool false, .int .i64 0, .int .i64 0, .int .i64 0, .slice (some ⟨w.heap.size + 1 + 1, 0, none⟩) 1 1, .int .i64 4, .bool false, .int .i64 0, .int .i64 1, .int .i64 0, .slice none 0 0, .int .i64 3, .bool false, .int .i64 0, .int .i64 0, .int .i64 0, .slice none 0 0, .int .i64 6, .bool false, .int .i64 0, .int .i64 0, .int .i64 0, .slice none 0 0, .int .i64 5, .bool false, .int .i64 0, .int .i64 0, .int .i64 0, .slice none 0 0, .int .i64 9, .bool false, .int .i64 0, .int .i64 0, .int .i64 0, .slice none 0 0, .int .i64 11, .bool false, .int .i64 0, .int .i64 0, .int .i64 0, .slice none 0 0] 28)) := by
  have b1 := below_alloc w (.cells #[.int .u8 1, .int .u8 2, .int .u8 3] 5)
  have b2 := below_alloc (w.alloc (.cells #[.int .u8 1, .int .u8 2, .int .u8 3] 5)) (.cells #[.int .u8 9] 5)
  have b3 := below_alloc ((w.alloc (.cells #[.int .u8 1, .int .u8 2, .int .u8 3] 5)).alloc (.cells #[.int .u8 9] 5)) (.cells #[.int .u8 4] 5)
  have b4 := below_alloc (((w.alloc (.cells #[.int .u8 1, .int .u8 2, .int .u8 3] 5)).alloc (.cells #[.int .u8 9] 5)).alloc (.cells #[.int .u8 4] 5)) (.cells #[.int .i64 1, .bool false, .int .i64 0, .int .i64 0, .int .i64 0, .slice (some ⟨w.heap.size, 0, none⟩) 3 3, .int .i64 7, .bool false, .int .i64 0, .int .i64 1, .int .i64 2, .slice none 0 0, .int .i64 3, .bool false, .int .i64 0, .int .i64 0, .int .i64 0, .slice none 0 0, .int .i64 10, .bool false, .int .i64 0, .int .i64 0, .int .i64 0, .slice none 0 0, .int .i64 5, .bool false, .int .i64 0, .int .i64 0, .int .i64 0, .slice none 0 0, .int .i64 6, .bool false, .int .i64 0, .int .i64 0, .int .i64 0, .slice none 0 0, .int .i64 1, .bool false, .int .i64 0, .int .i64 0, .int .i64 0, .slice (some ⟨w.heap.size + 1, 0, none⟩) 1 1, .int .i64 9, .bool false, .int .i64 0, .int .i64 0, .int .i64 0, .slice none 0 0, .int .i64 10, .bool false, .int .i64 0, .int .i64 0, .int .i64 0, .slice none 0 0, .int .i64 5, .bool false, .int .i64 0, .int .i64 0, .int .i64 0, .slice none 0 0, .int .i64 1, .bool false, .int .i64 0, .int .i64 0, .int .i64 0, .slice (some ⟨w.heap.size + 1 + 1, 0, none⟩) 1 1, .int .i64 4, .bool false, .int .i64 0, .int .i64 1, .int .i64 0, .slice none 0 0, .int .i64 3, .bool false, .int .i64 0, .int .i64 0, .int .i64 0, .slice none 0 0, .int .i64 6, .bool false, .int .i64 0, .int .i64 0, .int .i64 0, .slice none 0 0, .int .i64 5, .bool false, .int .i64 0, .int .i64 0, .int .i64 0, .slice none 0 0, .int .i64 9, .bool false, .int .i64 0, .int .i64 0, .int .i64 0, .slice none 0 0, .int .i64 11, .bool false, .int .i64 0, .int .i64 0, .int .i64 0, .slice none 0 0] 28)
  have z1 : (w.alloc (.cells #[.int .u8 1, .int .u8 2, .int .u8 3] 5)).heap.size = w.heap.size + 1 := by simp
  have z2 : ((w.alloc (.cells #[.int .u8 1, .int .u8 2, .int .u8 3] 5)).alloc (.cells #[.int .u8 9] 5)).heap.size = w.heap.size + 1 + 1 := by simp
  have z3 : (((w.alloc (.cells #[.int .u8 1, .int .u8 2, .int .u8 3] 5)).alloc (.cells #[.int .u8 9] 5)).alloc (.cells #[.int .u8 4] 5)).heap.size = w.heap.size + 1 + 1 + 1 := by simp
  have h1 : Blk w.heap.size 5 ([1, 2, 3].map bv) (w.alloc (.cells #[.int .u8 1, .int .u8 2, .int .u8 3] 5)) := Blk.new 5 ([1, 2, 3].map bv) w
  have h2 : Blk (w.heap.size + 1) 5 ([9].map bv) ((w.alloc (.cells #[.int .u8 1, .int .u8 2, .int .u8 3] 5)).alloc (.cells #[.int .u8 9] 5)) := by rw [← z1]; exact Blk.new 5 ([9].map bv) (w.alloc (.cells #[.int .u8 1, .int .u8 2, .int .u8 3] 5))
  have h3 : Blk (w.heap.size + 1 + 1) 5 ([4].map bv) (((w.alloc (.cells #[.int .u8 1, .int .u8 2, .int .u8 3] 5)).alloc (.cells #[.int .u8 9] 5)).alloc (.cells #[.int .u8 4] 5)) := by rw [← z2]; exact Blk.new 5 ([4].map bv) ((w.alloc (.cells #[.int .u8 1, .int .u8 2, .int .u8 3] 5)).alloc (.cells #[.int .u8 9] 5))
  have hB : Blk (w.heap.size + 1 + 1 + 1) 28 [.int .i64 1, .bool false, .int .i64 0, .int .i64 0, .int .i64 0, .slice (some ⟨w.heap.size, 0, none⟩) 3 3, .int .i64 7, .bool false, .int .i64 0, .int .i64 1, .int .i64 2, .slice none 0 0, .int .i64 3, .bool false, .int .i64 0, .int .i64 0, .int .i64 0, .slice none 0 0, .int .i64 10, .bool false, .int .i64 0, .int .i64 0, .int .i64 0, .slice none 0 0, .int .i64 5, .bool false, .int .i64 0, .int .i64 0, .int .i64 0, .slice none 0 0, .int .i64 6, .bool false, .int .i64 0, .int .i64 0, .int .i64 0, .slice none 0 0, .int .i64 1, .bool false, .int .i64 0, .int .i64 0, .int .i64 0, .slice (some ⟨w.heap.size + 1, 0, none⟩) 1 1, .int .i64 9, .bool false, .int .i64 0, .int .i64 0, .int .i64 0, .slice none 0 0, .int .i64 10, .bool false, .int .i64 0, .int .i64 0, .int .i64 0, .slice none 0 0, .int .i64 5, .bool false, .int .i64 0, .int .i64 0, .int .i64 0, .slice none 0 0, .int .i64 1, .bool false, .int .i64 0, .int .i64 0, .int .i64 0, .slice (some ⟨w.heap.size + 1 + 1, 0, none⟩) 1 1, .int .i64 4, .bool false, .int .i64 0, .int .i64 1, .int .i64 0, .slice none 0 0, .int .i64 3, .bool false, .int .i64 0, .int .i64 0, .int .i64 0, .slice none 0 0, .int .i64 6, .bool false, .int .i64 0, .int .i64 0, .int .i64 0, .slice none 0 0, .int .i64 5, .bool false, .int .i64 0, .int .i64 0, .int .i64 0, .slice none 0 0, .int .i64 9, .bool false, .int .i64 0, .int .i64 0, .int .i64 0, .slice none 0 0, .int .i64 11, .bool false, .int .i64 0, .int .i64 0, .int .i64 0, .slice none 0 0] ((((w.alloc (.cells #[.int .u8 1, .int .u8 2, .int .u8 3] 5)).alloc (.cells #[.int .u8 9] 5)).alloc (.cells #[.int .u8 4] 5)).alloc (.cells #[.int .i64 1, .bool false, .int .i64 0, .int .i64 0, .int .i64 0, .slice (some ⟨w.heap.size, 0, none⟩) 3 3, .int .i64 7, .bool false, .int .i64 0, .int .i64 1, .int .i64 2, .slice none 0 0, .int .i64 3, .bool false, .int .i64 0, .int .i64 0, .int .i64 0, .slice none 0 0, .int .i64 10, .bool false, .int .i64 0, .int .i64 0, .int .i64 0, .slice none 0 0, .int .i64 5, .bool false, .int .i64 0, .int .i64 0, .int .i64 0, .slice none 0 0, .int .i64 6, .bool false, .int .i64 0, .int .i64 0, .int .i64 0, .slice none 0 0, .int .i64 1, .bool false, .int .i64 0, .int .i64 0, .int .i64 0, .slice (some ⟨w.heap.size + 1, 0, none⟩) 1 1, .int .i64 9, .bool false, .int .i64 0, .int .i64 0, .int .i64 0, .slice none 0 0, .int .i64 10, .bool false, .int .i64 0, .int .i64 0, .int .i64 0, .slice none 0 0, .int .i64 5, .bool false, .int .i64 0, .int .i64 0, .int .i64 0, .slice none 0 0, .int .i64 1, .bool false, .int .i64 0, .int .i64 0, .int .i64 0, .slice (some ⟨w.heap.size + 1 + 1, 0, none⟩) 1 1, .int .i64 4, .bool false, .int .i64 0, .int .i64 1, .int .i64 0, .slice none 0 0, .int .i64 3, .bool false, .int .i64 0, .int .i64 0, .int .i64 0, .slice none 0 0, .int .i64 6, .bool false, .int .i64 0, .int .i64 0, .int .i64 0, .slice none 0 0, .int .i64 5, .bool false, .int .i64 0, .int .i64 0, .int .i64 0, .slice none 0 0, .int .i64 9, .bool false, .int .i64 0, .int .i64 0, .int .i64 0, .slice none 0 0, .int .i64 11, .bool false, .int .i64 0, .int .i64 0, .int .i64 0, .slice none 0 0] 28)) := by rw [← z3]; exact Blk.new 28 [.int .i64 1, .bool false, .int .i64 0, .int .i64 0, .int .i64 0, .slice (some ⟨w.heap.size, 0, none⟩) 3 3, .int .i64 7, .bool false, .int .i64 0, .int .i64 1, .int .i64 2, .slice none 0 0, .int .i64 3, .bool false, .int .i64 0, .int .i64 0, .int .i64 0, .slice none 0 0, .int .i64 10, .bool false, .int .i64 0, .int .i64 0, .int .i64 0, .slice none 0 0, .int .i64 5, .bool false, .int .i64 0, .int .i64 0, .int .i64 0, .slice none 0 0, .int .i64 6, .bool false, .int .i64 0, .int .i64 0, .int .i64 0, .slice none 0 0, .int .i64 1, .bool false, .int .i64 0, .int .i64 0, .int .i64 0, .slice (some ⟨w.heap.size + 1, 0, none⟩) 1 1, .int .i64 9, .bool false, .int .i64 0, .int .i64 0, .int .i64 0, .slice none 0 0, .int .i64 10, .bool false, .int .i64 0, .int .i64 0, .int .i64 0, .slice none 0 0, .int .i64 5, .bool false, .int .i64 0, .int .i64 0, .int .i64 0, .slice none 0 0, .int .i64 1, .bool false, .int .i64 0, .int .i64 0, .int .i64 0, .slice (some ⟨w.heap.size + 1 + 1, 0, none⟩) 1 1, .int .i64 4, .bool false, .int .i64 0, .int .i64 1, .int .i64 0, .slice none 0 0, .int .i64 3, .bool false, .int .i64 0, .int .i64 0, .int .i64 0, .slice none 0 0, .int .i64 6, .bool false, .int .i64 0, .int .i64 0, .int .i64 0, .slice none 0 0, .int .i64 5, .bool false, .int .i64 0, .int .i64 0, .int .i64 0, .slice none 0 0, .int .i64 9, .bool false, .int .i64 0, .int .i64 0, .int .i64 0, .slice none 0 0, .int .i64 11, .bool false, .int .i64 0, .int .i64 0, .int .i64 0, .slice none 0 0] (((w.alloc (.cells #[.int .u8 1, .int .u8 2, .int .u8 3] 5)).alloc (.cells #[.int .u8 9] 5)).alloc (.cells #[.int .u8 4] 5))
  have k1 := ((h1.below b2).below b3).below b4
  have k2 := (h2.below b3).below b4
  have k3 := h3.below b4
  have bb := below_trans (below_trans (below_trans b1 b2) b3) b4
  generalize ((((w.alloc (.cells #[.int .u8 1, .int .u8 2, .int .u8 3] 5)).alloc (.cells #[.int .u8 9] 5)).alloc (.cells #[.int .u8 4] 5)).alloc (.cells #[.int .i64 1, .bool false, .int .i64 0, .int .i64 0, .int .i64 0, .slice (some ⟨w.heap.size, 0, none⟩) 3 3, .int .i64 7, .bool false, .int .i64 0, .int .i64 1, .int .i64 2, .slice none 0 0, .int .i64 3, .bool false, .int .i64 0, .int .i64 0, .int .i64 0, .slice none 0 0, .int .i64 10, .bool false, .int .i64 0, .int .i64 0, .int .i64 0, .slice none 0 0, .int .i64 5, .bool false, .int .i64 0, .int .i64 0, .int .i64 0, .slice none 0 0, .int .i64 6, .bool false, .int .i64 0, .int .i64 0, .int .i64 0, .slice none 0 0, .int .i64 1, .bool false, .int .i64 0, .int .i64 0, .int .i64 0, .slice (some ⟨w.heap.size + 1, 0, none⟩) 1 1, .int .i64 9, .bool false, .int .i64 0, .int .i64 0, .int .i64 0, .slice none 0 0, .int .i64 10, .bool false, .int .i64 0, .int .i64 0, .int .i64 0, .slice none 0 0, .int .i64 5, .bool false, .int .i64 0, .int .i64 0, .int .i64 0, .slice none 0 0, .int .i64 1, .bool false, .int .i64 0, .int .i64 0, .int .i64 0, .slice (some ⟨w.heap.size + 1 + 1, 0, none⟩) 1 1, .int .i64 4, .bool false, .int .i64 0, .int .i64 1, .int .i64 0, .slice none 0 0, .int .i64 3, .bool false, .int .i64 0, .int .i64 0, .int .i64 0, .slice none 0 0, .int .i64 6, .bool false, .int .i64 0, .int .i64 0, .int .i64 0, .slice none 0 0, .int .i64 5, .bool false, .int .i64 0, .int .i64 0, .int .i64 0, .slice none 0 0, .int .i64 9, .bool false, .int .i64 0, .int .i64 0, .int .i64 0, .slice none 0 0, .int .i64 11, .bool false, .int .i64 0, .int .i64 0, .int .i64 0, .slice none 0 0] 28)) = w4 at *
  have r1 := rdBlk w4 w.heap.size 3 [1, 2, 3] rfl k1
  have r2 := rdBlk w4 (w.heap.size + 1) 1 [9] rfl k2
  have r3 := rdBlk w4 (w.heap.size + 1 + 1) 1 [4] rfl k3
  have r0 : RdB w4 (.slice none 0 0) [] := (RowV.nil 5 0 w4).rd
  refine ⟨⟨some ⟨w.heap.size + 1 + 1 + 1, 0, none⟩, 17, rfl, fun i o hi => ?_⟩, bb⟩
  have hl : i < 17 := (List.getElem?_eq_some_iff.1 hi).1
  have hc : i = 0 ∨ i = 1 ∨ i = 2 ∨ i = 3 ∨ i = 4 ∨ i = 5 ∨ i = 6 ∨ i = 7 ∨ i = 8 ∨ i = 9 ∨ i = 10 ∨ i = 11 ∨ i = 12 ∨ i = 13 ∨ i = 14 ∨ i = 15 ∨ i = 16 := by omega
  rcases hc with rfl | rfl | rfl | rfl | rfl | rfl | rfl | rfl | rfl | rfl | rfl | rfl | rfl | rfl | rfl | rfl | rfl
  · obtain rfl : (⟨1, false, 0, 0, 0, [1, 2, 3]⟩ : OpD) = o := by simpa [fallenL] using hi
    exact ⟨w.heap.size + 1 + 1 + 1, 0, (some ⟨w.heap.size, 0, none⟩), 3, rfl, hB.lt, hB.cell 0 _ rfl, hB.cell 1 _ rfl, hB.cell 2 _ rfl, hB.cell 3 _ rfl, hB.cell 4 _ rfl, hB.cell 5 _ rfl, r1⟩
  · obtain rfl : (⟨7, false, 0, 1, 2, []⟩ : OpD) = o := by simpa [fallenL] using hi
    exact ⟨w.heap.size + 1 + 1 + 1, 0, none, 0, rfl, hB.lt, hB.cell 6 _ rfl, hB.cell 7 _ rfl, hB.cell 8 _ rfl, hB.cell 9 _ rfl, hB.cell 10 _ rfl, hB.cell 11 _ rfl, r0⟩
  · obtain rfl : (⟨3, false, 0, 0, 0, []⟩ : OpD) = o := by simpa [fallenL] using hi
    exact ⟨w.heap.size + 1 + 1 + 1, 0, none, 0, rfl, hB.lt, hB.cell 12 _ rfl, hB.cell 13 _ rfl, hB.cell 14 _ rfl, hB.cell 15 _ rfl, hB.cell 16 _ rfl, hB.cell 17 _ rfl, r0⟩
  · obtain rfl : (⟨10, false, 0, 0, 0, []⟩ : OpD) = o := by simpa [fallenL] using hi
    exact ⟨w.heap.size + 1 + 1 + 1, 0, none, 0, rfl, hB.lt, hB.cell 18 _ rfl, hB.cell 19 _ rfl, hB.cell 20 _ rfl, hB.cell 21 _ rfl, hB.cell 22 _ rfl, hB.cell 23 _ rfl, r0⟩
  · obtain rfl : (⟨5, false, 0, 0, 0, []⟩ : OpD) = o := by simpa [fallenL] using hi
    exact ⟨w.heap.size + 1 + 1 + 1, 0, none, 0, rfl, hB.lt, hB.cell 24 _ rfl, hB.cell 25 _ rfl, hB.cell 26 _ rfl, hB.cell 27 _ rfl, hB.cell 28 _ rfl, hB.cell 29 _ rfl, r0⟩
  · obtain rfl : (⟨6, false, 0, 0, 0, []⟩ : OpD) = o := by simpa [fallenL] using hi
    exact ⟨w.heap.size + 1 + 1 + 1, 0, none, 0, rfl, hB.lt, hB.cell 30 _ rfl, hB.cell 31 _ rfl, hB.cell 32 _ rfl, hB.cell 33 _ rfl, hB.cell 34 _ rfl, hB.cell 35 _ rfl, r0⟩
  · obtain rfl : (⟨1, false, 0, 0, 0, [9]⟩ : OpD) = o := by simpa [fallenL] using hi
    exact ⟨w.heap.size + 1 + 1 + 1, 0, (some ⟨w.heap.size + 1, 0, none⟩), 1, rfl, hB.lt, hB.cell 36 _ rfl, hB.cell 37 _ rfl, hB.cell 38 _ rfl, hB.cell 39 _ rfl, hB.cell 40 _ rfl, hB.cell 41 _ rfl, r2⟩
  · obtain rfl : (⟨9, false, 0, 0, 0, []⟩ : OpD) = o := by simpa [fallenL] using hi
    exact ⟨w.heap.size + 1 + 1 + 1, 0, none, 0, rfl, hB.lt, hB.cell 42 _ rfl, hB.cell 43 _ rfl, hB.cell 44 _ rfl, hB.cell 45 _ rfl, hB.cell 46 _ rfl, hB.cell 47 _ rfl, r0⟩
  · obtain rfl : (⟨10, false, 0, 0, 0, []⟩ : OpD) = o := by simpa [fallenL] using hi
    exact ⟨w.heap.size + 1 + 1 + 1, 0, none, 0, rfl, hB.lt, hB.cell 48 _ rfl, hB.cell 49 _ rfl, hB.cell 50 _ rfl, hB.cell 51 _ rfl, hB.cell 52 _ rfl, hB.cell 53 _ rfl, r0⟩
  · obtain rfl : (⟨5, false, 0, 0, 0, []⟩ : OpD) = o := by simpa [fallenL] using hi
    exact ⟨w.heap.size + 1 + 1 + 1, 0, none, 0, rfl, hB.lt, hB.cell 54 _ rfl, hB.cell 55 _ rfl, hB.cell 56 _ rfl, hB.cell 57 _ rfl, hB.cell 58 _ rfl, hB.cell 59 _ rfl, r0⟩
  · obtain rfl : (⟨1, false, 0, 0, 0, [4]⟩ : OpD) = o := by simpa [fallenL] using hi
    exact ⟨w.heap.size + 1 + 1 + 1, 0, (some ⟨w.heap.size + 1 + 1, 0, none⟩), 1, rfl, hB.lt, hB.cell 60 _ rfl, hB.cell 61 _ rfl, hB.cell 62 _ rfl, hB.cell 63 _ rfl, hB.cell 64 _ rfl, hB.cell 65 _ rfl, r3⟩
  · obtain rfl : (⟨4, false, 0, 1, 0, []⟩ : OpD) = o := by simpa [fallenL] using hi
    exact ⟨w.heap.size + 1 + 1 + 1, 0, none, 0, rfl, hB.lt, hB.cell 66 _ rfl, hB.cell 67 _ rfl, hB.cell 68 _ rfl, hB.cell 69 _ rfl, hB.cell 70 _ rfl, hB.cell 71 _ rfl, r0⟩
  · obtain rfl : (⟨3, false, 0, 0, 0, []⟩ : OpD) = o := by simpa [fallenL] using hi
    exact ⟨w.heap.size + 1 + 1 + 1, 0, none, 0, rfl, hB.lt, hB.cell 72 _ rfl, hB.cell 73 _ rfl, hB.cell 74 _ rfl, hB.cell 75 _ rfl, hB.cell 76 _ rfl, hB.cell 77 _ rfl, r0⟩
  · obtain rfl : (⟨6, false, 0, 0, 0, []⟩ : OpD) = o := by simpa [fallenL] using hi
    exact ⟨w.heap.size + 1 + 1 + 1, 0, none, 0, rfl, hB.lt, hB.cell 78 _ rfl, hB.cell 79 _ rfl, hB.cell 80 _ rfl, hB.cell 81 _ rfl, hB.cell 82 _ rfl, hB.cell 83 _ rfl, r0⟩
  · obtain rfl : (⟨5, false, 0, 0, 0, []⟩ : OpD) = o := by simpa [fallenL] using hi
    exact ⟨w.heap.size + 1 + 1 + 1, 0, none, 0, rfl, hB.lt, hB.cell 84 _ rfl, hB.cell 85 _ rfl, hB.cell 86 _ rfl, hB.cell 87 _ rfl, hB.cell 88 _ rfl, hB.cell 89 _ rfl, r0⟩
  · obtain rfl : (⟨9, false, 0, 0, 0, []⟩ : OpD) = o := by simpa [fallenL] using hi
    exact ⟨w.heap.size + 1 + 1 + 1, 0, none, 0, rfl, hB.lt, hB.cell 90 _ rfl, hB.cell 91 _ rfl, hB.cell 92 _ rfl, hB.cell 93 _ rfl, hB.cell 94 _ rfl, hB.cell 95 _ rfl, r0⟩
  · obtain rfl : (⟨11, false, 0, 0, 0, []⟩ : OpD) = o := by simpa [fallenL] using hi
    exact ⟨w.heap.size + 1 + 1 + 1, 0, none, 0, rfl, hB.lt, hB.cell 96 _ rfl, hB.cell 97 _ rfl, hB.cell 98 _ rfl, hB.cell 99 _ rfl, hB.cell 100 _ rfl, hB.cell 101 _ rfl, r0⟩
theorem fallen_ok : ∀ o ∈ fallenL, o.data.length ≤ 1048576 := by
  intro o ho
  simp [fallenL] at ho
  rcases ho with rfl | rfl | rfl | rfl | rfl | rfl | rfl | rfl | rfl | rfl | rfl | rfl | rfl | rfl | rfl | rfl | rfl <;> simp
set_option maxRecDepth 20000 in
set_option maxHeartbeats 2000000 in
theorem fallen_at (w : World) : Calls Try.prog 9 #[] w fun e w' => ∃ v, e = .returned v ∧ RdO w' v fallenL ∧ Below w.heap.size w w' := by
  have F0 : Hid (RdO ((((w.alloc (.cells #[.int .u8 1, .int .u8 2, .int .u8 3] 5)).alloc (.cells #[.int .u8 9] 5)).alloc (.cells #[.int .u8 4] 5)).alloc (.cells #[.int .i64 1, .bool false, .int .i64 0, .int .i64 0, .int .i64 0, .slice (some ⟨w.heap.size, 0, none⟩) 3 3, .int .i64 7, .bool false, .int .i64 0, .int .i64 1, .int .i64 2, .slice none 0 0, .int .i64 3, .bool false, .int .i64 0, .int .i64 0, .int .i64 0, .slice none 0 0, .int .i64 10, .bool false, .int .i64 0, .int .i64 0, .int .i64 0, .slice none 0 0, .int .i64 5, .bool false, .int .i64 0, .int .i64 0, .int .i64 0, .slice none 0 0, .int .i64 6, .bool false, .int .i64 0, .int .i64 0, .int .i64 0, .slice none 0 0, .int .i64 1, .bool false, .int .i64 0, .int .i64 0, .int .i64 0, .slice (some ⟨w.heap.size + 1, 0, none⟩) 1 1, .int .i64 9, .bool false, .int .i64 0, .int .i64 0, .int .i64 0, .slice none 0 0, .int .i64 10, .bool false, .int .i64 0, .int .i64 0, .int .i64 0, .slice none 0 0, .int .i64 5, .bool false, .int .i64 0, .int .i64 0, .int .i64 0, .slice none 0 0, .int .i64 1, .bool false, .int .i64 0, .int .i64 0, .int .i64 0, .slice (some ⟨w.heap.size + 1 + 1, 0, none⟩) 1 1, .int .i64 4, .bool false, .int .i64 0, .int .i64 1, .int .i64 0, .slice none 0 0, .int .i64 3, .bool false, .int .i64 0, .int .i64 0, .int .i64 0, .slice none 0 0, .int .i64 6, .bool false, .int .i64 0, .int .i64 0, .int .i64 0, .slice none 0 0, .int .i64 5, .bool false, .int .i64 0, .int .i64 0, .int .i64 0, .slice none 0 0, .int .i64 9, .bool false, .int .i64 0, .int .i64 0, .int .i64 0, .slice none 0 0, .int .i64 11, .bool false, .int .i64 0, .int .i64 0, .int .i64 0, .slice none 0 0] 28)) (.slice (some ⟨w.heap.size + 1 + 1 + 1, 0, none⟩) 17 17) fallenL ∧ Below w.heap.size w ((((w.alloc (.cells #[.int .u8 1, .int .u8 2, .int .u8 3] 5)).alloc (.cells #[.int .u8 9] 5)).alloc (.cells #[.int .u8 4] 5)).alloc (.cells #[.int .i64 1, .bool false, .int .i64 0, .int .i64 0, .int .i64 0, .slice (some ⟨w.heap.size, 0, none⟩) 3 3, .int .i64 7, .bool false, .int .i64 0, .int .i64 1, .int .i64 2, .slice none 0 0, .int .i64 3, .bool false, .int .i64 0, .int .i64 0, .int .i64 0, .slice none 0 0, .int .i64 10, .bool false, .int .i64 0, .int .i64 0, .int .i64 0, .slice none 0 0, .int .i64 5, .bool false, .int .i64 0, .int .i64 0, .int .i64 0, .slice none 0 0, .int .i64 6, .bool false, .int .i64 0, .int .i64 0, .int .i64 0, .slice none 0 0, .int .i64 1, .bool false, .int .i64 0, .int .i64 0, .int .i64 0, .slice (some ⟨w.heap.size + 1, 0, none⟩) 1 1, .int .i64 9, .bool false, .int .i64 0, .int .i64 0, .int .i64 0, .slice none 0 0, .int .i64 10, .bool false, .int .i64 0, .int .i64 0, .int .i64 0, .slice none 0 0, .int .i64 5, .bool false, .int .i64 0, .int .i64 0, .int .i64 0, .slice none 0 0, .int .i64 1, .bool false, .int .i64 0, .int .i64 0, .int .i64 0, .slice (some ⟨w.heap.size + 1 + 1, 0, none⟩) 1 1, .int .i64 4, .bool false, .int .i64 0, .int .i64 1, .int .i64 0, .slice none 0 0, .int .i64 3, .bool false, .int .i64 0, .int .i64 0, .int .i64 0, .slice none 0 0, .int .i64 6, .bool false, .int .i64 0, .int .i64 0, .int .i64 0, .slice none 0 0, .int .i64 5, .bool false, .int .i64 0, .int .i64 0, .int .i64 0, .slice none 0 0, .int .i64 9, .bool false, .int .i64 0, .int .i64 0, .int .i64 0, .slice none 0 0, .int .i64 11, .bool false, .int .i64 0, .int .i64 0, .int .i64 0, .slice none 0 0] 28))) := fallen_rd w
  go_enter Try.func9, Try.ntmps9
  go_wp2_with fail
  go_ret
  exact ⟨_, rfl, F0.out⟩

set_option maxRecDepth 20000 in
set_option maxHeartbeats 2000000 in
theorem appends_any (fs ss : List Nat) (os : List OpD) (vf vs vo : Value) (w : World) (hf : fs.length ≤ 1048576) (hs : ss.length ≤ 1048576) (hl : ∀ o ∈ os, o.data.length ≤ 1048576) (hn : os.length ≤ 1048576) (h1 : RdB w vf fs) (h2 : RdB w vs ss) (h3 : ∀ w', Below w.heap.size w w' → RdO w' vo os) :
    Calls Try.prog 3 #[vf, vs, vo] w fun e w' => e = .returned (.bool true) ∧ Below w.heap.size w w' := by
  have FA : Hid (∀ w', Calls Try.prog 9 #[] w' fun e w2 => ∃ v, e = .returned v ∧ RdO w2 v fallenL ∧ Below w'.heap.size w' w2) := fun w' => fallen_at w'
  have UF : Hid (∀ w' v, RdO w' v fallenL → Calls Try.prog 8 #[.slice none 0 0, .slice none 0 0, v, .int .i64 1, .int .i64 2] w' fun e w2 => e = .returned (.bool true) ∧ Below w'.heap.size w' w2) := fun w' v h => upTo_at [] [] fallenL _ _ v 1 2 w' (by simp) (by simp) fallen_ok (by show 17 ≤ _; omega) (RowV.nil 5 0 _).rd (RowV.nil 5 0 _).rd h
  have UG : Hid (∀ w', Below w.heap.size w w' → Calls Try.prog 8 #[vf, vs, vo, .int .i64 1, .int .i64 2] w' fun e w2 => e = .returned (.bool true) ∧ Below w'.heap.size w' w2) := fun w' b => upTo_at fs ss os vf vs vo 1 2 w' hf hs hl (by omega) (Rd.later h1 b) (Rd.later h2 b) (h3 w' b)
  clear hf hs hl hn h1 h2 h3
  go_enter Try.func3, Try.ntmps3
  go_wp2_with fail
  refine (FA.out _).mono ?_
  rintro e w1 ⟨v, rfl, r1, b1⟩
  have S1 : Hid (RdO w1 v fallenL ∧ Below w.heap.size w w1) := ⟨r1, b1⟩
  clear r1 b1 FA
  go_wp2_with fail
  refine (UF.out _ _ S1.out.1).mono ?_
  rintro e w2 ⟨rfl, b2⟩
  have S2 : Hid (Below w.heap.size w w2) := below_trans S1.out.2 b2
  clear b2 S1 UF
  go_wp2_with fail
  refine (UG.out _ S2.out).mono ?_
  rintro e w3 ⟨rfl, b3⟩
  have S3 : Hid (Below w.heap.size w w3) := below_trans S2.out b3
  clear b3 S2 UG
  go_wp2_with fail
  go_ret
  exact ⟨rfl, S3.out⟩

set_option maxRecDepth 20000 in
set_option maxHeartbeats 2000000 in
theorem truncates_any (fs ss : List Nat) (os : List OpD) (vf vs vo : Value) (w : World) (hf : fs.length ≤ 1048576) (hs : ss.length ≤ 1048576) (hl : ∀ o ∈ os, o.data.length ≤ 1048576) (hn : os.length ≤ 1048576) (h1 : RdB w vf fs) (h2 : RdB w vs ss) (h3 : ∀ w', Below w.heap.size w w' → RdO w' vo os) :
    Calls Try.prog 4 #[vf, vs, vo] w fun e w' => e = .returned (.bool true) ∧ Below w.heap.size w w' := by
  have FA : Hid (∀ w', Calls Try.prog 9 #[] w' fun e w2 => ∃ v, e = .returned v ∧ RdO w2 v fallenL ∧ Below w'.heap.size w' w2) := fun w' => fallen_at w'
  have UF : Hid (∀ w' v, RdO w' v fallenL → Calls Try.prog 8 #[.slice none 0 0, .slice none 0 0, v, .int .i64 4, .int .i64 4] w' fun e w2 => e = .returned (.bool true) ∧ Below w'.heap.size w' w2) := fun w' v h => upTo_at [] [] fallenL _ _ v 4 4 w' (by simp) (by simp) fallen_ok (by show 17 ≤ _; omega) (RowV.nil 5 0 _).rd (RowV.nil 5 0 _).rd h
  have UG : Hid (∀ w', Below w.heap.size w w' → Calls Try.prog 8 #[vf, vs, vo, .int .i64 4, .int .i64 4] w' fun e w2 => e = .returned (.bool true) ∧ Below w'.heap.size w' w2) := fun w' b => upTo_at fs ss os vf vs vo 4 4 w' hf hs hl (by omega) (Rd.later h1 b) (Rd.later h2 b) (h3 w' b)
  clear hf hs hl hn h1 h2 h3
  go_enter Try.func4, Try.ntmps4
  go_wp2_with fail
  refine (FA.out _).mono ?_
  rintro e w1 ⟨v, rfl, r1, b1⟩
  have S1 : Hid (RdO w1 v fallenL ∧ Below w.heap.size w w1) := ⟨r1, b1⟩
  clear r1 b1 FA
  go_wp2_with fail
  refine (UF.out _ _ S1.out.1).mono ?_
  rintro e w2 ⟨rfl, b2⟩
  have S2 : Hid (Below w.heap.size w w2) := below_trans S1.out.2 b2
  clear b2 S1 UF
  go_wp2_with fail
  refine (UG.out _ S2.out).mono ?_
  rintro e w3 ⟨rfl, b3⟩
  have S3 : Hid (Below w.heap.size w w3) := below_trans S2.out b3
  clear b3 S2 UG
  go_wp2_with fail
  go_ret
  exact ⟨rfl, S3.out⟩

set_option maxRecDepth 20000 in
set_option maxHeartbeats 2000000 in
theorem reads_any (fs ss : List Nat) (os : List OpD) (vf vs vo : Value) (w : World) (hf : fs.length ≤ 1048576) (hs : ss.length ≤ 1048576) (hl : ∀ o ∈ os, o.data.length ≤ 1048576) (hn : os.length ≤ 1048576) (h1 : RdB w vf fs) (h2 : RdB w vs ss) (h3 : ∀ w', Below w.heap.size w w' → RdO w' vo os) :
    Calls Try.prog 5 #[vf, vs, vo] w fun e w' => e = .returned (.bool true) ∧ Below w.heap.size w w' := by
  have FA : Hid (∀ w', Calls Try.prog 9 #[] w' fun e w2 => ∃ v, e = .returned v ∧ RdO w2 v fallenL ∧ Below w'.heap.size w' w2) := fun w' => fallen_at w'
  have UF : Hid (∀ w' v, RdO w' v fallenL → Calls Try.prog 8 #[.slice none 0 0, .slice none 0 0, v, .int .i64 5, .int .i64 5] w' fun e w2 => e = .returned (.bool true) ∧ Below w'.heap.size w' w2) := fun w' v h => upTo_at [] [] fallenL _ _ v 5 5 w' (by simp) (by simp) fallen_ok (by show 17 ≤ _; omega) (RowV.nil 5 0 _).rd (RowV.nil 5 0 _).rd h
  have UG : Hid (∀ w', Below w.heap.size w w' → Calls Try.prog 8 #[vf, vs, vo, .int .i64 5, .int .i64 5] w' fun e w2 => e = .returned (.bool true) ∧ Below w'.heap.size w' w2) := fun w' b => upTo_at fs ss os vf vs vo 5 5 w' hf hs hl (by omega) (Rd.later h1 b) (Rd.later h2 b) (h3 w' b)
  clear hf hs hl hn h1 h2 h3
  go_enter Try.func5, Try.ntmps5
  go_wp2_with fail
  refine (FA.out _).mono ?_
  rintro e w1 ⟨v, rfl, r1, b1⟩
  have S1 : Hid (RdO w1 v fallenL ∧ Below w.heap.size w w1) := ⟨r1, b1⟩
  clear r1 b1 FA
  go_wp2_with fail
  refine (UF.out _ _ S1.out.1).mono ?_
  rintro e w2 ⟨rfl, b2⟩
  have S2 : Hid (Below w.heap.size w w2) := below_trans S1.out.2 b2
  clear b2 S1 UF
  go_wp2_with fail
  refine (UG.out _ S2.out).mono ?_
  rintro e w3 ⟨rfl, b3⟩
  have S3 : Hid (Below w.heap.size w w3) := below_trans S2.out b3
  clear b3 S2 UG
  go_wp2_with fail
  go_ret
  exact ⟨rfl, S3.out⟩

set_option maxRecDepth 20000 in
set_option maxHeartbeats 2000000 in
theorem durables_any (fs ss : List Nat) (os : List OpD) (vf vs vo : Value) (w : World) (hf : fs.length ≤ 1048576) (hs : ss.length ≤ 1048576) (hl : ∀ o ∈ os, o.data.length ≤ 1048576) (hn : os.length ≤ 1048576) (h1 : RdB w vf fs) (h2 : RdB w vs ss) (h3 : ∀ w', Below w.heap.size w w' → RdO w' vo os) :
    Calls Try.prog 6 #[vf, vs, vo] w fun e w' => e = .returned (.bool true) ∧ Below w.heap.size w w' := by
  have FA : Hid (∀ w', Calls Try.prog 9 #[] w' fun e w2 => ∃ v, e = .returned v ∧ RdO w2 v fallenL ∧ Below w'.heap.size w' w2) := fun w' => fallen_at w'
  have UF : Hid (∀ w' v, RdO w' v fallenL → Calls Try.prog 8 #[.slice none 0 0, .slice none 0 0, v, .int .i64 6, .int .i64 6] w' fun e w2 => e = .returned (.bool true) ∧ Below w'.heap.size w' w2) := fun w' v h => upTo_at [] [] fallenL _ _ v 6 6 w' (by simp) (by simp) fallen_ok (by show 17 ≤ _; omega) (RowV.nil 5 0 _).rd (RowV.nil 5 0 _).rd h
  have UG : Hid (∀ w', Below w.heap.size w w' → Calls Try.prog 8 #[vf, vs, vo, .int .i64 6, .int .i64 6] w' fun e w2 => e = .returned (.bool true) ∧ Below w'.heap.size w' w2) := fun w' b => upTo_at fs ss os vf vs vo 6 6 w' hf hs hl (by omega) (Rd.later h1 b) (Rd.later h2 b) (h3 w' b)
  clear hf hs hl hn h1 h2 h3
  go_enter Try.func6, Try.ntmps6
  go_wp2_with fail
  refine (FA.out _).mono ?_
  rintro e w1 ⟨v, rfl, r1, b1⟩
  have S1 : Hid (RdO w1 v fallenL ∧ Below w.heap.size w w1) := ⟨r1, b1⟩
  clear r1 b1 FA
  go_wp2_with fail
  refine (UF.out _ _ S1.out.1).mono ?_
  rintro e w2 ⟨rfl, b2⟩
  have S2 : Hid (Below w.heap.size w w2) := below_trans S1.out.2 b2
  clear b2 S1 UF
  go_wp2_with fail
  refine (UG.out _ S2.out).mono ?_
  rintro e w3 ⟨rfl, b3⟩
  have S3 : Hid (Below w.heap.size w w3) := below_trans S2.out b3
  clear b3 S2 UG
  go_wp2_with fail
  go_ret
  exact ⟨rfl, S3.out⟩
theorem RdO.later {w w' : World} {v : Value} {os : List OpD} (h : RdO w v os) (hb : Below w.heap.size w w') : RdO w' v os := by
  obtain ⟨ao, cap, e, H⟩ := h
  refine ⟨ao, cap, e, fun i o hi => ?_⟩
  obtain ⟨g, off, x, c, e1, lt, c0, c1, c2, c3, c4, c5, r⟩ := H i o hi
  have cc : ∀ j, w'.cell? ⟨g, j, none⟩ = w.cell? ⟨g, j, none⟩ := fun j => hb.cell (p := ⟨g, j, none⟩) lt
  exact ⟨g, off, x, c, e1, Nat.lt_of_lt_of_le lt hb.size, (cc _).trans c0, (cc _).trans c1, (cc _).trans c2, (cc _).trans c3, (cc _).trans c4, (cc _).trans c5, Rd.later r hb⟩
end Go.Proofs.Ytiefnomldfhhnaa
