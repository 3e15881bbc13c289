/-
  Ours: Reverse; two lists of entries alike.
-/
import Derived.Test.YtplebplpachgiaaLedCat
import Derived.Deep.QuietTactic
import Derived.BigQuiet
namespace Go.Proofs.Ytplebplpachgiaa
open Go.RowKit LedM

namespace LedM
def swapE (e : Ent) : Ent := ⟨e.c, e.d, e.a⟩
def revE (es : List Ent) : List Ent := (es.map swapE).reverse
theorem revE_len (es : List Ent) : (revE es).length = es.length := by simp [revE]
theorem revE_revE (es : List Ent) : revE (revE es) = es := by
  unfold revE
  rw [List.map_reverse, List.reverse_reverse, List.map_map]
  have : swapE ∘ swapE = id := by funext e; rfl
  rw [this, List.map_id]
theorem revE_take {es : List Ent} {k : Nat} (h : k < es.length) : revE (es.take (k + 1)) = swapE (eN es k) :: revE (es.take k) := by
  unfold revE
  rw [take_eN h]; simp
theorem enL_set : ∀ (es : List Ent) (k : Nat) (x : Ent), k < es.length → (enL es).take (k * 3) ++ entL x ++ (enL es).drop (k * 3 + 3) = enL (es.set k x)
  | e :: r, 0, x, _ => by simp [enL, entL]
  | e :: r, k + 1, x, h => by
    have := enL_set r k x (by simpa using h)
    rw [show (k + 1) * 3 = k * 3 + 1 + 1 + 1 from by omega]
    simpa [enL, entL] using this
abbrev zE : Ent := ⟨0, 0, 0⟩
theorem zeros_enL (n : Nat) : (madeCells (Value.agg #[.int .i64 0, .int .i64 0, .int .i64 0]).cells (n * 3)).toList = enL (List.replicate n zE) := by
  apply List.ext_getElem?
  intro i
  by_cases hi : i < n * 3
  · have e1 : (enL (List.replicate n zE))[i]? = some (.int .i64 0) := by
      have := enL_at (List.replicate n zE) (i / 3) (i % 3) (by simp; omega) (by omega)
      rw [show i / 3 * 3 + i % 3 = i from by omega] at this
      rw [this, show eN (List.replicate n zE) (i / 3) = zE from by
        simp only [eN, List.getD_eq_getElem?_getD, List.getElem?_replicate]; split <;> rfl]
      have : i % 3 = 0 ∨ i % 3 = 1 ∨ i % 3 = 2 := by omega
      rcases this with e | e | e <;> rw [e] <;> rfl
    rw [e1]
    have : i % 3 = 0 ∨ i % 3 = 1 ∨ i % 3 = 2 := by omega
    simp [madeCells, Value.cells, hi]
    rcases this with e | e | e <;> simp [e]
  · rw [List.getElem?_eq_none (by simp [madeCells]; omega), List.getElem?_eq_none (by rw [enL_len]; simp; omega)]
theorem set_zero (m : Nat) (x : Ent) (R : List Ent) : (List.replicate (m + 1) zE ++ R).set m x = List.replicate m zE ++ x :: R := by
  rw [List.set_append_left m x (by simp)]
  rw [List.replicate_succ']
  rw [List.set_append_right m x (by simp)]
  simp
end LedM

theorem RowE.blk {base g n : Nat} {w : World} {es : List Ent} (h : w.ownsRow base 35 3 (.slice (some ⟨g, 0, none⟩) n n) n (enL es)) : Blk g 35 (enL es) w := by
  have hlen := h.1
  rcases h.2 with ⟨hv, _⟩ | ⟨g', cap, cur, hv, hb, hg, hn, hm, hcs, htk⟩
  · cases hv
  · injection hv with e1 e2 e3
    injection e1 with e1
    injection e1 with e1 _ _
    subst e1 e3
    unfold Blk
    rw [hg]
    have : cur.toList = enL es := by rw [← htk, List.take_of_length_le (by rw [Array.length_toList]; omega)]
    rw [← this]
theorem RowE.of_blk {base g : Nat} {w : World} {es : List Ent} (h : Blk g 35 (enL es) w) (hb : base ≤ g) (hl : es.length ≤ maxLen) : RowE base w (.slice (some ⟨g, 0, none⟩) es.length es.length) es :=
  ⟨enL_len es, .inr ⟨g, es.length, (enL es).toArray, rfl, hb, h, Nat.le_refl _, hl, by simp [enL_len], by simp; exact List.take_of_length_le (by rw [enL_len]; exact Nat.le_refl _)⟩⟩

end Go.Proofs.Ytplebplpachgiaa
