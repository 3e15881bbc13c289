/-
  Ours: what LedgerAddsUp says of sums (pure).
-/
import Derived.Test.YtmennknknecgjaaDoorLedTot
namespace Go.Proofs.YtmennknknecgjaaDoor
open Go.RowKit LedM

namespace LedM
theorem sumB_app (a b : List (List Int)) : sumB (a ++ b) = addL (sumB a) (sumB b) := ext12 (sumB_len _) (addL_len _ _) fun j hj => by
  rw [sumB_at _ j hj, addL_at _ _ j hj, sumB_at _ j hj, sumB_at _ j hj, List.map_append, total_append]
theorem sumB_two (a b : List Int) : sumB [a, b] = addL a b := ext12 (sumB_len _) (addL_len _ _) fun j hj => by
  rw [sumB_at _ j hj, addL_at _ _ j hj]; simp [total]
theorem sumB_one (a : List Int) (ha : a.length = 12) : sumB [a] = a := ext12 (sumB_len _) ha fun j hj => by
  rw [sumB_at _ j hj]; simp [total]
theorem fits_ok {b : List Int} (h : BkOk b) : fitsL b = true := fitsL_true fun j _ => decide_eq_true (h.2 j)
theorem bookL_fits {S : List Int} (h : fitsL S = true) : bookL S = S := by unfold bookL; rw [if_pos h]
theorem bookL_len {S : List Int} (h : S.length = 12) : (bookL S).length = 12 := by
  unfold bookL
  split
  · exact h
  · rfl
theorem bookL_ok {S : List Int} (h : S.length = 12) : BkOk (bookL S) := by
  unfold bookL
  split
  · rename_i hf
    refine ⟨h, fun j => ?_⟩
    by_cases hj : j < 12
    · have := List.all_eq_true.1 hf j (List.mem_range.2 hj)
      exact (by simpa [smOk, i64] using this : i64 (S.getD j 0))
    · rw [List.getD_eq_getElem?_getD, List.getElem?_eq_none (by omega)]; exact ⟨by decide, by decide⟩
  · refine ⟨rfl, fun j => ?_⟩
    have : zeroL.getD j 0 = 0 := by
      by_cases hj : j < 12
      · rw [List.getD_eq_getElem?_getD]
        have : j = 0 ∨ j = 1 ∨ j = 2 ∨ j = 3 ∨ j = 4 ∨ j = 5 ∨ j = 6 ∨ j = 7 ∨ j = 8 ∨ j = 9 ∨ j = 10 ∨ j = 11 := by omega
        rcases this with e | e | e | e | e | e | e | e | e | e | e | e <;> subst e <;> rfl
      · rw [List.getD_eq_getElem?_getD, List.getElem?_eq_none (by simp [zeroL]; omega)]; rfl
    rw [this]; exact ⟨by decide, by decide⟩
/-- The Total of two parts' Totals is the Total. -/
theorem total_split (bs : List (List Int)) (k : Nat) (hl : fitsL (sumB (bs.take k)) = true) (hr : fitsL (sumB (bs.drop k)) = true) : sumB [bookL (sumB (bs.take k)), bookL (sumB (bs.drop k))] = sumB bs := by
  rw [bookL_fits hl, bookL_fits hr, sumB_two, ← sumB_app, List.take_append_drop]
/-- The sum over a book's accounts. -/
def net (b : List Int) (k : Nat) : Int := total ((List.range k).map fun j => b.getD j 0)
theorem net_zero (b : List Int) : net b 0 = 0 := rfl
theorem net_succ (b : List Int) (k : Nat) : net b (k + 1) = net b k + b.getD k 0 := by unfold net; rw [List.range_succ, List.map_append, total_append]; simp [total]
theorem net_addL (a b : List Int) : ∀ k, k ≤ 12 → net (addL a b) k = net a k + net b k
  | 0, _ => by simp [net_zero]
  | k + 1, h => by rw [net_succ, net_succ, net_succ, net_addL a b k (by omega), addL_at _ _ k (by omega)]; omega
theorem net_sum : ∀ bs : List (List Int), (∀ b ∈ bs, net b 12 = 0) → net (sumB bs) 12 = 0
  | [], _ => by rw [sumB_nil]; decide +kernel
  | b :: r, h => by
    have e : sumB (b :: r) = addL (sumB [b]) (sumB r) := sumB_app [b] r
    have e1 : ∀ k, k ≤ 12 → net (sumB [b]) k = net b k := by
      intro k
      induction k with
      | zero => intro _; rfl
      | succ k ih => intro hk; rw [net_succ, net_succ, ih (by omega), sumB_at _ k (by omega)]; simp [total]
    rw [e, net_addL _ _ 12 (Nat.le_refl _), e1 12 (Nat.le_refl _), h b (by simp), net_sum r (fun c hc => h c (by simp [hc]))]; rfl
end LedM
end Go.Proofs.YtmennknknecgjaaDoor
