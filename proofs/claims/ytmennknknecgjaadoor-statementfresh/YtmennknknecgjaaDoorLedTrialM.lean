/-
  Ours: the two sums of a trial balance: pure.
-/
import Derived.Test.YtmennknknecgjaaDoorLedOwn
import Derived.Test.YtmennknknecgjaaDoorSum
namespace Go.Proofs.YtmennknknecgjaaDoor
open Go.RowKit

namespace LedM
def ups (l : List Int) : List Int := l.filter fun x => decide (0 < x)
def dns (l : List Int) : List Int := l.filter fun x => !decide (0 < x)
def trD (l : List Int) : Int := total (ups l)
def trC (l : List Int) : Int := -total (dns l)
def trOk (l : List Int) : Bool := smOk (trD l) && smOk (trC l)
def trV (l : List Int) : Value := .tuple #[.int .i64 (if trOk l then trD l else 0), .int .i64 (if trOk l then trC l else 0), .bool (trOk l)]
theorem take_succ (l : List Int) (k : Nat) (h : k < l.length) : l.take (k + 1) = l.take k ++ [l.getD k 0] := by
  rw [List.take_add_one, List.getElem?_eq_getElem h]; simp [List.getD_eq_getElem?_getD, List.getElem?_eq_getElem h]
theorem ups_yes {l : List Int} {k : Nat} (h : k < l.length) (hx : 0 < l.getD k 0) : ups (l.take (k + 1)) = ups (l.take k) ++ [l.getD k 0] ∧ dns (l.take (k + 1)) = dns (l.take k) := by
  rw [take_succ l k h]
  generalize l.getD k 0 = x at *
  simp [ups, dns, hx]
theorem ups_no {l : List Int} {k : Nat} (h : k < l.length) (hx : ¬ 0 < l.getD k 0) : ups (l.take (k + 1)) = ups (l.take k) ∧ dns (l.take (k + 1)) = dns (l.take k) ++ [l.getD k 0] := by
  rw [take_succ l k h]
  generalize l.getD k 0 = x at *
  simp [ups, dns, hx]
theorem total_nonneg : ∀ {l : List Int}, (∀ x ∈ l, 0 ≤ x) → 0 ≤ total l
  | [], _ => by simp [total]
  | x :: r, h => by
    have := total_nonneg (l := r) (fun y hy => h y (by simp [hy]))
    have := h x (by simp)
    simp only [total]; omega
theorem total_nonpos : ∀ {l : List Int}, (∀ x ∈ l, x ≤ 0) → total l ≤ 0
  | [], _ => by simp [total]
  | x :: r, h => by
    have := total_nonpos (l := r) (fun y hy => h y (by simp [hy]))
    have := h x (by simp)
    simp only [total]; omega
theorem trD_pos (l : List Int) : 0 ≤ trD l := total_nonneg fun x hx => by
  have := (List.mem_filter.1 hx).2
  simp at this; omega
theorem trC_pos (l : List Int) : 0 ≤ trC l := by
  have := total_nonpos (l := dns l) fun x hx => by
    have := (List.mem_filter.1 hx).2
    simp at this; omega
  unfold trC; omega
theorem getD_mem {l : List Int} (k : Nat) (hk : k < l.length) : l.getD k 0 ∈ l := by
  rw [List.getD_eq_getElem?_getD, List.getElem?_eq_getElem hk]; exact List.getElem_mem hk
theorem i64_all {l : List Int} (h : ∀ k, i64 (l.getD k 0)) : ∀ x ∈ l, i64 x := fun x hx => by
  obtain ⟨k, hk, e⟩ := List.getElem_of_mem hx
  have := h k
  rw [List.getD_eq_getElem?_getD, List.getElem?_eq_getElem hk, Option.getD_some, e] at this
  exact this
theorem i64_filter {l : List Int} (p : Int → Bool) (h : ∀ k, i64 (l.getD k 0)) : I64 (l.filter p) := fun k => by
  by_cases hk : k < (l.filter p).length
  · exact i64_all h _ (List.mem_filter.1 (getD_mem k hk)).1
  · rw [List.getD_eq_getElem?_getD, List.getElem?_eq_none (by omega)]; exact ⟨by simp, by simp⟩
theorem total_le {l : List Int} (h : I64 l) : -(9223372036854775808 * (l.length : Int)) ≤ total l ∧ total l ≤ 9223372036854775808 * (l.length : Int) := by
  have := total_bound h l.length (Nat.le_refl _)
  rwa [List.take_length] at this
end LedM
end Go.Proofs.YtmennknknecgjaaDoor
