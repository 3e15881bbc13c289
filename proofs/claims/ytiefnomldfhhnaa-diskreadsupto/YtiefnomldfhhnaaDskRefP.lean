/-
  Ours: the reference's disk against the program's, as data.
-/
import Derived.Test.YtiefnomldfhhnaaDskSurP
namespace Go.Proofs.Ytiefnomldfhhnaa

/-- The crashes that wait, as the reference holds them: all as they were armed, and how many writes the first has counted. -/
def cnt (ar : List (Int × Int)) (cn : Int) (q : List (Int × Int)) : Prop := match ar with
  | [] => q = [] ∧ cn = 0
  | c :: r => q = (c.1 - cn, c.2) :: r ∧ 0 ≤ cn ∧ cn < c.1 ∧ c.1 ≤ 1000000
theorem cnt_len {ar : List (Int × Int)} {cn : Int} {q : List (Int × Int)} (h : cnt ar cn q) : ar.length = q.length := by
  cases ar with
  | nil => rw [h.1]
  | cons c r => rw [h.1]; rfl
theorem cnt_nil {cn : Int} {q : List (Int × Int)} (h : cnt [] cn q) : q = [] := h.1
theorem cnt_arm {ar : List (Int × Int)} {cn : Int} {q : List (Int × Int)} (h : cnt ar cn q) (a k : Int) (ha : 1 ≤ a ∧ a ≤ 1000000) : cnt (ar ++ [(a, k)]) cn (q ++ [(a, k)]) := by
  cases ar with
  | nil => obtain ⟨rfl, rfl⟩ := h; exact ⟨by simp, by omega, by show 0 < a; omega, ha.2⟩
  | cons c r => obtain ⟨rfl, h1, h2, h3⟩ := h; exact ⟨by simp, h1, h2, h3⟩
theorem cnt_tail {r : List (Int × Int)} (h : ∀ x ∈ r, 1 ≤ x.1 ∧ x.1 ≤ 1000000) : cnt r 0 r := by
  cases r with
  | nil => exact ⟨rfl, rfl⟩
  | cons d r => exact ⟨by simp, by omega, by have := h d (by simp); omega, (h d (by simp)).2⟩
theorem take_left (b : List Nat) (d k : Nat) : b.take d ++ (b.drop d).take k = b.take (left b d k) := by
  unfold left
  rw [List.take_add]
  congr 1
  rw [List.take_eq_take_min, List.length_drop]
end Go.Proofs.Ytiefnomldfhhnaa
