/-
  Ours: what a wrong digit, and an exchange of neighbours, does to the weighed sum (pure).
-/
import Derived.Test.YtkikpdgpggbakaaDoorLbCd
import Derived.Test.YtkikpdgpggbakaaDoorLbOwn
namespace Go.Proofs.YtkikpdgpggbakaaDoor
open LbM
namespace LbM
def dg6 (N : Nat) : List Nat := [48 + N / 100000 % 10, 48 + N / 10000 % 10, 48 + N / 1000 % 10, 48 + N / 100 % 10, 48 + N / 10 % 10, 48 + N % 10]
/-- A loan's number and its check digit. -/
def dg7 (N : Nat) : List Nat := dg6 N ++ [48 + cd6 N]
def pl : Nat → Nat
  | 0 => 100000
  | 1 => 10000
  | 2 => 1000
  | 3 => 100
  | 4 => 10
  | 5 => 1
  | _ => 0
theorem cd6_le (N : Nat) : cd6 N ≤ 9 := by unfold cd6; omega
theorem dg7_len (N : Nat) : (dg7 N).length = 7 := rfl
theorem dg7_at (N i : Nat) (h : i < 7) : 48 ≤ (dg7 N).getD i 0 ∧ (dg7 N).getD i 0 ≤ 57 := by
  have := cd6_le N
  match i, h with
  | 0, _ => show 48 ≤ 48 + N / 100000 % 10 ∧ 48 + N / 100000 % 10 ≤ 57; omega
  | 1, _ => show 48 ≤ 48 + N / 10000 % 10 ∧ 48 + N / 10000 % 10 ≤ 57; omega
  | 2, _ => show 48 ≤ 48 + N / 1000 % 10 ∧ 48 + N / 1000 % 10 ≤ 57; omega
  | 3, _ => show 48 ≤ 48 + N / 100 % 10 ∧ 48 + N / 100 % 10 ≤ 57; omega
  | 4, _ => show 48 ≤ 48 + N / 10 % 10 ∧ 48 + N / 10 % 10 ≤ 57; omega
  | 5, _ => show 48 ≤ 48 + N % 10 ∧ 48 + N % 10 ≤ 57; omega
  | 6, _ => show 48 ≤ 48 + cd6 N ∧ 48 + cd6 N ≤ 57; omega
theorem dg7_sum (N : Nat) : (N / 100000 % 10 + dbl (N / 10000 % 10) + N / 1000 % 10 + dbl (N / 100 % 10) + N / 10 % 10 + dbl (N % 10) + cd6 N) % 10 = 0 := by
  unfold cd6 w6
  omega
theorem luhn_ok (N : Nat) : vld (tx (dg7 N)) = true := by
  have e : tx (dg7 N) = tx7 [N / 100000 % 10, N / 10000 % 10, N / 1000 % 10, N / 100 % 10, N / 10 % 10, N % 10, cd6 N] := rfl
  rw [e, vld7 _ _ _ _ _ _ _ (by omega) (by omega) (by omega) (by omega) (by omega) (by omega) (cd6_le N)]
  exact decide_eq_true (dg7_sum N)
/-- One digit in another's place. -/
theorem luhn_one (N i d : Nat) (hi : i < 7) (hd : d ≤ 9) : vld (tx ((dg7 N).set i (48 + d))) = decide ((dg7 N).getD i 0 = 48 + d) := by
  have hs := dg7_sum N
  have hc := cd6_le N
  have b0 : N / 100000 % 10 ≤ 9 := by omega
  have b1 : N / 10000 % 10 ≤ 9 := by omega
  have b2 : N / 1000 % 10 ≤ 9 := by omega
  have b3 : N / 100 % 10 ≤ 9 := by omega
  have b4 : N / 10 % 10 ≤ 9 := by omega
  have b5 : N % 10 ≤ 9 := by omega
  unfold dg7 dg6
  generalize N / 100000 % 10 = a0 at *
  generalize N / 10000 % 10 = a1 at *
  generalize N / 1000 % 10 = a2 at *
  generalize N / 100 % 10 = a3 at *
  generalize N / 10 % 10 = a4 at *
  generalize N % 10 = a5 at *
  generalize cd6 N = a6 at *
  have od := dbl_or (d := d)
  have o1 := dbl_or (d := a1)
  have o3 := dbl_or (d := a3)
  have o5 := dbl_or (d := a5)
  match i, hi with
  | 0, _ =>
    show vld (tx7 [d, a1, a2, a3, a4, a5, a6]) = decide (48 + a0 = 48 + d)
    rw [vld7 _ _ _ _ _ _ _ hd b1 b2 b3 b4 b5 hc, decide_eq_decide]
    clear o1 o3 o5 od; omega
  | 1, _ =>
    show vld (tx7 [a0, d, a2, a3, a4, a5, a6]) = decide (48 + a1 = 48 + d)
    rw [vld7 _ _ _ _ _ _ _ b0 hd b2 b3 b4 b5 hc, decide_eq_decide]
    clear o3 o5; omega
  | 2, _ =>
    show vld (tx7 [a0, a1, d, a3, a4, a5, a6]) = decide (48 + a2 = 48 + d)
    rw [vld7 _ _ _ _ _ _ _ b0 b1 hd b3 b4 b5 hc, decide_eq_decide]
    clear o1 o3 o5 od; omega
  | 3, _ =>
    show vld (tx7 [a0, a1, a2, d, a4, a5, a6]) = decide (48 + a3 = 48 + d)
    rw [vld7 _ _ _ _ _ _ _ b0 b1 b2 hd b4 b5 hc, decide_eq_decide]
    clear o1 o5; omega
  | 4, _ =>
    show vld (tx7 [a0, a1, a2, a3, d, a5, a6]) = decide (48 + a4 = 48 + d)
    rw [vld7 _ _ _ _ _ _ _ b0 b1 b2 b3 hd b5 hc, decide_eq_decide]
    clear o1 o3 o5 od; omega
  | 5, _ =>
    show vld (tx7 [a0, a1, a2, a3, a4, d, a6]) = decide (48 + a5 = 48 + d)
    rw [vld7 _ _ _ _ _ _ _ b0 b1 b2 b3 b4 hd hc, decide_eq_decide]
    clear o1 o3; omega
  | 6, _ =>
    show vld (tx7 [a0, a1, a2, a3, a4, a5, d]) = decide (48 + a6 = 48 + d)
    rw [vld7 _ _ _ _ _ _ _ b0 b1 b2 b3 b4 b5 hd, decide_eq_decide]
    clear o1 o3 o5 od; omega
theorem swap_a {p q s : Nat} (hp : p ≤ 9) (hq : q ≤ 9) (hne : p ≠ q) (h : (s + dbl p + q) % 10 = 0) : (s + dbl q + p) % 10 = 0 ↔ (p + q = 9 ∧ (p = 0 ∨ p = 9)) := by
  have o1 := dbl_or (d := p)
  have o2 := dbl_or (d := q)
  omega
theorem swap_b {p q s : Nat} (hp : p ≤ 9) (hq : q ≤ 9) (hne : p ≠ q) (h : (s + p + dbl q) % 10 = 0) : (s + q + dbl p) % 10 = 0 ↔ (p + q = 9 ∧ (p = 0 ∨ p = 9)) := by
  have o1 := dbl_or (d := p)
  have o2 := dbl_or (d := q)
  omega
/-- Two neighbours exchanged. -/
theorem luhn_two (N i : Nat) (hi : i < 6) (hne : (dg7 N).getD i 0 ≠ (dg7 N).getD (i + 1) 0) : vld (tx (((dg7 N).set i ((dg7 N).getD (i + 1) 0)).set (i + 1) ((dg7 N).getD i 0))) = decide ((dg7 N).getD i 0 - 48 + ((dg7 N).getD (i + 1) 0 - 48) = 9 ∧ ((dg7 N).getD i 0 = 48 ∨ (dg7 N).getD i 0 = 57)) := by
  have hs := dg7_sum N
  have hc := cd6_le N
  have b0 : N / 100000 % 10 ≤ 9 := by omega
  have b1 : N / 10000 % 10 ≤ 9 := by omega
  have b2 : N / 1000 % 10 ≤ 9 := by omega
  have b3 : N / 100 % 10 ≤ 9 := by omega
  have b4 : N / 10 % 10 ≤ 9 := by omega
  have b5 : N % 10 ≤ 9 := by omega
  unfold dg7 dg6 at *
  generalize N / 100000 % 10 = a0 at *
  generalize N / 10000 % 10 = a1 at *
  generalize N / 1000 % 10 = a2 at *
  generalize N / 100 % 10 = a3 at *
  generalize N / 10 % 10 = a4 at *
  generalize N % 10 = a5 at *
  generalize cd6 N = a6 at *
  match i, hi with
  | 0, _ =>
    have hne : 48 + a0 ≠ 48 + a1 := hne
    show vld (tx7 [a1, a0, a2, a3, a4, a5, a6]) = decide (48 + a0 - 48 + (48 + a1 - 48) = 9 ∧ (48 + a0 = 48 ∨ 48 + a0 = 57))
    rw [vld7 _ _ _ _ _ _ _ b1 b0 b2 b3 b4 b5 hc, decide_eq_decide]
    have := swap_b (p := a0) (q := a1) (s := a2 + dbl a3 + a4 + dbl a5 + a6) b0 b1 (by omega) (by omega)
    omega
  | 1, _ =>
    have hne : 48 + a1 ≠ 48 + a2 := hne
    show vld (tx7 [a0, a2, a1, a3, a4, a5, a6]) = decide (48 + a1 - 48 + (48 + a2 - 48) = 9 ∧ (48 + a1 = 48 ∨ 48 + a1 = 57))
    rw [vld7 _ _ _ _ _ _ _ b0 b2 b1 b3 b4 b5 hc, decide_eq_decide]
    have := swap_a (p := a1) (q := a2) (s := a0 + dbl a3 + a4 + dbl a5 + a6) b1 b2 (by omega) (by omega)
    omega
  | 2, _ =>
    have hne : 48 + a2 ≠ 48 + a3 := hne
    show vld (tx7 [a0, a1, a3, a2, a4, a5, a6]) = decide (48 + a2 - 48 + (48 + a3 - 48) = 9 ∧ (48 + a2 = 48 ∨ 48 + a2 = 57))
    rw [vld7 _ _ _ _ _ _ _ b0 b1 b3 b2 b4 b5 hc, decide_eq_decide]
    have := swap_b (p := a2) (q := a3) (s := a0 + dbl a1 + a4 + dbl a5 + a6) b2 b3 (by omega) (by omega)
    omega
  | 3, _ =>
    have hne : 48 + a3 ≠ 48 + a4 := hne
    show vld (tx7 [a0, a1, a2, a4, a3, a5, a6]) = decide (48 + a3 - 48 + (48 + a4 - 48) = 9 ∧ (48 + a3 = 48 ∨ 48 + a3 = 57))
    rw [vld7 _ _ _ _ _ _ _ b0 b1 b2 b4 b3 b5 hc, decide_eq_decide]
    have := swap_a (p := a3) (q := a4) (s := a0 + dbl a1 + a2 + dbl a5 + a6) b3 b4 (by omega) (by omega)
    omega
  | 4, _ =>
    have hne : 48 + a4 ≠ 48 + a5 := hne
    show vld (tx7 [a0, a1, a2, a3, a5, a4, a6]) = decide (48 + a4 - 48 + (48 + a5 - 48) = 9 ∧ (48 + a4 = 48 ∨ 48 + a4 = 57))
    rw [vld7 _ _ _ _ _ _ _ b0 b1 b2 b3 b5 b4 hc, decide_eq_decide]
    have := swap_b (p := a4) (q := a5) (s := a0 + dbl a1 + a2 + dbl a3 + a6) b4 b5 (by omega) (by omega)
    omega
  | 5, _ =>
    have hne : 48 + a5 ≠ 48 + a6 := hne
    show vld (tx7 [a0, a1, a2, a3, a4, a6, a5]) = decide (48 + a5 - 48 + (48 + a6 - 48) = 9 ∧ (48 + a5 = 48 ∨ 48 + a5 = 57))
    rw [vld7 _ _ _ _ _ _ _ b0 b1 b2 b3 b4 hc b5, decide_eq_decide]
    have := swap_a (p := a5) (q := a6) (s := a0 + dbl a1 + a2 + dbl a3 + a4) b5 hc (by omega) (by omega)
    omega
end LbM
end Go.Proofs.YtkikpdgpggbakaaDoor
