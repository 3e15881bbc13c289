/-
  Ours: the reference's product, quotient and sign, as natural numbers.
-/
import Derived.Test.YtcjmjbhbdojeiabRefSign
namespace Go.Proofs.Ytcjmjbhbdojeiab
open Go.RowKit

theorem upto_bin (m : Nat) : ∀ n, Upto 1 (bin m n)
  | 0 => Upto.nil (by omega)
  | n + 1 => (upto_bin m n).push (by omega) (by omega)
theorem val_bin (m : Nat) : ∀ n, val (bin m n) = ((m % 2 ^ n : Nat) : Int)
  | 0 => by simp [bin, val, Nat.mod_one]
  | n + 1 => by
    rw [bin, val_push, val_bin m n, bin_length, Nat.pow_succ]
    have e : m % (2 ^ n * 2) = m % 2 ^ n + 2 ^ n * (m / 2 ^ n % 2) := Nat.mod_mul
    rw [e, Int.natCast_add, Int.natCast_mul]
    simp
theorem val_bin64 (m : Nat) (h : m < 18446744073709551616) : val (bin m 64) = (m : Int) := by
  rw [val_bin, Nat.mod_eq_of_lt]; exact h

/-- The sizes' product as digits, and its division: what the reference does first. -/
theorem product_any (A B : Nat) (hA : A < 18446744073709551616) (hB : B < 18446744073709551616) (va vb : Value) (w : World)
    (ra : Row 3 0 w va (bin A 64)) (rb : Row 3 0 w vb (bin B 64)) :
    Calls Try.prog 35 #[va, vb] w fun e w' => ∃ v, e = .returned v ∧ ∃ S, Row 3 w.heap.size w' v S ∧ S.length = 128 ∧ Upto 1 S ∧ val S = ((A * B : Nat) : Int) ∧ Below w.heap.size w w' := by
  obtain ⟨ga, ca, rfl, _, hga, hca, _, cella, _⟩ := ra.arr (by rw [bin_length]; omega)
  obtain ⟨gb, cb, rfl, _, hgb, hcb, _, cellb, _⟩ := rb.arr (by rw [bin_length]; omega)
  simp only [bin_length] at cella cellb hca hcb ⊢
  refine (times_any (bin A 64) (bin B 64) ga 0 ca gb 0 cb w (bin_length _ _) (bin_length _ _) (upto_bin _ _) (upto_bin _ _) hga hgb hca hcb (fun i hi => by rw [Nat.zero_add]; exact cella i hi) (fun i hi => by rw [Nat.zero_add]; exact cellb i hi)).mono ?_
  rintro e w' ⟨v, he, S, h1, h2, h3, h4, h5⟩
  refine ⟨v, he, S, h1, h2, h3, ?_, h5⟩
  rw [h4, val_bin64 A hA, val_bin64 B hB, Int.natCast_mul]

theorem quotient_any (P C : Nat) (hC : 0 < C) (hC1 : C ≤ 9223372036854775808) (v : Value) (S : List Int) (w : World) (rs : Row 3 0 w v S) (lS : S.length = 128) (uS : Upto 1 S) (vS : val S = (P : Int)) :
    Calls Try.prog 34 #[v, .int .u64 (C : Int)] w fun e w' => ∃ v, e = .returned (.tuple #[v, .int .u64 ((P % C : Nat) : Int)]) ∧ ∃ q, Row 3 w.heap.size w' v q ∧ q.length = 128 ∧ Upto 1 q ∧ val q = ((P / C : Nat) : Int) ∧ Below w.heap.size w w' := by
  obtain ⟨g, ca, rfl, _, hg, _, _, cell, _⟩ := rs.arr (by omega)
  rw [lS] at cell ⊢
  refine (over_any S g 0 ca C w lS uS hg (by omega) (by omega) (fun i hi => by rw [Nat.zero_add]; exact cell i hi)).mono ?_
  rintro e w' ⟨v, r, he, q, h1, h2, h3, h4, h5, h6, h7⟩
  rw [vS] at h4
  have uq := (Int.ediv_emod_unique (a := (P : Int)) (b := (C : Int)) (q := val q) (r := r) (by omega)).2 ⟨by rw [Int.mul_comm]; omega, h5, h6⟩
  refine ⟨v, by rw [he, ← uq.2, Int.natCast_emod], q, h1, h2, h3, by rw [← uq.1, Int.natCast_ediv], h7⟩

theorem greater_any (m : Nat) (hm : m + 1 < 340282366920938463463374607431768211456) (v : Value) (S : List Int) (w : World) (rs : Row 3 0 w v S) (lS : S.length = 128) (uS : Upto 1 S) (vS : val S = (m : Int)) :
    Calls Try.prog 37 #[v] w fun e w' => ∃ v, e = .returned v ∧ ∃ q, Row 3 w.heap.size w' v q ∧ q.length = 128 ∧ Upto 1 q ∧ val q = ((m + 1 : Nat) : Int) ∧ Below w.heap.size w w' := by
  obtain ⟨g, ca, rfl, _, hg, _, _, cell, _⟩ := rs.arr (by omega)
  rw [lS] at cell ⊢
  refine (more_any S g 0 ca w lS uS hg (by rw [vS]; omega) (fun i hi => by rw [Nat.zero_add]; exact cell i hi)).mono ?_
  rintro e w' ⟨v, he, q, h1, h2, h3, h4, h7⟩
  exact ⟨v, he, q, h1, h2, h3, by rw [h4, vS]; omega, h7⟩

theorem signedBy_any (neg : Bool) (m : Nat) (v : Value) (S : List Int) (w : World) (rs : Row 3 0 w v S) (lS : S.length = 128) (uS : Upto 1 S) (vS : val S = (m : Int)) :
    Calls Try.prog 38 #[.bool neg, v] w fun e w' => e = .returned (.tuple #[.int .i64 (sgV neg m), .bool (sgOk neg m)]) ∧ w' = w := by
  obtain ⟨g, ca, rfl, _, hg, _, _, cell, _⟩ := rs.arr (by omega)
  rw [lS] at cell ⊢
  refine (rsigned_any neg S g 0 ca w lS uS (fun i hi => by rw [Nat.zero_add]; exact cell i hi)).mono ?_
  rintro e w' ⟨he, hw⟩
  exact ⟨by rw [he, vS, Int.toNat_natCast], hw⟩

theorem below2 {w w1 w2 : World} (h1 : Below w.heap.size w w1) (h2 : Below w1.heap.size w1 w2) : Below w.heap.size w w2 := h1.trans (h2.mono h1.size)
theorem below_draws (w : World) (n : Nat) : Below w.heap.size w (w.drewN n) := ⟨rfl, rfl, rfl, Nat.le_refl _, fun _ _ => rfl⟩

end Go.Proofs.Ytcjmjbhbdojeiab
