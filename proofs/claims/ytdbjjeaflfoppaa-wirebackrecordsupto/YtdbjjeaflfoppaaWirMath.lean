/-
  Ours: the bytes of a number, and how they are read back (no program).
-/
import Derived.WalkKit
namespace Go.Proofs.Ytdbjjeaflfoppaa

/-- The telling of a number from 0 on. -/
def put (x : Nat) : List Nat := if x < 128 then [x] else (x % 128 + 128) :: put (x / 128)
termination_by x
decreasing_by omega

theorem put_small {x : Nat} (h : x < 128) : put x = [x] := by rw [put, if_pos h]
theorem put_big {x : Nat} (h : 128 ≤ x) : put x = (x % 128 + 128) :: put (x / 128) := by rw [put, if_neg (by omega)]

theorem put_pos (x : Nat) : 0 < (put x).length := by
  by_cases h : x < 128
  · simp [put_small h]
  · simp [put_big (x := x) (by omega)]

theorem put_len (k x : Nat) (h : x < 128 ^ (k + 1)) : (put x).length ≤ k + 1 := by
  induction k generalizing x with
  | zero => rw [put_small (by omega)]; simp
  | succ k ih =>
    by_cases c : x < 128
    · rw [put_small c]; simp
    · rw [put_big (by omega)]
      have : x / 128 < 128 ^ (k + 1) := by rw [Nat.div_lt_iff_lt_mul (by decide), ← Nat.pow_succ]; exact h
      have := ih _ this
      simp; omega

theorem put_len10 (x : Nat) (h : x < 18446744073709551616) : (put x).length ≤ 10 := put_len 9 x (by omega)

theorem put_byte (x : Nat) : ∀ c ∈ put x, c < 256 := by
  induction x using Nat.strongRecOn with
  | ind x ih =>
    by_cases c : x < 128
    · rw [put_small c]; intro c hc; simp at hc; omega
    · rw [put_big (by omega)]
      intro d hd
      rcases List.mem_cons.1 hd with rfl | hd
      · omega
      · exact ih (x / 128) (by omega) d hd

theorem put_inj (x y : Nat) (r s : List Nat) (h : put x ++ r = put y ++ s) : x = y ∧ r = s := by
  induction x using Nat.strongRecOn generalizing y with
  | ind x ih =>
    by_cases c : x < 128
    · rw [put_small c] at h
      by_cases d : y < 128
      · rw [put_small d] at h; simpa using h
      · rw [put_big (x := y) (by omega)] at h
        simp at h; omega
    · rw [put_big (x := x) (by omega)] at h
      by_cases d : y < 128
      · rw [put_small d] at h; simp at h; omega
      · rw [put_big (x := y) (by omega)] at h
        simp at h
        obtain ⟨e1, e2⟩ := ih (x / 128) (by omega) (y / 128) h.2
        exact ⟨by omega, e2⟩

/-- The program's way to read, from the i-th byte on. -/
def rdL : List Nat → Nat → Nat → Option (Nat × Nat)
  | [], _, _ => none
  | c :: cs, i, x => if i = 9 ∧ 1 < c then none else if 128 ≤ c then rdL cs (i + 1) (x + c % 128 * 128 ^ i) else if c = 0 ∧ 0 < i then none else some (x + c % 128 * 128 ^ i, i + 1)

theorem pow9 {i : Nat} (h : i ≤ 9) : ∃ q, 18446744073709551616 = q * 128 ^ i ∧ 2 ≤ q := by
  match i, h with
  | 0, _ => exact ⟨18446744073709551616, by decide, by decide⟩
  | 1, _ => exact ⟨144115188075855872, by decide, by decide⟩
  | 2, _ => exact ⟨1125899906842624, by decide, by decide⟩
  | 3, _ => exact ⟨8796093022208, by decide, by decide⟩
  | 4, _ => exact ⟨68719476736, by decide, by decide⟩
  | 5, _ => exact ⟨536870912, by decide, by decide⟩
  | 6, _ => exact ⟨4194304, by decide, by decide⟩
  | 7, _ => exact ⟨32768, by decide, by decide⟩
  | 8, _ => exact ⟨256, by decide, by decide⟩
  | 9, _ => exact ⟨2, by decide, by decide⟩

theorem rdL_put (x : Nat) (r : List Nat) (i acc : Nat) (hi : i ≤ 9) (hx : x * 128 ^ i < 18446744073709551616) (h0 : i = 0 ∨ 0 < x) : rdL (put x ++ r) i acc = some (acc + x * 128 ^ i, i + (put x).length) := by
  induction x using Nat.strongRecOn generalizing i acc with
  | ind x ih =>
    have p1 : 1 ≤ 128 ^ i := Nat.one_le_pow _ _ (by decide)
    by_cases c : x < 128
    · rw [put_small c]
      have n9 : ¬(i = 9 ∧ 1 < x) := by
        rintro ⟨rfl, h⟩
        have : 2 * 128 ^ 9 ≤ x * 128 ^ 9 := Nat.mul_le_mul_right _ h
        omega
      simp only [List.cons_append, List.nil_append, rdL, if_neg n9, if_neg (show ¬ 128 ≤ x by omega), if_neg (show ¬ (x = 0 ∧ 0 < i) by omega), List.length_singleton]
      rw [Nat.mod_eq_of_lt c]
    · rw [put_big (by omega)]
      have i8 : i < 9 := by
        apply Nat.lt_of_not_le
        intro h
        obtain rfl : i = 9 := by omega
        have : 128 * 128 ^ 9 ≤ x * 128 ^ 9 := Nat.mul_le_mul_right _ (by omega)
        omega
      have e : x / 128 * 128 ^ (i + 1) + x % 128 * 128 ^ i = x * 128 ^ i := by
        rw [Nat.pow_succ, Nat.mul_comm (128 ^ i) 128, ← Nat.mul_assoc, ← Nat.add_mul]
        congr 1; omega
      have := ih (x / 128) (by omega) (i + 1) (acc + x % 128 * 128 ^ i) (by omega) (by omega) (.inr (by omega))
      simp only [List.cons_append, rdL, if_neg (show ¬ (i = 9 ∧ 1 < x % 128 + 128) by omega), if_pos (show 128 ≤ x % 128 + 128 by omega), List.length_cons]
      rw [show (x % 128 + 128) % 128 = x % 128 by omega, this]
      congr 2
      · omega
      · omega

theorem rdL_some (cs : List Nat) (i acc v n : Nat) (hc : ∀ c ∈ cs, c < 256) (hi : i ≤ 9) (h : rdL cs i acc = some (v, n)) :
    ∃ x r, cs = put x ++ r ∧ v = acc + x * 128 ^ i ∧ n = i + (put x).length ∧ x * 128 ^ i < 18446744073709551616 ∧ (i = 0 ∨ 0 < x) := by
  induction cs generalizing i acc with
  | nil => simp [rdL] at h
  | cons c cs ih =>
    simp only [rdL] at h
    split at h
    · cases h
    rename_i n9
    split at h
    · rename_i c1
      have i8 : i < 9 := by omega
      obtain ⟨x, r, e1, e2, e3, e4, e5⟩ := ih (i + 1) _ (fun d hd => hc d (List.mem_cons_of_mem _ hd)) (by omega) h
      have cb := hc c (by simp)
      refine ⟨x * 128 + (c - 128), r, ?_, ?_, ?_, ?_, .inr (by omega)⟩
      · rw [put_big (by omega), e1, show (x * 128 + (c - 128)) % 128 + 128 = c by omega, show (x * 128 + (c - 128)) / 128 = x by omega]; simp
      · rw [e2, show c % 128 = c - 128 by omega, Nat.add_mul, Nat.pow_succ, Nat.mul_comm (128 ^ i) 128, ← Nat.mul_assoc]; omega
      · rw [put_big (by omega), e3, show (x * 128 + (c - 128)) / 128 = x by omega]; simp; omega
      · obtain ⟨q, hq, _⟩ := pow9 (i := i + 1) (by omega)
        have lt : x < q := by
          apply Nat.lt_of_not_le; intro h
          have := Nat.mul_le_mul_right (128 ^ (i + 1)) h
          omega
        have : (x * 128 + (c - 128)) < q * 128 := by omega
        have p1 : 0 < 128 ^ i := Nat.pow_pos (by decide)
        have := Nat.mul_lt_mul_of_pos_right this p1
        rw [hq, Nat.pow_succ, Nat.mul_comm (128 ^ i) 128, ← Nat.mul_assoc]; exact this
    · rename_i c1
      split at h
      · cases h
      rename_i c2
      simp only [Option.some.injEq, Prod.mk.injEq] at h
      refine ⟨c, cs, by rw [put_small (by omega)]; rfl, ?_, ?_, ?_, by omega⟩
      · rw [← h.1, Nat.mod_eq_of_lt (show c < 128 by omega)]
      · rw [← h.2, put_small (by omega)]; rfl
      · by_cases e : i = 9
        · subst e
          have : c * 128 ^ 9 ≤ 1 * 128 ^ 9 := Nat.mul_le_mul_right _ (by omega)
          omega
        · obtain ⟨q, hq, q2⟩ := pow9 (i := i + 1) (by omega)
          have p1 : 0 < 128 ^ i := Nat.pow_pos (by decide)
          have a1 : c * 128 ^ i < 128 * 128 ^ i := Nat.mul_lt_mul_of_pos_right (by omega) p1
          have a2 : 128 * 128 ^ i ≤ q * 128 ^ (i + 1) := by
            rw [Nat.pow_succ, Nat.mul_comm (128 ^ i) 128]
            exact Nat.le_mul_of_pos_left _ (by omega)
          omega

theorem rdL_iff (cs : List Nat) (v n : Nat) (hc : ∀ c ∈ cs, c < 256) : rdL cs 0 0 = some (v, n) ↔ ∃ r, cs = put v ++ r ∧ n = (put v).length ∧ v < 18446744073709551616 := by
  constructor
  · intro h
    obtain ⟨x, r, e1, e2, e3, e4, _⟩ := rdL_some cs 0 0 v n hc (by decide) h
    simp at e2 e3 e4
    subst e2
    exact ⟨r, e1, e3, e4⟩
  · rintro ⟨r, rfl, rfl, h⟩
    have := rdL_put v r 0 0 (by decide) (by simpa using h) (.inl rfl)
    simpa using this

/-- What the groups of bytes come to. -/
def val : List Nat → Nat
  | [] => 0
  | c :: cs => c % 128 + 128 * val cs

theorem val_put (x : Nat) : val (put x) = x := by
  induction x using Nat.strongRecOn with
  | ind x ih =>
    by_cases c : x < 128
    · rw [put_small c]; simp [val]; omega
    · rw [put_big (by omega)]; simp only [val]; rw [ih (x / 128) (by omega)]; omega

/-- The number at a place: its value and the place behind it. -/
def rd (b : List Nat) (p : Int) : Option (Nat × Nat) := if 0 ≤ p ∧ p ≤ b.length then (rdL (b.drop p.toNat) 0 0).map fun q => (q.1, p.toNat + q.2) else none

theorem rd_iff (b : List Nat) (p v n : Nat) (hb : ∀ c ∈ b, c < 256) (hp : p ≤ b.length) : rd b p = some (v, n) ↔ ∃ r, b.drop p = put v ++ r ∧ n = p + (put v).length ∧ v < 18446744073709551616 := by
  have hd : ∀ c ∈ b.drop p, c < 256 := fun c h => hb c (List.mem_of_mem_drop h)
  unfold rd
  rw [if_pos ⟨by omega, by omega⟩, Int.toNat_natCast]
  constructor
  · intro h
    obtain ⟨⟨v', n'⟩, h1, h2⟩ := Option.map_eq_some_iff.1 h
    simp only [Prod.mk.injEq] at h2
    obtain ⟨rfl, rfl⟩ := h2
    obtain ⟨r, e1, e2, e3⟩ := (rdL_iff _ _ _ hd).1 h1
    exact ⟨r, e1, by rw [e2], e3⟩
  · rintro ⟨r, e1, e2, e3⟩
    rw [(rdL_iff _ v (put v).length hd).2 ⟨r, e1, rfl, e3⟩, e2]; rfl

theorem rd_le (b : List Nat) (p : Int) (v n : Nat) (hb : ∀ c ∈ b, c < 256) (h : rd b p = some (v, n)) : 0 ≤ p ∧ p < n ∧ n ≤ b.length ∧ v < 18446744073709551616 := by
  have hp : 0 ≤ p ∧ p ≤ b.length := by
    apply Classical.byContradiction; intro c; unfold rd at h; rw [if_neg c] at h; cases h
  obtain ⟨k, rfl⟩ := Int.eq_ofNat_of_zero_le hp.1
  obtain ⟨r, e1, e2, e3⟩ := (rd_iff b k v n hb (by omega)).1 h
  have := congrArg List.length e1
  simp at this
  have := put_pos v
  exact ⟨hp.1, by omega, by omega, e3⟩

/-- An int64 as a number from 0 on, and back. -/
def zz (y : Int) : Nat := if 0 ≤ y then (2 * y).toNat else (-2 * y - 1).toNat
def unzz (u : Nat) : Int := if u % 2 = 0 then (u / 2 : Nat) else -((u / 2 : Nat) : Int) - 1
theorem unzz_zz (y : Int) : unzz (zz y) = y := by unfold unzz zz; split <;> split <;> omega
theorem zz_unzz (u : Nat) : zz (unzz u) = u := by unfold unzz zz; split <;> split <;> omega
theorem zz_lt (y : Int) (h0 : -9223372036854775808 ≤ y) (h1 : y ≤ 9223372036854775807) : zz y < 18446744073709551616 := by unfold zz; split <;> omega
theorem unzz_i64 (u : Nat) (h : u < 18446744073709551616) : -9223372036854775808 ≤ unzz u ∧ unzz u ≤ 9223372036854775807 := by unfold unzz; split <;> omega

/-- The bytes of an int64. -/
def putI (y : Int) : List Nat := put (zz y)
end Go.Proofs.Ytdbjjeaflfoppaa
