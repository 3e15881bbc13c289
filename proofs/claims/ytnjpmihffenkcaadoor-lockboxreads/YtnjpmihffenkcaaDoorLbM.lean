/-
  Ours: the check digit of modulus ten (pure).
-/
import Derived.Lib.ItoaNum
import Derived.Lib.ItoaMem
namespace Go.Proofs.YtnjpmihffenkcaaDoor
open Go.Lib
namespace LbM
/-- A digit's weight in a doubled place. -/
def dbl (d : Nat) : Nat := if 4 < d then 2 * d - 9 else 2 * d
/-- The weighed sum of the first k digits, counted from the last one on; b = 0: the last one is doubled. -/
def ws (b : Nat) (f : Nat → Nat) : Nat → Nat
  | 0 => 0
  | k + 1 => ws b f k + (if (k + b) % 2 = 0 then dbl (f k) else f k)
/-- The digit at a place; from the last one on. -/
def dv (T : List UInt8) (i : Nat) : Nat := (T.getD i 0).toNat - 48
def dr (T : List UInt8) (i : Nat) : Nat := dv T (T.length - 1 - i)
def isD (x : UInt8) : Prop := 48 ≤ x.toNat ∧ x.toNat ≤ 57
instance (x : UInt8) : Decidable (isD x) := by unfold isD; infer_instance
def allD (T : List UInt8) : Prop := ∀ x ∈ T, isD x
instance (T : List UInt8) : Decidable (allD T) := by unfold allD; infer_instance
def ckd (T : List UInt8) : Nat := (10 - ws 0 (dr T) T.length % 10) % 10
/-- Whether digits end with their check digit. -/
def vld (T : List UInt8) : Bool := decide (1 < T.length ∧ allD T ∧ ws 1 (dr T) T.length % 10 = 0)
theorem dbl_le {d : Nat} (h : d ≤ 9) : dbl d ≤ 9 := by unfold dbl; split <;> omega
theorem dbl_or {d : Nat} : (4 < d ∧ dbl d = 2 * d - 9) ∨ (d ≤ 4 ∧ dbl d = 2 * d) := by unfold dbl; split <;> omega
theorem ws_congr {b : Nat} {f g : Nat → Nat} : ∀ k, (∀ i, i < k → f i = g i) → ws b f k = ws b g k
  | 0, _ => rfl
  | k + 1, h => by
    have := ws_congr (b := b) k (fun i hi => h i (by omega))
    simp only [ws]
    rw [this, h k (by omega)]
theorem ws_le {b : Nat} {f : Nat → Nat} : ∀ k, (∀ i, i < k → f i ≤ 9) → ws b f k ≤ 9 * k
  | 0, _ => Nat.le_refl _
  | k + 1, h => by
    have := ws_le (b := b) k (fun i hi => h i (by omega))
    have h9 := h k (by omega)
    have hd := dbl_le h9
    simp only [ws]
    split <;> omega
theorem ws_zero {b : Nat} {f : Nat → Nat} {k : Nat} (h : ∀ i, k ≤ i → f i = 0) : ∀ m, ws b f (k + m) = ws b f k
  | 0 => rfl
  | m + 1 => by
    rw [← Nat.add_assoc]
    simp only [ws]
    rw [ws_zero h m, h (k + m) (by omega)]
    simp [dbl]
/-- The last digit by itself. -/
theorem ws_front (f : Nat → Nat) : ∀ k, ws 1 f (k + 1) = f 0 + ws 0 (fun i => f (i + 1)) k
  | 0 => by simp [ws]
  | k + 1 => by
    have ih := ws_front f k
    rw [ws, ih]
    simp only [ws]
    have e : (k + 1 + 1) % 2 = 0 ↔ (k + 0) % 2 = 0 := by omega
    simp only [e]
    omega
theorem allD_at {T : List UInt8} (h : allD T) {i : Nat} (hi : i < T.length) : 48 ≤ (T.getD i 0).toNat ∧ (T.getD i 0).toNat ≤ 57 := by
  rw [List.getD_eq_getElem?_getD, List.getElem?_eq_getElem hi]
  exact h _ (List.getElem_mem hi)
theorem dr_le {T : List UInt8} (h : allD T) {i : Nat} (hi : i < T.length) : dr T i ≤ 9 := by
  have := allD_at h (i := T.length - 1 - i) (by omega)
  unfold dr dv
  omega
theorem allD_of {T : List UInt8} (h : ∀ k, k < T.length → 48 ≤ (T.getD (T.length - 1 - k) 0).toNat ∧ (T.getD (T.length - 1 - k) 0).toNat ≤ 57) : allD T := fun x hx => by
  obtain ⟨i, hi, rfl⟩ := List.mem_iff_getElem.1 hx
  have := h (T.length - 1 - i) (by omega)
  rw [show T.length - 1 - (T.length - 1 - i) = i by omega, List.getD_eq_getElem?_getD, List.getElem?_eq_getElem hi] at this
  exact this
theorem allD_not {T : List UInt8} {k : Nat} (hk : k < T.length) (h : ¬ (48 ≤ (T.getD (T.length - 1 - k) 0).toNat ∧ (T.getD (T.length - 1 - k) 0).toNat ≤ 57)) : ¬ allD T := fun hd => h (allD_at hd (by omega))
/-- Valid, by the check digit of those ahead of the last one. -/
theorem vld_iff {T : List UInt8} (h1 : 1 < T.length) : vld T = decide (allD (T.take (T.length - 1)) ∧ (T.getD (T.length - 1) 0).toNat = 48 + ckd (T.take (T.length - 1))) := by
  unfold vld
  obtain ⟨n, hn⟩ : ∃ n, T.length = n + 1 := ⟨T.length - 1, by omega⟩
  rw [hn, Nat.add_sub_cancel]
  have hl : (T.take n).length = n := by rw [List.length_take]; omega
  have hsum : ws 1 (dr T) (n + 1) = dr T 0 + ws 0 (dr (T.take n)) n := by
    rw [ws_front]
    congr 1
    refine ws_congr n (fun i hi => ?_)
    unfold dr dv
    rw [hl, hn]
    congr 2
    rw [List.getD_eq_getElem?_getD, List.getD_eq_getElem?_getD, List.getElem?_take, if_pos (by omega)]
    congr 2
    omega
  have hT : T = T.take n ++ [T.getD n 0] := by
    have : T = T.take (n + 1) := by rw [← hn, List.take_length]
    conv => lhs; rw [this]
    rw [List.take_add_one, List.getD_eq_getElem?_getD, List.getElem?_eq_getElem (by omega)]; rfl
  have hd0 : dr T 0 = (T.getD n 0).toNat - 48 := by unfold dr dv; rw [hn]; rfl
  rw [decide_eq_decide, hsum, hd0]
  unfold ckd
  rw [hl]
  generalize ws 0 (dr (T.take n)) n = s
  constructor
  · rintro ⟨_, ha, hz⟩
    have hx : isD (T.getD n 0) := ha _ (by rw [List.getD_eq_getElem?_getD, List.getElem?_eq_getElem (by omega)]; exact List.getElem_mem _)
    refine ⟨fun x hx => ha x (List.mem_of_mem_take hx), ?_⟩
    unfold isD at hx
    omega
  · rintro ⟨ha, hz⟩
    refine ⟨by omega, fun x hx => ?_, by omega⟩
    rw [hT] at hx
    rcases List.mem_append.1 hx with hx | hx
    · exact ha x hx
    · rw [List.mem_singleton.1 hx]
      unfold isD
      omega
theorem ckd_le (T : List UInt8) : ckd T ≤ 9 := by unfold ckd; omega
/-! A number's digits. -/
theorem dec_dr : ∀ (n i : Nat), i < (decDigits n).length → dr (decDigits n) i = n / 10 ^ i % 10 := by
  intro n
  induction n using Nat.strongRecOn with
  | ind n ih =>
    intro i hi
    by_cases hn : n < 10
    · have e : decDigits n = [UInt8.ofNat (48 + n)] := by unfold decDigits; rw [dif_pos hn]
      rw [e] at hi ⊢
      obtain rfl : i = 0 := by simpa using hi
      unfold dr dv
      simp
      omega
    · have e : decDigits n = decDigits (n / 10) ++ [UInt8.ofNat (48 + n % 10)] := by conv => lhs; unfold decDigits; rw [dif_neg hn]
      have hl : (decDigits n).length = (decDigits (n / 10)).length + 1 := by rw [e]; simp
      cases i with
      | zero =>
        unfold dr dv
        rw [hl, e, List.getD_eq_getElem?_getD, List.getElem?_append_right (by omega)]
        simp
        omega
      | succ j =>
        have := ih (n / 10) (by omega) j (by omega)
        have e2 : dr (decDigits n) (j + 1) = dr (decDigits (n / 10)) j := by
          unfold dr dv
          rw [hl, e, List.getD_eq_getElem?_getD, List.getD_eq_getElem?_getD, List.getElem?_append_left (by omega), show (decDigits (n / 10)).length + 1 - 1 - (j + 1) = (decDigits (n / 10)).length - 1 - j by omega]
        rw [e2, this, Nat.pow_succ, Nat.mul_comm, Nat.div_div_eq_div_mul]
theorem dec_lt : ∀ (n : Nat), n < 10 ^ (decDigits n).length := by
  intro n
  induction n using Nat.strongRecOn with
  | ind n ih =>
    by_cases hn : n < 10
    · have e : decDigits n = [UInt8.ofNat (48 + n)] := by unfold decDigits; rw [dif_pos hn]
      rw [e]; simpa using hn
    · have e : decDigits n = decDigits (n / 10) ++ [UInt8.ofNat (48 + n % 10)] := by conv => lhs; unfold decDigits; rw [dif_neg hn]
      have := ih (n / 10) (by omega)
      rw [e, List.length_append, List.length_singleton, Nat.pow_succ]
      omega
theorem dec_len6 : ∀ (k n : Nat), n < 10 ^ (k + 1) → (decDigits n).length ≤ k + 1
  | 0, n, h => by
    have e : decDigits n = [UInt8.ofNat (48 + n)] := by unfold decDigits; rw [dif_pos (by simpa using h)]
    rw [e]; simp
  | k + 1, n, h => by
    by_cases hn : n < 10
    · have e : decDigits n = [UInt8.ofNat (48 + n)] := by unfold decDigits; rw [dif_pos hn]
      rw [e]; simp
    · have e : decDigits n = decDigits (n / 10) ++ [UInt8.ofNat (48 + n % 10)] := by conv => lhs; unfold decDigits; rw [dif_neg hn]
      have := dec_len6 k (n / 10) (by rw [Nat.pow_succ] at h; omega)
      rw [e, List.length_append, List.length_singleton]
      omega
theorem dec_allD : ∀ (n : Nat), allD (decDigits n) := by
  intro n
  induction n using Nat.strongRecOn with
  | ind n ih =>
    have u : ∀ d, d < 10 → isD (UInt8.ofNat (48 + d)) := fun d hd => by unfold isD; simp; omega
    by_cases hn : n < 10
    · have e : decDigits n = [UInt8.ofNat (48 + n)] := by unfold decDigits; rw [dif_pos hn]
      rw [e]; intro x hx; rw [List.mem_singleton.1 hx]; exact u n hn
    · have e : decDigits n = decDigits (n / 10) ++ [UInt8.ofNat (48 + n % 10)] := by conv => lhs; unfold decDigits; rw [dif_neg hn]
      rw [e]; intro x hx
      rcases List.mem_append.1 hx with hx | hx
      · exact ih (n / 10) (by omega) x hx
      · rw [List.mem_singleton.1 hx]; exact u _ (by omega)
/-- The weighed sum of a loan number: six digits, leading zeros among them. -/
def w6 (n : Nat) : Nat := dbl (n % 10) + n / 10 % 10 + dbl (n / 100 % 10) + n / 1000 % 10 + dbl (n / 10000 % 10) + n / 100000 % 10
def cd6 (n : Nat) : Nat := (10 - w6 n % 10) % 10
theorem ckd_dec (n : Nat) (h : n < 1000000) : ckd (decDigits n) = cd6 n := by
  have hl := dec_len6 5 n (by omega)
  obtain ⟨m, hm⟩ : ∃ m, (decDigits n).length + m = 6 := ⟨6 - (decDigits n).length, by omega⟩
  have e1 : ws 0 (dr (decDigits n)) (decDigits n).length = ws 0 (fun i => n / 10 ^ i % 10) (decDigits n).length := ws_congr _ (fun i hi => dec_dr n i hi)
  have e2 := ws_zero (b := 0) (f := fun i => n / 10 ^ i % 10) (k := (decDigits n).length) (fun i hi => by
    show n / 10 ^ i % 10 = 0
    have h1 := dec_lt n
    have h2 : 10 ^ (decDigits n).length ≤ 10 ^ i := Nat.pow_le_pow_right (by omega) hi
    rw [Nat.div_eq_of_lt (by omega)]) m
  rw [hm] at e2
  unfold ckd cd6
  rw [e1, ← e2]
  congr 3
  simp [ws, w6]
/-- Seven digits. -/
def sev (n c : Nat) : List UInt8 := [UInt8.ofNat (48 + n / 100000 % 10), UInt8.ofNat (48 + n / 10000 % 10), UInt8.ofNat (48 + n / 1000 % 10), UInt8.ofNat (48 + n / 100 % 10), UInt8.ofNat (48 + n / 10 % 10), UInt8.ofNat (48 + n % 10), UInt8.ofNat (48 + c)]
def tx7 (d : List Nat) : List UInt8 := d.map fun x => UInt8.ofNat (48 + x)
theorem u8d {x : Nat} (h : x ≤ 9) : (UInt8.ofNat (48 + x)).toNat = 48 + x := by simp; omega
theorem vld7 (a b c d e f g : Nat) (ha : a ≤ 9) (hb : b ≤ 9) (hc : c ≤ 9) (hd : d ≤ 9) (he : e ≤ 9) (hf : f ≤ 9) (hg : g ≤ 9) : vld (tx7 [a, b, c, d, e, f, g]) = decide ((a + dbl b + c + dbl d + e + dbl f + g) % 10 = 0) := by
  unfold vld
  have hD : allD (tx7 [a, b, c, d, e, f, g]) := fun x hx => by
    unfold tx7 at hx
    obtain ⟨y, hy, rfl⟩ := List.mem_map.1 hx
    unfold isD
    have : y ≤ 9 := by simp at hy; omega
    rw [u8d this]; omega
  have hl : (tx7 [a, b, c, d, e, f, g]).length = 7 := rfl
  rw [hl, decide_eq_decide]
  have es : ws 1 (dr (tx7 [a, b, c, d, e, f, g])) 7 = g + dbl f + e + dbl d + c + dbl b + a := by
    have k : ∀ x, x ≤ 9 → (48 + x) % 256 - 48 = x := fun x hx => by omega
    simp [ws, dr, dv, tx7, k, ha, hb, hc, hd, he, hf, hg]
  rw [es]
  constructor
  · rintro ⟨_, _, h⟩; omega
  · intro h; exact ⟨by omega, hD, by omega⟩
end LbM
end Go.Proofs.YtnjpmihffenkcaaDoor
