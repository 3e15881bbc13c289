/-
  Ours: decimal digits as numbers; a text's byte (after ScNum).
-/
import Derived.Test.YtkjnklagjhhhkaaGreatDoorScDec
namespace Go.Proofs.YtkjnklagjhhhkaaGreatDoor
open Go.RowKit Go.Lib

/-- The value of digits. -/
def valD (l : List UInt8) : Nat := l.foldl (fun a b => 10 * a + (b.toNat - 48)) 0
theorem valD_snoc (l : List UInt8) (x : UInt8) : valD (l ++ [x]) = 10 * valD l + (x.toNat - 48) := by simp [valD]
theorem u8_48 (d : Nat) (h : d < 10) : (UInt8.ofNat (48 + d)).toNat = 48 + d := by simp; omega
theorem valD_dec : ∀ n : Nat, valD (decDigits n) = n := by
  intro n
  induction n using Nat.strongRecOn with
  | _ n ih =>
    by_cases h : n < 10
    · rw [decDigits, dif_pos h]
      simp only [valD, List.foldl_cons, List.foldl_nil]
      rw [u8_48 n h]; omega
    · rw [decDigits, dif_neg h, valD_snoc, ih (n / 10) (by omega), u8_48 _ (by omega)]
      omega
theorem valD_take (l : List UInt8) : ∀ k, valD (l.take k) ≤ valD l := by
  have H : ∀ (m : Nat) (l : List UInt8), l.length ≤ m → ∀ k, valD (l.take k) ≤ valD l := by
    intro m
    induction m with
    | zero => intro l hl k; have : l = [] := List.eq_nil_of_length_eq_zero (by omega); subst this; simp
    | succ m ih =>
      intro l hl k
      by_cases hk : l.length ≤ k
      · rw [List.take_of_length_le hk]; exact Nat.le_refl _
      · have hne : l ≠ [] := fun e => by subst e; simp at hk
        have e := List.dropLast_concat_getLast hne
        have h1 := ih l.dropLast (by simp; omega) k
        rw [← e, valD_snoc, List.take_append_of_le_length (by simp; omega)]
        omega
  exact H l.length l (Nat.le_refl _)
theorem dec_dig : ∀ (n : Nat) (x : UInt8), x ∈ decDigits n → 48 ≤ x.toNat ∧ x.toNat ≤ 57 := by
  intro n
  induction n using Nat.strongRecOn with
  | _ n ih =>
    intro x hx
    by_cases h : n < 10
    · rw [decDigits, dif_pos h] at hx
      simp only [List.mem_singleton] at hx
      subst hx
      rw [u8_48 n h]; omega
    · rw [decDigits, dif_neg h] at hx
      rcases List.mem_append.1 hx with hx | hx
      · exact ih (n / 10) (by omega) x hx
      · simp only [List.mem_singleton] at hx
        subst hx
        rw [u8_48 _ (by omega)]; omega
theorem dec_zero (n : Nat) (h : (decDigits n).getD 0 0 = 48) : n = 0 := by
  induction n using Nat.strongRecOn with
  | _ n ih =>
    by_cases h10 : n < 10
    · rw [decDigits, dif_pos h10] at h
      have := congrArg UInt8.toNat h
      simp only [List.getD_cons_zero] at this
      rw [u8_48 n h10] at this
      have e : (48 : UInt8).toNat = 48 := rfl
      omega
    · rw [decDigits, dif_neg h10] at h
      have hp : 0 < (decDigits (n / 10)).length := by rw [decDigits_length, nDigits]; split <;> omega
      rw [List.getD_eq_getElem?_getD, List.getElem?_append_left hp, ← List.getD_eq_getElem?_getD] at h
      have := ih (n / 10) (by omega) h
      omega
theorem dec_19 (n : Nat) (h : n < 10000000000000000000) : (decDigits n).length ≤ 19 := by
  have H : ∀ (k u : Nat), u < 10 ^ (k + 1) → nDigits u ≤ k + 1 := by
    intro k
    induction k with
    | zero => intro u h; rw [nDigits, dif_pos (by simpa using h)]; omega
    | succ k ih =>
      intro u h
      by_cases hu : u < 10
      · rw [nDigits, dif_pos hu]; omega
      · rw [nDigits, dif_neg hu]
        have := ih (u / 10) (by rw [Nat.pow_succ] at h; omega)
        omega
  rw [decDigits_length]
  exact H 18 n (by rw [show 10 ^ (18 + 1) = 10000000000000000000 by decide]; omega)

theorem idx_str (T : List UInt8) (i : Nat) (h : i < T.length) (w : World) : (Instr.index 9 (.string ⟨T.toArray⟩) (.int .i64 ((i : Nat) : Int))).run Tryz.prog w = .ok (.int .u8 (((T.getD i 0).toNat : Nat) : Int)) w := by
  have hu : Tryz.prog.underlying 9 = some .string := by kernel_rfl
  have hs : (⟨T.toArray⟩ : ByteArray).size = T.length := rfl
  rw [run_index_string w 9 ⟨T.toArray⟩ .i64 _ hu, dif_pos ⟨by omega, by omega⟩]
  have e : (⟨T.toArray⟩ : ByteArray)[((i : Nat) : Int).toNat]'(by omega) = T.getD i 0 := by
    rw [List.getD_eq_getElem?_getD, List.getElem?_eq_getElem h]
    rfl
  rw [e]


end Go.Proofs.YtkjnklagjhhhkaaGreatDoor
