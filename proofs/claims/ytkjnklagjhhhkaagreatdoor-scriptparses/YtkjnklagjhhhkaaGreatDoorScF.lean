/-
  Ours: operations as lines of text, by lists of bytes. No Go in sight.
-/
import Derived.Test.YtkjnklagjhhhkaaGreatDoorMrtMath
namespace Go.Proofs.YtkjnklagjhhhkaaGreatDoor
namespace ScF
open Go.Lib

/-- An operation. -/
structure Cm where
  kind : Int
  loan : Int
  amount : Int
  rate : Int
  count : Int
  days : Int
  text : List UInt8
abbrev i64 (n : Int) : Prop := -9223372036854775808 ≤ n ∧ n ≤ 9223372036854775807
structure Cm.Ok (o : Cm) : Prop where
  kind : i64 o.kind
  loan : i64 o.loan
  amount : i64 o.amount
  rate : i64 o.rate
  count : i64 o.count
  days : i64 o.days

def words : List (List UInt8) := [[], [111, 112, 101, 110], [112, 97, 121], [114, 101, 116, 117, 114, 110], [114, 101, 102, 117, 110, 100], [119, 97, 105, 118, 101], [112, 114, 111, 109, 105, 115, 101], [114, 101, 115, 116, 114, 117, 99, 116, 117, 114, 101], [100, 97, 121], [116, 105, 99, 107], [102, 97, 116, 101], [99, 97, 108, 109], [99, 114, 97, 115, 104], [99, 111, 109, 112, 97, 99, 116], [114, 101, 115, 116, 97, 114, 116], [108, 111, 97, 110], [112, 108, 97, 110], [98, 111, 111, 107, 115], [97, 103, 105, 110, 103], [110, 111, 116, 105, 99, 101, 115], [116, 105, 109, 101, 114, 115], [116, 111, 100, 97, 121]]
def slotT : List (List Nat) := [[], [0, 4, 1, 2, 5], [0, 4], [0], [0, 4], [0, 4], [0, 4, 3], [0, 2, 1], [3], [3], [6], [], [2, 3], [], [], [0], [0], [], [], [], [], []]
def wordN (k : Nat) : List UInt8 := words.getD k []
def slotN (k : Nat) : List Nat := slotT.getD k []
def wLevel : List UInt8 := [108, 101, 118, 101, 108]
def wEqual : List UInt8 := [101, 113, 117, 97, 108]
def wBalloon : List UInt8 := [98, 97, 108, 108, 111, 111, 110]
/-- The letter of a slot. -/
def letN (s : Nat) : Nat := ([76, 82, 67, 68, 65, 84, 70] : List Nat).getD s 0

def wholeT (n : Int) : Option (List UInt8) := if -999999999999999999 ≤ n ∧ n ≤ 999999999999999999 then some (itoa n) else none
def planW (n : Int) : Option (List UInt8) := if n = 0 then some wLevel else if n = 1 then some wEqual else if n = 2 then some wBalloon else none
def clean (t : List UInt8) : Bool := t.all (fun c => c != 32 && c != 10)
def letters (t : List UInt8) : Option (List UInt8) := if t.length = 0 then none else if clean t then some t else none
def tellS (o : Cm) : Nat → Option (List UInt8)
  | 0 => wholeT o.loan
  | 1 => wholeT o.rate
  | 2 => wholeT o.count
  | 3 => wholeT o.days
  | 4 => some (fmtL o.amount)
  | 5 => planW o.days
  | 6 => letters o.text
  | _ => none
def lineS (o : Cm) : List Nat → List UInt8 → Option (List UInt8)
  | [], l => some l
  | s :: r, l => match tellS o s with
    | none => none
    | some t => lineS o r (l ++ (32 :: t))
def short (x : Option (List UInt8)) : Option (List UInt8) := match x with
  | none => none
  | some l => if l.length ≤ 100 then some l else none
def fmtOp (o : Cm) : Option (List UInt8) := if 1 ≤ o.kind ∧ o.kind ≤ 21 then short (lineS o (slotN o.kind.toNat) (wordN o.kind.toNat)) else none

theorem slot_le : ∀ k, k < 22 → ∀ s ∈ slotN k, s ≤ 6 := by decide
theorem slot_len : ∀ k, k < 22 → (slotN k).length ≤ 5 := by decide
theorem word_len : ∀ k, k < 22 → (wordN k).length ≤ 11 := by decide
theorem word_pos : ∀ k, k < 22 → k ≠ 0 → 0 < (wordN k).length := by decide
theorem nDigits_lt {u k : Nat} (h : nDigits u ≤ k) : u < 10 ^ k := Nat.lt_of_lt_of_le (lt_pow_nDigits u) (Nat.pow_le_pow_right (by decide) h)
theorem itoa_len (n : Int) (h : i64 n) : (itoa n).length ≤ 20 ∧ 0 < (itoa n).length := by
  have h19 : (10 : Nat) ^ (18 + 1) = 10000000000000000000 := by decide
  unfold i64 at h
  unfold itoa
  split
  · have h1 := nDigits_le 18 n.natAbs (by omega)
    have h2 := nDigits_pos n.natAbs
    simp only [List.length_cons, decDigits_length]; omega
  · have h1 := nDigits_le 18 n.toNat (by omega)
    have h2 := nDigits_pos n.toNat
    rw [decDigits_length]; omega
/-- What the document asks of a number's length. -/
theorem whole_iff (n : Int) (h : i64 n) : ((itoa n).length ≤ 18 ∨ (n < 0 ∧ (itoa n).length = 19)) ↔ (-999999999999999999 ≤ n ∧ n ≤ 999999999999999999) := by
  have h18 : (10 : Nat) ^ 18 = 1000000000000000000 := by decide
  have h18' : (10 : Nat) ^ (17 + 1) = 1000000000000000000 := by decide
  have h17 : (10 : Nat) ^ 17 = 100000000000000000 := by decide
  unfold i64 at h
  unfold itoa
  by_cases hn : n < 0
  · simp only [if_pos hn, List.length_cons, decDigits_length]
    constructor
    · intro h1
      have := nDigits_lt (u := n.natAbs) (k := 18) (by omega)
      omega
    · intro h1
      have := nDigits_le 17 n.natAbs (by omega)
      omega
  · simp only [if_neg hn, decDigits_length]
    constructor
    · intro h1
      have := nDigits_lt (u := n.toNat) (k := 18) (by omega)
      omega
    · intro h1
      have := nDigits_le 17 n.toNat (by omega)
      omega
theorem tell_len (o : Cm) (ho : o.Ok) (ht : o.text.length ≤ 200000) (s : Nat) (t : List UInt8) (h : tellS o s = some t) : t.length ≤ 200000 := by
  have hw : ∀ n, i64 n → ∀ t, wholeT n = some t → t.length ≤ 200000 := fun n hn t h => by
    unfold wholeT at h
    split at h
    · injection h with h; subst h; have := (itoa_len n hn).1; omega
    · cases h
  match s, h with
  | 0, h => exact hw _ ho.loan _ h
  | 1, h => exact hw _ ho.rate _ h
  | 2, h => exact hw _ ho.count _ h
  | 3, h => exact hw _ ho.days _ h
  | 4, h => injection h with h; subst h; have := (fmt_parts o.amount ho.amount.1 ho.amount.2).1; omega
  | 5, h =>
    simp only [tellS, planW] at h
    split at h
    · injection h with h; subst h; decide
    · split at h
      · injection h with h; subst h; decide
      · split at h
        · injection h with h; subst h; decide
        · cases h
  | 6, h =>
    simp only [tellS, letters] at h
    split at h
    · cases h
    · split at h
      · injection h with h; subst h; exact ht
      · cases h
  | n + 7, h => cases h
theorem tell_lenK (o : Cm) (ho : o.Ok) (s : Nat) (ht : s = 6 → o.text.length ≤ 200000) (t : List UInt8) (h : tellS o s = some t) : t.length ≤ 200000 := by
  by_cases e : s = 6
  · exact tell_len o ho (ht e) s t h
  · refine tell_len ⟨o.kind, o.loan, o.amount, o.rate, o.count, o.days, []⟩ ⟨ho.1, ho.2, ho.3, ho.4, ho.5, ho.6⟩ (by simp) s t ?_
    match s, e, h with
    | 0, _, h => exact h
    | 1, _, h => exact h
    | 2, _, h => exact h
    | 3, _, h => exact h
    | 4, _, h => exact h
    | 5, _, h => exact h
    | 6, e, _ => exact absurd rfl e
    | _ + 7, _, h => exact h
theorem slot6 : ∀ k, k < 22 → 6 ∈ slotN k → k = 10 := by decide
end ScF
end Go.Proofs.YtkjnklagjhhhkaaGreatDoor
