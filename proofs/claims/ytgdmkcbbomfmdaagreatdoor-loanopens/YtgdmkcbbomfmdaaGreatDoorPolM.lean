/-
  Ours: a policy as data: seventeen numbers and the holidays; whether they may be: pure.
-/
import Derived.Test.YtgdmkcbbomfmdaaGreatDoorLedOwn
namespace Go.Proofs.YtgdmkcbbomfmdaaGreatDoor
namespace PolM
open LedM

/-- From where, and to where, the number of the field k (from 0) may be. -/
def frm (l : List Int) (k : Nat) : Int :=
  match k with
  | 0 => 1
  | 2 => l.getD 1 0 + 1
  | 3 => 1
  | 6 => l.getD 5 0
  | 10 => 1
  | 14 => 1
  | 15 => l.getD 14 0
  | _ => 0
def tov (k : Nat) : Int := [3652059, 30, 365, 365, 10000, 1000000000, 1000000000, 1000000000, 1000000000, 8, 60, 4, 5, 3, 64, 64, 1000].getD k 0
def fld (l : List Int) (k : Nat) : Bool := decide (frm l k ≤ l.getD k 0 ∧ l.getD k 0 ≤ tov k)
def ris (b : Int) : List Int → Bool
  | [] => true
  | d :: r => decide (b < d ∧ d ≤ 3652059) && ris d r
def hol (hs : List Int) : Bool := decide (hs.length ≤ 64) && ris 0 hs
def may (l hs : List Int) (k : Nat) : Bool := if k < 17 then fld l k else hol hs
def chkA (l hs : List Int) : Nat → Nat → Nat
  | 0, _ => 0
  | f + 1, k => if may l hs k then chkA l hs f (k + 1) else k + 1
/-- The first field that may not be, from 1; else 0. -/
def chk (l hs : List Int) : Nat := chkA l hs 18 0
def ev (n : Nat) : Int := if n = 0 then 0 else 120
def good (l hs : List Int) : Bool := decide (chk l hs = 0)

theorem chkA_ok (l hs : List Int) : ∀ (f k : Nat), (∀ j, k ≤ j → j < k + f → may l hs j = true) → chkA l hs f k = 0
  | 0, _, _ => rfl
  | f + 1, k, h => by
    rw [chkA, if_pos (h k (Nat.le_refl _) (by omega))]
    exact chkA_ok l hs f (k + 1) fun j h1 h2 => h j (by omega) (by omega)
theorem chkA_stop (l hs : List Int) : ∀ (f k n : Nat), k ≤ n → n < k + f → (∀ j, k ≤ j → j < n → may l hs j = true) → may l hs n = false → chkA l hs f k = n + 1
  | 0, k, n, h1, h2, _, _ => by omega
  | f + 1, k, n, h1, h2, h3, h4 => by
    by_cases e : k = n
    · subst e; rw [chkA, h4]; rfl
    · rw [chkA, if_pos (h3 k (Nat.le_refl _) (by omega))]
      exact chkA_stop l hs f (k + 1) n (by omega) (by omega) (fun j a b => h3 j (by omega) b) h4
theorem chk_ok {l hs : List Int} (h : ∀ j, j < 18 → may l hs j = true) : chk l hs = 0 := chkA_ok l hs 18 0 fun j _ hj => h j (by omega)
theorem chk_stop {l hs : List Int} {n : Nat} (hn : n < 18) (h : ∀ j, j < n → may l hs j = true) (h' : may l hs n = false) : chk l hs = n + 1 :=
  chkA_stop l hs 18 0 n (by omega) (by omega) (fun j _ hj => h j hj) h'
theorem first_bad (l hs : List Int) : ∀ m, (∀ j, j < m → may l hs j = true) ∨ ∃ n, n < m ∧ (∀ j, j < n → may l hs j = true) ∧ may l hs n = false
  | 0 => .inl fun j hj => by omega
  | m + 1 => by
    rcases first_bad l hs m with h | ⟨n, hn, h1, h2⟩
    · cases e : may l hs m
      · exact .inr ⟨m, by omega, h, e⟩
      · exact .inl fun j hj => by
          by_cases e' : j = m
          · subst e'; exact e
          · exact h j (by omega)
    · exact .inr ⟨n, by omega, h1, h2⟩
theorem chk_cases (l hs : List Int) : (chk l hs = 0 ∧ ∀ j, j < 18 → may l hs j = true) ∨ ∃ n, n < 18 ∧ chk l hs = n + 1 ∧ (∀ j, j < n → may l hs j = true) ∧ may l hs n = false := by
  rcases first_bad l hs 18 with h | ⟨n, hn, h1, h2⟩
  · exact .inl ⟨chk_ok h, h⟩
  · exact .inr ⟨n, hn, chk_stop hn h1 h2, h1, h2⟩
theorem good_may {l hs : List Int} (h : good l hs = true) (j : Nat) (hj : j < 18) : may l hs j = true := by
  rcases chk_cases l hs with ⟨_, h'⟩ | ⟨n, _, e, _⟩
  · exact h' j hj
  · simp [good, e] at h
theorem good_fld {l hs : List Int} (h : good l hs = true) (k : Nat) (hk : k < 17) : frm l k ≤ l.getD k 0 ∧ l.getD k 0 ≤ tov k := by
  have := good_may h k (by omega)
  rw [may, if_pos hk, fld] at this
  exact of_decide_eq_true this
theorem good_of {l hs : List Int} (h : ∀ j, j < 18 → may l hs j = true) : good l hs = true := decide_eq_true (chk_ok h)
theorem ris_all : ∀ (hs : List Int) (b : Int), ris b hs = true → ∀ k, k < hs.length → (if k = 0 then b else hs.getD (k - 1) 0) < hs.getD k 0 ∧ hs.getD k 0 ≤ 3652059
  | d :: r, b, h, 0, _ => by simp [ris] at h; simpa using h.1
  | d :: r, b, h, k + 1, hk => by
    simp [ris] at h
    have := ris_all r d h.2 k (by simpa using hk)
    by_cases e : k = 0
    · subst e; simpa using this
    · obtain ⟨m, rfl⟩ : ∃ m, k = m + 1 := ⟨k - 1, by omega⟩
      simpa using this
theorem ris_of : ∀ (hs : List Int) (b : Int), (∀ k, k < hs.length → (if k = 0 then b else hs.getD (k - 1) 0) < hs.getD k 0 ∧ hs.getD k 0 ≤ 3652059) → ris b hs = true
  | [], _, _ => rfl
  | d :: r, b, h => by
    have h0 := h 0 (by simp)
    simp at h0
    rw [ris, decide_eq_true h0, Bool.true_and]
    refine ris_of r d fun k hk => ?_
    have := h (k + 1) (by simpa using hk)
    by_cases e : k = 0
    · subst e; simpa using this
    · obtain ⟨m, rfl⟩ : ∃ m, k = m + 1 := ⟨k - 1, by omega⟩
      simpa using this
theorem ris_bad {hs : List Int} {b : Int} (k : Nat) (hk : k < hs.length) (h : ¬ ((if k = 0 then b else hs.getD (k - 1) 0) < hs.getD k 0 ∧ hs.getD k 0 ≤ 3652059)) : ris b hs = false := by
  cases e : ris b hs
  · rfl
  · exact absurd (ris_all hs b e k hk) h
end PolM
end Go.Proofs.YtgdmkcbbomfmdaaGreatDoor
