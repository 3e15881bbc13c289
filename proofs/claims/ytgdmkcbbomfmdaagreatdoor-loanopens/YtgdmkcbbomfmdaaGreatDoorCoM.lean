/-
  Ours: a case and an event as data, the seven rules and Step: pure, with the wraps that the machine's numbers have.
-/
import Derived.Test.YtgdmkcbbomfmdaaGreatDoorLedOwn
namespace Go.Proofs.YtgdmkcbbomfmdaaGreatDoor
namespace PolM
open LedM

/-- From where, and to where, the number of the field k (from 0) may be. -/
def frm (l : List Int) (k : Nat) : Int :=
  match k with
  | 0 => 1
  | 2 => l.getD 1 0 + 1
  | 3 => 1
  | 6 => l.getD 5 0
  | 10 => 1
  | 14 => 1
  | 15 => l.getD 14 0
  | _ => 0
def tov (k : Nat) : Int := [3652059, 30, 365, 365, 10000, 1000000000, 1000000000, 1000000000, 1000000000, 8, 60, 4, 5, 3, 64, 64, 1000].getD k 0
def fld (l : List Int) (k : Nat) : Bool := decide (frm l k ≤ l.getD k 0 ∧ l.getD k 0 ≤ tov k)
def ris (b : Int) : List Int → Bool
  | [] => true
  | d :: r => decide (b < d ∧ d ≤ 3652059) && ris d r
def hol (hs : List Int) : Bool := decide (hs.length ≤ 64) && ris 0 hs
def may (l hs : List Int) (k : Nat) : Bool := if k < 17 then fld l k else hol hs
def chkA (l hs : List Int) : Nat → Nat → Nat
  | 0, _ => 0
  | f + 1, k => if may l hs k then chkA l hs f (k + 1) else k + 1
/-- The first field that may not be, from 1; else 0. -/
def chk (l hs : List Int) : Nat := chkA l hs 18 0
def ev (n : Nat) : Int := if n = 0 then 0 else 120
def good (l hs : List Int) : Bool := decide (chk l hs = 0)

theorem chkA_ok (l hs : List Int) : ∀ (f k : Nat), (∀ j, k ≤ j → j < k + f → may l hs j = true) → chkA l hs f k = 0
  | 0, _, _ => rfl
  | f + 1, k, h => by
    rw [chkA, if_pos (h k (Nat.le_refl _) (by omega))]
    exact chkA_ok l hs f (k + 1) fun j h1 h2 => h j (by omega) (by omega)
theorem chkA_stop (l hs : List Int) : ∀ (f k n : Nat), k ≤ n → n < k + f → (∀ j, k ≤ j → j < n → may l hs j = true) → may l hs n = false → chkA l hs f k = n + 1
  | 0, k, n, h1, h2, _, _ => by omega
  | f + 1, k, n, h1, h2, h3, h4 => by
    by_cases e : k = n
    · subst e; rw [chkA, h4]; rfl
    · rw [chkA, if_pos (h3 k (Nat.le_refl _) (by omega))]
      exact chkA_stop l hs f (k + 1) n (by omega) (by omega) (fun j a b => h3 j (by omega) b) h4
theorem chk_ok {l hs : List Int} (h : ∀ j, j < 18 → may l hs j = true) : chk l hs = 0 := chkA_ok l hs 18 0 fun j _ hj => h j (by omega)
theorem chk_stop {l hs : List Int} {n : Nat} (hn : n < 18) (h : ∀ j, j < n → may l hs j = true) (h' : may l hs n = false) : chk l hs = n + 1 :=
  chkA_stop l hs 18 0 n (by omega) (by omega) (fun j _ hj => h j hj) h'
theorem first_bad (l hs : List Int) : ∀ m, (∀ j, j < m → may l hs j = true) ∨ ∃ n, n < m ∧ (∀ j, j < n → may l hs j = true) ∧ may l hs n = false
  | 0 => .inl fun j hj => by omega
  | m + 1 => by
    rcases first_bad l hs m with h | ⟨n, hn, h1, h2⟩
    · cases e : may l hs m
      · exact .inr ⟨m, by omega, h, e⟩
      · exact .inl fun j hj => by
          by_cases e' : j = m
          · subst e'; exact e
          · exact h j (by omega)
    · exact .inr ⟨n, by omega, h1, h2⟩
theorem chk_cases (l hs : List Int) : (chk l hs = 0 ∧ ∀ j, j < 18 → may l hs j = true) ∨ ∃ n, n < 18 ∧ chk l hs = n + 1 ∧ (∀ j, j < n → may l hs j = true) ∧ may l hs n = false := by
  rcases first_bad l hs 18 with h | ⟨n, hn, h1, h2⟩
  · exact .inl ⟨chk_ok h, h⟩
  · exact .inr ⟨n, hn, chk_stop hn h1 h2, h1, h2⟩
theorem good_may {l hs : List Int} (h : good l hs = true) (j : Nat) (hj : j < 18) : may l hs j = true := by
  rcases chk_cases l hs with ⟨_, h'⟩ | ⟨n, _, e, _⟩
  · exact h' j hj
  · simp [good, e] at h
theorem good_fld {l hs : List Int} (h : good l hs = true) (k : Nat) (hk : k < 17) : frm l k ≤ l.getD k 0 ∧ l.getD k 0 ≤ tov k := by
  have := good_may h k (by omega)
  rw [may, if_pos hk, fld] at this
  exact of_decide_eq_true this
theorem good_of {l hs : List Int} (h : ∀ j, j < 18 → may l hs j = true) : good l hs = true := decide_eq_true (chk_ok h)
theorem ris_all : ∀ (hs : List Int) (b : Int), ris b hs = true → ∀ k, k < hs.length → (if k = 0 then b else hs.getD (k - 1) 0) < hs.getD k 0 ∧ hs.getD k 0 ≤ 3652059
  | d :: r, b, h, 0, _ => by simp [ris] at h; simpa using h.1
  | d :: r, b, h, k + 1, hk => by
    simp [ris] at h
    have := ris_all r d h.2 k (by simpa using hk)
    by_cases e : k = 0
    · subst e; simpa using this
    · obtain ⟨m, rfl⟩ : ∃ m, k = m + 1 := ⟨k - 1, by omega⟩
      simpa using this
theorem ris_of : ∀ (hs : List Int) (b : Int), (∀ k, k < hs.length → (if k = 0 then b else hs.getD (k - 1) 0) < hs.getD k 0 ∧ hs.getD k 0 ≤ 3652059) → ris b hs = true
  | [], _, _ => rfl
  | d :: r, b, h => by
    have h0 := h 0 (by simp)
    simp at h0
    rw [ris, decide_eq_true h0, Bool.true_and]
    refine ris_of r d fun k hk => ?_
    have := h (k + 1) (by simpa using hk)
    by_cases e : k = 0
    · subst e; simpa using this
    · obtain ⟨m, rfl⟩ : ∃ m, k = m + 1 := ⟨k - 1, by omega⟩
      simpa using this
theorem ris_bad {hs : List Int} {b : Int} (k : Nat) (hk : k < hs.length) (h : ¬ ((if k = 0 then b else hs.getD (k - 1) 0) < hs.getD k 0 ∧ hs.getD k 0 ≤ 3652059)) : ris b hs = false := by
  cases e : ris b hs
  · rfl
  · exact absurd (ris_all hs b e k hk) h
end PolM
end Go.Proofs.YtgdmkcbbomfmdaaGreatDoor

namespace Go.Proofs.YtgdmkcbbomfmdaaGreatDoor
namespace CoM
open LedM PolM Go.RowKit

structure Cs where
  st : Int
  su : Bool
  cy : Int
  si : Int
  dl : Int
  pr : Int
  pd : Int
  pa : Int
  pg : Int
  ke : Int
  br : Int
  cu : Int
  re : Int
  cf : Int
  lf : Int
structure Ev where
  k : Int
  t : Int
  d : Int
  a : Int

def fresh : Cs := ⟨1, false, 0, 0, 0, 0, 0, 0, 0, 0, 0, 0, 0, 0, 0⟩
def opn (c : Cs) : Bool := decide (c.st = 3 ∨ c.st = 4 ∨ c.st = 5)
def ovr (c : Cs) : Bool := decide (c.st = 8 ∨ c.st = 9)
def isD (t : Int) : Bool := decide (1 ≤ t ∧ t ≤ 3652059)
def clr (c : Cs) : Cs := { c with pd := 0, pa := 0, pg := 0 }
def endC (st : Int) (c : Cs) : Cs := { c with pd := 0, pa := 0, pg := 0, su := false, si := 0, dl := 0, pr := 0, cf := 0, st := st }
def curd (c : Cs) : Cs := endC 6 { c with cu := wrap64 (c.cu + 1) }
def endP (c : Cs) : Cs := { c with pd := 0, pa := 0, pg := 0, st := if c.su then 5 else 3 }
def brk (c : Cs) : Cs := endP { c with br := wrap64 (c.br + 1) }
def kept (c : Cs) : Cs := endP { c with ke := wrap64 (c.ke + 1) }
def opC (co t : Int) (c : Cs) : Cs := { c with cy := wrap64 (c.cy + 1), si := t, dl := wrap64 (t + co), pr := 0, cf := 0, st := 3 }
def susp (c : Cs) : Cs := { c with su := true, st := if c.st = 3 then 5 else c.st }

/-- A case and the actions so far. -/
abbrev Mc : Type := Cs × List Int
def lok (gr co : Int) (e : Ev) (x : Mc) : Mc :=
  if gr < e.d then (opC co e.t x.1, x.2 ++ [2]) else if 0 < e.d then ({ x.1 with st := 2 }, x.2) else if x.1.st = 2 then ({ x.1 with st := 1 }, x.2) else x
def age1 (e : Ev) (x : Mc) : Mc := if x.1.st = 4 ∧ x.1.pd < e.t then (brk x.1, x.2 ++ [1]) else x
def age3 (gr co : Int) (e : Ev) (x : Mc) : Mc := if opn x.1 then x else lok gr co e x
def age4 (na : Int) (e : Ev) (x : Mc) : Mc := if opn x.1 = true ∧ x.1.su = false ∧ na ≤ e.d then (susp x.1, x.2 ++ [3]) else x
def age5 (e : Ev) (x : Mc) : Mc := if opn x.1 = true ∧ x.1.dl ≤ e.t then (endC 8 x.1, x.2 ++ [4]) else x
def ageM (l : List Int) (e : Ev) (x : Mc) : Mc :=
  if opn (age1 e x).1 = true ∧ e.d = 0 then (curd (age1 e x).1, (age1 e x).2 ++ [6])
  else age5 e (age4 (l.getD 2 0) e (age3 (l.getD 1 0) (l.getD 3 0) e (age1 e x)))
def pay1 (a : Int) (x : Mc) : Mc :=
  if x.1.st = 4 then (if a < wrap64 (x.1.pa - x.1.pg) then ({ x.1 with pg := wrap64 (x.1.pg + a) }, x.2) else (kept x.1, x.2 ++ [5])) else x
def paidM (e : Ev) (x : Mc) : Mc :=
  if opn (pay1 e.a x).1 = true ∧ e.d = 0 then (curd (pay1 e.a x).1, (pay1 e.a x).2 ++ [6])
  else if (pay1 e.a x).1.st = 2 ∧ e.d = 0 then ({ (pay1 e.a x).1 with st := 1 }, (pay1 e.a x).2) else pay1 e.a x
def retM (e : Ev) (x : Mc) : Mc := if x.1.st = 4 then ({ x.1 with pg := wrap64 (x.1.pg - (if x.1.pg < e.a then x.1.pg else e.a)) }, x.2) else x
def proM (e : Ev) (x : Mc) : Mc := ({ x.1 with pr := wrap64 (x.1.pr + 1), pd := wrap64 (e.t + e.d), pa := e.a, pg := 0, dl := wrap64 (x.1.dl + e.d), st := 4 }, x.2)
def resM (x : Mc) : Mc := (endC 7 { x.1 with re := wrap64 (x.1.re + 1) }, x.2 ++ [7])
def feeM (e : Ev) (x : Mc) : Mc := ({ x.1 with cf := wrap64 (x.1.cf + e.a), lf := wrap64 (x.1.lf + e.a) }, x.2)
def shut1 (x : Mc) : Mc := if opn x.1 then (curd x.1, x.2 ++ [6]) else x
def shutM (x : Mc) : Mc := ({ (shut1 x).1 with st := 9 }, (shut1 x).2 ++ [8])

/-- What a rule answers: the error, and where it is 0 the case and the actions. -/
abbrev An : Type := Int × Mc
def ageR (l : List Int) (e : Ev) (x : Mc) : An := if isD e.t = false ∨ e.d < 0 then (2, x) else if ovr x.1 then (130, x) else (0, ageM l e x)
def paidR (e : Ev) (x : Mc) : An := if e.a < 1 then (4, x) else if e.d < 0 then (2, x) else if ovr x.1 then (130, x) else (0, paidM e x)
def retR (e : Ev) (x : Mc) : An := if e.a < 1 then (4, x) else if ovr x.1 then (130, x) else (0, retM e x)
def proR (l : List Int) (e : Ev) (x : Mc) : An :=
  if isD e.t = false ∨ e.d < 1 ∨ l.getD 10 0 < e.d then (2, x) else if e.a < 1 then (4, x) else if ovr x.1 then (130, x) else if opn x.1 = false then (131, x)
  else if x.1.st = 4 then (132, x) else if l.getD 9 0 ≤ x.1.pr then (133, x) else (0, proM e x)
def resR (l : List Int) (x : Mc) : An := if ovr x.1 then (130, x) else if opn x.1 = false then (131, x) else if l.getD 11 0 ≤ x.1.re then (133, x) else (0, resM x)
def feeR (l : List Int) (e : Ev) (x : Mc) : An :=
  if e.a < 1 then (4, x) else if ovr x.1 then (130, x) else if opn x.1 = false then (131, x) else if x.1.st = 4 then (132, x)
  else if wrap64 (l.getD 7 0 - x.1.cf) < e.a ∨ wrap64 (l.getD 8 0 - x.1.lf) < e.a then (133, x) else (0, feeM e x)
def shutR (x : Mc) : An := if ovr x.1 then (130, x) else (0, shutM x)
def ruleR (l : List Int) (e : Ev) (x : Mc) : An :=
  if e.k = 1 then ageR l e x else if e.k = 2 then paidR e x else if e.k = 3 then retR e x else if e.k = 4 then proR l e x
  else if e.k = 5 then resR l x else if e.k = 6 then feeR l e x else if e.k = 7 then shutR x else (2, x)
def stepM (l hs : List Int) (c : Cs) (e : Ev) : An := if good l hs then ruleR l e (c, []) else (120, (c, []))
/-- What Step answers: with an error the case as it was, and no actions. -/
def stepA (l hs : List Int) (c : Cs) (e : Ev) : An := if (stepM l hs c e).1 = 0 then stepM l hs c e else ((stepM l hs c e).1, (c, []))
end CoM

open CoM
def csL (c : Cs) : List Value := [.int .i64 c.st, .bool c.su, .int .i64 c.cy, .int .i64 c.si, .int .i64 c.dl, .int .i64 c.pr, .int .i64 c.pd, .int .i64 c.pa, .int .i64 c.pg, .int .i64 c.ke, .int .i64 c.br, .int .i64 c.cu, .int .i64 c.re, .int .i64 c.cf, .int .i64 c.lf]
abbrev csV (c : Cs) : Value := .agg (csL c).toArray
def evL (e : Ev) : List Value := [.int .i64 e.k, .int .i64 e.t, .int .i64 e.d, .int .i64 e.a]
abbrev evV (e : Ev) : Value := .agg (evL e).toArray
theorem csL_len (c : Cs) : (csL c).length = 15 := rfl
theorem csL_one (c : Cs) : ∀ v ∈ csL c, v.oneCell' = true := fun v hv => by
  simp only [csL, List.mem_cons, List.not_mem_nil, or_false] at hv
  rcases hv with rfl | rfl | rfl | rfl | rfl | rfl | rfl | rfl | rfl | rfl | rfl | rfl | rfl | rfl | rfl <;> rfl
theorem evL_one (e : Ev) : ∀ v ∈ evL e, v.oneCell' = true := fun v hv => by
  simp only [evL, List.mem_cons, List.not_mem_nil, or_false] at hv
  rcases hv with rfl | rfl | rfl | rfl <;> rfl
end Go.Proofs.YtgdmkcbbomfmdaaGreatDoor
