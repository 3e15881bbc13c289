/-
  Ours: the range and the sides of a book; what is wrong with entries.
-/
import Derived.Test.YthepahhidmihmaaLedSums
import Derived.Deep.QuietTactic
import Derived.BigQuiet
namespace Go.Proofs.Ythepahhidmihmaa
open Go.RowKit LedM

namespace LedM
def rangeB (l : List Int) : Bool := (List.range 12).all fun j => l.getD j 0 != -9223372036854775808
def ownB (j : Nat) (x : Int) : Bool := x == 0 || (decide (0 < x) == isD (j : Int))
def sidesB (l : List Int) : Bool := (List.range 12).all fun j => ownB j (l.getD j 0)
theorem all_true {p : Nat → Bool} (h : ∀ j, j < 12 → p j = true) : (List.range 12).all p = true := by rw [List.all_eq_true]; intro j hj; exact h j (by simpa using hj)
theorem all_at {p : Nat → Bool} (h : (List.range 12).all p = true) (j : Nat) (hj : j < 12) : p j = true := by rw [List.all_eq_true] at h; exact h j (by simpa using hj)
theorem all_false {p : Nat → Bool} (j : Nat) (hj : j < 12) (h : p j = false) : (List.range 12).all p = false := by
  cases e : (List.range 12).all p
  · rfl
  · rw [all_at e j hj] at h; cases h
structure Ent where
  d : Int
  c : Int
  a : Int
def entL (e : Ent) : List Value := [.int .i64 e.d, .int .i64 e.c, .int .i64 e.a]
def EntOk (e : Ent) : Prop := i64 e.d ∧ i64 e.c ∧ i64 e.a
/-- What is wrong with an entry; with the first of a list that is bad at all. -/
def entE (e : Ent) : Int := if !isA e.d || !isA e.c || e.d == e.c then 80 else if e.a < 1 then 4 else 0
def faultE : List Ent → Int
  | [] => 0
  | e :: r => if entE e = 0 then faultE r else entE e
end LedM

end Go.Proofs.Ythepahhidmihmaa
