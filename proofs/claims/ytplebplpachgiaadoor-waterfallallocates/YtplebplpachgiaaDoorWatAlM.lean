/-
  Ours: what each kind gets, as numbers.
-/
import Derived.Test.YtplebplpachgiaaDoorWatOrd
namespace Go.Proofs.YtplebplpachgiaaDoor
open Go.RowKit LedM WatM

namespace WatM
/-- What is owed, by account. -/
def dbL (f i p : Int) : List Int := [0, p, i, f, 0, 0, 0, 0, 0, 0, 0, 0]
abbrev z12 : List Int := [0, 0, 0, 0, 0, 0, 0, 0, 0, 0, 0, 0]
def dbA (n : Nat) (f i p : Int) (j : Nat) : Int := (dbL f i p).getD (kd n j) 0
theorem dbA_ok {n j : Nat} {f i p : Int} (hn : n < 6) (hj : j < 3) (hf : 0 ≤ f) (hi : 0 ≤ i) (hp : 0 ≤ p) (bf : f ≤ 9223372036854775807) (bi : i ≤ 9223372036854775807) (bp : p ≤ 9223372036854775807) : 0 ≤ dbA n f i p j ∧ dbA n f i p j ≤ 9223372036854775807 := by
  unfold dbA
  rcases kd_all n hn j hj with e | e | e <;> rw [e] <;> simp [dbL] <;> omega
def lf (n : Nat) (f i p a : Int) : Nat → Int
  | 0 => a
  | j + 1 => if dbA n f i p j ≤ lf n f i p a j then lf n f i p a j - dbA n f i p j else 0
def pd (n : Nat) (f i p a : Int) (j : Nat) : Int := if dbA n f i p j ≤ lf n f i p a j then dbA n f i p j else lf n f i p a j
def pdL (n : Nat) (f i p a : Int) : Nat → List Int
  | 0 => z12
  | j + 1 => (pdL n f i p a j).set (kd n j) (pd n f i p a j)
theorem pdL_len (n : Nat) (f i p a : Int) : ∀ j, (pdL n f i p a j).length = 12
  | 0 => rfl
  | j + 1 => by unfold pdL; rw [List.length_set]; exact pdL_len n f i p a j
theorem lf_ok {n : Nat} {f i p a : Int} (hn : n < 6) (hf : 0 ≤ f) (hi : 0 ≤ i) (hp : 0 ≤ p) (bf : f ≤ 9223372036854775807) (bi : i ≤ 9223372036854775807) (bp : p ≤ 9223372036854775807) (ha : 1 ≤ a) (ba : a ≤ 9223372036854775807) : ∀ j, j ≤ 3 → 0 ≤ lf n f i p a j ∧ lf n f i p a j ≤ 9223372036854775807
  | 0, _ => by unfold lf; omega
  | j + 1, h => by
    have := lf_ok hn hf hi hp bf bi bp ha ba j (by omega)
    have := dbA_ok (j := j) hn (by omega) hf hi hp bf bi bp
    unfold lf; split <;> omega
/-- Allocate: the error and the parts. -/
def alE (o f i p a : Int) : Int := if ¬(0 ≤ o ∧ o < 6) ∨ f < 0 ∨ i < 0 ∨ p < 0 then 2 else if a < 1 then 4 else 0
def alG (n : Nat) (f i p a : Int) : List Int := [(pdL n f i p a 3).getD 3 0, (pdL n f i p a 3).getD 2 0, (pdL n f i p a 3).getD 1 0, lf n f i p a 3, 0]
def alP (o f i p a : Int) : List Int := if alE o f i p a = 0 then alG o.toNat f i p a else z5
theorem alE_two {o f i p a : Int} (h : ¬(0 ≤ o ∧ o < 6) ∨ f < 0 ∨ i < 0 ∨ p < 0) : alE o f i p a = 2 ∧ alP o f i p a = z5 := by
  have e : alE o f i p a = 2 := if_pos h
  exact ⟨e, by unfold alP; rw [e]; rfl⟩
theorem alE_four {o f i p a : Int} (h : ¬(¬(0 ≤ o ∧ o < 6) ∨ f < 0 ∨ i < 0 ∨ p < 0)) (h' : a < 1) : alE o f i p a = 4 ∧ alP o f i p a = z5 := by
  have e : alE o f i p a = 4 := by unfold alE; rw [if_neg h, if_pos h']
  exact ⟨e, by unfold alP; rw [e]; rfl⟩
theorem alE_ok {n : Nat} {f i p a : Int} (hn : n < 6) (hf : 0 ≤ f) (hi : 0 ≤ i) (hp : 0 ≤ p) (ha : 1 ≤ a) : alE (n : Int) f i p a = 0 ∧ alP (n : Int) f i p a = alG n f i p a := by
  have e : alE (n : Int) f i p a = 0 := by unfold alE; rw [if_neg (by omega), if_neg (by omega)]
  exact ⟨e, by unfold alP; rw [if_pos e]; simp⟩
theorem alP_five (o f i p a : Int) : ∃ x0 x1 x2 x3 x4, alP o f i p a = [x0, x1, x2, x3, x4] := by unfold alP alG z5; split <;> exact ⟨_, _, _, _, _, rfl⟩
end WatM
theorem infoO {a b c : Int} : (Tryd.prog.info? 23).map (·.size) = some (bkL [a, b, c]).length := by
  have : (Tryd.prog.info? 23).map (·.size) = some 3 := by kernel_rfl
  exact this
/-- What a call has of what is owed, in a box; of its answer, in another. -/
def AlS (w : World) (f i p : Int) (R : Nat) (r : List Int) (w' : World) : Prop := Blk w.heap.size 23 (bkL [f, i, p]) w' ∧ Blk R 29 (bkL r) w' ∧ Below w.heap.size w w' ∧ w.heap.size < R
theorem AlS.new (w : World) (f i p : Int) : AlS w f i p (w.heap.size + 1) z5 ((w.alloc (.cells (bkL [f, i, p]).toArray 23)).alloc z5o) :=
  ⟨(Blk.new _ _ w).old _, Blk.new2 _ (bkL z5) w _, (below_alloc w _).alloc (by simp) _, by omega⟩
theorem AlS.call {w w1 w2 : World} {f i p : Int} {R : Nat} {r : List Int} (h : AlS w f i p R r w1) (b : Below w1.heap.size w1 w2) : AlS w f i p R r w2 := ⟨h.1.below b, h.2.1.below b, below_trans h.2.2.1 b, h.2.2.2⟩
theorem AlS.alloc {w w1 : World} {f i p : Int} {R : Nat} {r : List Int} (h : AlS w f i p R r w1) (o : Obj) : AlS w f i p R r (w1.alloc o) := h.call (below_alloc w1 o)
theorem AlS.other {w w1 w2 : World} {f i p : Int} {R G : Nat} {r : List Int} (h : AlS w f i p R r w1) (g : w1.grownBy w2 (some G)) (hG : R < G) : AlS w f i p R r w2 :=
  ⟨h.1.grown g (by have := h.2.2.2; simp; omega), h.2.1.grown g (by simp; omega), h.2.2.1.grown g h.2.2.1.size (fun q e => by cases e; have := h.2.2.2; omega), h.2.2.2⟩
theorem AlS.done {w w1 w2 : World} {f i p : Int} {R : Nat} {r r' : List Int} (h : AlS w f i p R r w1) (g : w1.grownBy w2 (some R)) (n : Blk R 29 (bkL r') w2) : Blk R 29 (bkL r') w2 ∧ Below w.heap.size w w2 :=
  ⟨n, h.2.2.1.grown g h.2.2.1.size (fun q e => by cases e; have := h.2.2.2; omega)⟩
theorem AlS.cells {w w1 : World} {f i p : Int} {R : Nat} {r : List Int} (h : AlS w f i p R r w1) : w1.cell? ⟨w.heap.size, 0, none⟩ = some (.int .i64 f) ∧ w1.cell? ⟨w.heap.size, 1, none⟩ = some (.int .i64 i) ∧ w1.cell? ⟨w.heap.size, 2, none⟩ = some (.int .i64 p) := ⟨h.1.cell 0 _ rfl, h.1.cell 1 _ rfl, h.1.cell 2 _ rfl⟩
end Go.Proofs.YtplebplpachgiaaDoor
