/-
  Ours: pouring in an order, and twice, as numbers.
-/
import Derived.Test.YtplebplpachgiaaDoorWatAlM
namespace Go.Proofs.YtplebplpachgiaaDoor
open Go.RowKit LedM WatM

namespace WatM
abbrev p0 (x a : Int) : Int := min x a
abbrev l1 (x a : Int) : Int := a - p0 x a
abbrev p1 (x y a : Int) : Int := min y (l1 x a)
abbrev l2 (x y a : Int) : Int := l1 x a - p1 x y a
abbrev p2 (x y z a : Int) : Int := min z (l2 x y a)
abbrev l3 (x y z a : Int) : Int := l2 x y a - p2 x y z a
theorem pd_min (n : Nat) (f i p a : Int) (j : Nat) : pd n f i p a j = min (dbA n f i p j) (lf n f i p a j) := by unfold pd; rw [Int.min_def]
theorem lf_succ (n : Nat) (f i p a : Int) (j : Nat) : lf n f i p a (j + 1) = lf n f i p a j - pd n f i p a j := by
  rw [pd_min]
  show (if dbA n f i p j ≤ lf n f i p a j then lf n f i p a j - dbA n f i p j else 0) = _
  split <;> omega
theorem pd_0 (n : Nat) (f i p a : Int) : pd n f i p a 0 = p0 (dbA n f i p 0) a := pd_min n f i p a 0
theorem lf_1 (n : Nat) (f i p a : Int) : lf n f i p a 1 = l1 (dbA n f i p 0) a := by rw [lf_succ, pd_0]; rfl
theorem pd_1 (n : Nat) (f i p a : Int) : pd n f i p a 1 = p1 (dbA n f i p 0) (dbA n f i p 1) a := by rw [pd_min, lf_1]
theorem lf_2 (n : Nat) (f i p a : Int) : lf n f i p a 2 = l2 (dbA n f i p 0) (dbA n f i p 1) a := by rw [lf_succ, pd_1, lf_1]
theorem pd_2 (n : Nat) (f i p a : Int) : pd n f i p a 2 = p2 (dbA n f i p 0) (dbA n f i p 1) (dbA n f i p 2) a := by rw [pd_min, lf_2]
theorem lf_3 (n : Nat) (f i p a : Int) : lf n f i p a 3 = l3 (dbA n f i p 0) (dbA n f i p 1) (dbA n f i p 2) a := by rw [lf_succ, pd_2, lf_2]
/-- The six orders' answers. -/
theorem alG_0 (f i p a : Int) : alG 0 f i p a = [p0 f a, p1 f i a, p2 f i p a, l3 f i p a, 0] := by
  show [pd 0 f i p a 0, pd 0 f i p a 1, pd 0 f i p a 2, lf 0 f i p a 3, 0] = _
  rw [pd_0, pd_1, pd_2, lf_3]; rfl
theorem alG_1 (f i p a : Int) : alG 1 f i p a = [p0 f a, p2 f p i a, p1 f p a, l3 f p i a, 0] := by
  show [pd 1 f i p a 0, pd 1 f i p a 2, pd 1 f i p a 1, lf 1 f i p a 3, 0] = _
  rw [pd_0, pd_1, pd_2, lf_3]; rfl
theorem alG_2 (f i p a : Int) : alG 2 f i p a = [p1 i f a, p0 i a, p2 i f p a, l3 i f p a, 0] := by
  show [pd 2 f i p a 1, pd 2 f i p a 0, pd 2 f i p a 2, lf 2 f i p a 3, 0] = _
  rw [pd_0, pd_1, pd_2, lf_3]; rfl
theorem alG_3 (f i p a : Int) : alG 3 f i p a = [p2 i p f a, p0 i a, p1 i p a, l3 i p f a, 0] := by
  show [pd 3 f i p a 2, pd 3 f i p a 0, pd 3 f i p a 1, lf 3 f i p a 3, 0] = _
  rw [pd_0, pd_1, pd_2, lf_3]; rfl
theorem alG_4 (f i p a : Int) : alG 4 f i p a = [p1 p f a, p2 p f i a, p0 p a, l3 p f i a, 0] := by
  show [pd 4 f i p a 1, pd 4 f i p a 2, pd 4 f i p a 0, lf 4 f i p a 3, 0] = _
  rw [pd_0, pd_1, pd_2, lf_3]; rfl
theorem alG_5 (f i p a : Int) : alG 5 f i p a = [p2 p i f a, p1 p i a, p0 p a, l3 p i f a, 0] := by
  show [pd 5 f i p a 2, pd 5 f i p a 1, pd 5 f i p a 0, lf 5 f i p a 3, 0] = _
  rw [pd_0, pd_1, pd_2, lf_3]; rfl
theorem fits3 {x y z a : Int} (hx : 0 ≤ x) (hy : 0 ≤ y) (hz : 0 ≤ z) (ha : 0 ≤ a) : 0 ≤ p0 x a ∧ p0 x a ≤ x ∧ 0 ≤ p1 x y a ∧ p1 x y a ≤ y ∧ 0 ≤ p2 x y z a ∧ p2 x y z a ≤ z ∧ 0 ≤ l3 x y z a ∧ p0 x a + p1 x y a + p2 x y z a + l3 x y z a = a := by
  have h1 : 0 ≤ p0 x a ∧ p0 x a ≤ x ∧ 0 ≤ l1 x a ∧ p0 x a + l1 x a = a := by simp only [l1, p0]; omega
  generalize hl : l1 x a = l at h1
  have h2 : 0 ≤ p1 x y a ∧ p1 x y a ≤ y ∧ 0 ≤ l2 x y a ∧ p1 x y a + l2 x y a = l := by
    unfold l2 p1
    rw [hl]
    omega
  generalize hm : l2 x y a = m at h2
  have h3 : 0 ≤ p2 x y z a ∧ p2 x y z a ≤ z ∧ 0 ≤ l3 x y z a ∧ p2 x y z a + l3 x y z a = m := by
    unfold l3 p2
    rw [hm]
    omega
  generalize p0 x a = q0 at *
  generalize p1 x y a = q1 at *
  generalize p2 x y z a = q2 at *
  generalize l3 x y z a = q3 at *
  omega
/-- What is known of an answer: no part is below nothing or above what is owed; they add up. -/
theorem alG_fits {n : Nat} {f i p a : Int} (hn : n < 6) (hf : 0 ≤ f) (hi : 0 ≤ i) (hp : 0 ≤ p) (ha : 1 ≤ a) :
    ∃ x y z u, alG n f i p a = [x, y, z, u, 0] ∧ 0 ≤ x ∧ x ≤ f ∧ 0 ≤ y ∧ y ≤ i ∧ 0 ≤ z ∧ z ≤ p ∧ 0 ≤ u ∧ x + y + z + u = a := by
  have : n = 0 ∨ n = 1 ∨ n = 2 ∨ n = 3 ∨ n = 4 ∨ n = 5 := by omega
  rcases this with rfl | rfl | rfl | rfl | rfl | rfl
  · have := fits3 (x := f) (y := i) (z := p) (a := a) hf hi hp (by omega)
    rw [alG_0]
    generalize p0 f a = q0 at *
    generalize p1 f i a = q1 at *
    generalize p2 f i p a = q2 at *
    generalize l3 f i p a = q3 at *
    exact ⟨_, _, _, _, rfl, by omega, by omega, by omega, by omega, by omega, by omega, by omega, by omega⟩
  · have := fits3 (x := f) (y := p) (z := i) (a := a) hf hp hi (by omega)
    rw [alG_1]
    generalize p0 f a = q0 at *
    generalize p1 f p a = q1 at *
    generalize p2 f p i a = q2 at *
    generalize l3 f p i a = q3 at *
    exact ⟨_, _, _, _, rfl, by omega, by omega, by omega, by omega, by omega, by omega, by omega, by omega⟩
  · have := fits3 (x := i) (y := f) (z := p) (a := a) hi hf hp (by omega)
    rw [alG_2]
    generalize p0 i a = q0 at *
    generalize p1 i f a = q1 at *
    generalize p2 i f p a = q2 at *
    generalize l3 i f p a = q3 at *
    exact ⟨_, _, _, _, rfl, by omega, by omega, by omega, by omega, by omega, by omega, by omega, by omega⟩
  · have := fits3 (x := i) (y := p) (z := f) (a := a) hi hp hf (by omega)
    rw [alG_3]
    generalize p0 i a = q0 at *
    generalize p1 i p a = q1 at *
    generalize p2 i p f a = q2 at *
    generalize l3 i p f a = q3 at *
    exact ⟨_, _, _, _, rfl, by omega, by omega, by omega, by omega, by omega, by omega, by omega, by omega⟩
  · have := fits3 (x := p) (y := f) (z := i) (a := a) hp hf hi (by omega)
    rw [alG_4]
    generalize p0 p a = q0 at *
    generalize p1 p f a = q1 at *
    generalize p2 p f i a = q2 at *
    generalize l3 p f i a = q3 at *
    exact ⟨_, _, _, _, rfl, by omega, by omega, by omega, by omega, by omega, by omega, by omega, by omega⟩
  · have := fits3 (x := p) (y := i) (z := f) (a := a) hp hi hf (by omega)
    rw [alG_5]
    generalize p0 p a = q0 at *
    generalize p1 p i a = q1 at *
    generalize p2 p i f a = q2 at *
    generalize l3 p i f a = q3 at *
    exact ⟨_, _, _, _, rfl, by omega, by omega, by omega, by omega, by omega, by omega, by omega, by omega⟩
theorem two0 (x a b : Int) (_ha : 0 ≤ a) (hb : 0 ≤ b) (_hx : 0 ≤ x) : p0 x a + p0 (x - p0 x a) b = p0 x (a + b) ∧ l1 x a + l1 (x - p0 x a) b = l1 x (a + b) ∧ 0 ≤ l1 x a ∧ 0 ≤ l1 (x - p0 x a) b := by
  simp only [l1, p0]
  omega
theorem two3 (x y z a b : Int) (ha : 0 ≤ a) (hb : 0 ≤ b) (hx : 0 ≤ x) (hy : 0 ≤ y) (hz : 0 ≤ z) :
    p0 x a + p0 (x - p0 x a) b = p0 x (a + b) ∧ p1 x y a + p1 (x - p0 x a) (y - p1 x y a) b = p1 x y (a + b) ∧ p2 x y z a + p2 (x - p0 x a) (y - p1 x y a) (z - p2 x y z a) b = p2 x y z (a + b) ∧ l3 x y z a + l3 (x - p0 x a) (y - p1 x y a) (z - p2 x y z a) b = l3 x y z (a + b) := by
  obtain ⟨h0, h1, k0, k1⟩ := two0 x a b ha hb hx
  obtain ⟨g0, g1, m0, m1⟩ := two0 y (l1 x a) (l1 (x - p0 x a) b) k0 k1 hy
  rw [h1] at g0 g1
  obtain ⟨e0, e1, _, _⟩ := two0 z (l2 x y a) (l2 (x - p0 x a) (y - p1 x y a) b) m0 m1 hz
  have g1' : l2 x y a + l2 (x - p0 x a) (y - p1 x y a) b = l2 x y (a + b) := g1
  rw [g1'] at e0 e1
  exact ⟨h0, g0, e0, e1⟩
/-- Two payments, one behind the other. -/
theorem alG_two {n : Nat} {f i p a b x y z u x' y' z' u' : Int} (hn : n < 6) (hf : 0 ≤ f) (hi : 0 ≤ i) (hp : 0 ≤ p) (ha : 1 ≤ a) (hb : 1 ≤ b) (e : alG n f i p a = [x, y, z, u, 0]) (e' : alG n (f - x) (i - y) (p - z) b = [x', y', z', u', 0]) :
    alG n f i p (a + b) = [x + x', y + y', z + z', u + u', 0] := by
  have : n = 0 ∨ n = 1 ∨ n = 2 ∨ n = 3 ∨ n = 4 ∨ n = 5 := by omega
  rcases this with rfl | rfl | rfl | rfl | rfl | rfl
  · rw [alG_0] at e e' ⊢
    injection e with q0 e; injection e with q1 e; injection e with q2 e; injection e with q3 _
    injection e' with r0 e'; injection e' with r1 e'; injection e' with r2 e'; injection e' with r3 _
    subst q0 q1 q2 q3 r0 r1 r2 r3
    obtain ⟨t0, t1, t2, t3⟩ := two3 f i p a b (by omega) (by omega) hf hi hp
    rw [t0, t1, t2, t3]
  · rw [alG_1] at e e' ⊢
    injection e with q0 e; injection e with q1 e; injection e with q2 e; injection e with q3 _
    injection e' with r0 e'; injection e' with r1 e'; injection e' with r2 e'; injection e' with r3 _
    subst q0 q1 q2 q3 r0 r1 r2 r3
    obtain ⟨t0, t1, t2, t3⟩ := two3 f p i a b (by omega) (by omega) hf hp hi
    rw [t0, t1, t2, t3]
  · rw [alG_2] at e e' ⊢
    injection e with q0 e; injection e with q1 e; injection e with q2 e; injection e with q3 _
    injection e' with r0 e'; injection e' with r1 e'; injection e' with r2 e'; injection e' with r3 _
    subst q0 q1 q2 q3 r0 r1 r2 r3
    obtain ⟨t0, t1, t2, t3⟩ := two3 i f p a b (by omega) (by omega) hi hf hp
    rw [t0, t1, t2, t3]
  · rw [alG_3] at e e' ⊢
    injection e with q0 e; injection e with q1 e; injection e with q2 e; injection e with q3 _
    injection e' with r0 e'; injection e' with r1 e'; injection e' with r2 e'; injection e' with r3 _
    subst q0 q1 q2 q3 r0 r1 r2 r3
    obtain ⟨t0, t1, t2, t3⟩ := two3 i p f a b (by omega) (by omega) hi hp hf
    rw [t0, t1, t2, t3]
  · rw [alG_4] at e e' ⊢
    injection e with q0 e; injection e with q1 e; injection e with q2 e; injection e with q3 _
    injection e' with r0 e'; injection e' with r1 e'; injection e' with r2 e'; injection e' with r3 _
    subst q0 q1 q2 q3 r0 r1 r2 r3
    obtain ⟨t0, t1, t2, t3⟩ := two3 p f i a b (by omega) (by omega) hp hf hi
    rw [t0, t1, t2, t3]
  · rw [alG_5] at e e' ⊢
    injection e with q0 e; injection e with q1 e; injection e with q2 e; injection e with q3 _
    injection e' with r0 e'; injection e' with r1 e'; injection e' with r2 e'; injection e' with r3 _
    subst q0 q1 q2 q3 r0 r1 r2 r3
    obtain ⟨t0, t1, t2, t3⟩ := two3 p i f a b (by omega) (by omega) hp hi hf
    rw [t0, t1, t2, t3]
def payB (o f i p a : Int) : Bool := decide ((0 ≤ o ∧ o < 6) ∧ 0 ≤ f ∧ 0 ≤ i ∧ 0 ≤ p ∧ 1 ≤ a)
end WatM
end Go.Proofs.YtplebplpachgiaaDoor
