/-
  Ours: two pairs of disks beside one another, and what was kept of answers.
-/
import Derived.Test.YtiefnomldfhhnaaDskPr3
import Derived.Test.YtiefnomldfhhnaaDskPr4
import Derived.Test.YtiefnomldfhhnaaDskPr5
import Derived.Test.YtiefnomldfhhnaaDskOr2
import Derived.Test.YtiefnomldfhhnaaDskLook
import Derived.Test.YtiefnomldfhhnaaDskPure
namespace Go.Proofs.Ytiefnomldfhhnaa
open Go.RowKit

/-- A pair's data. -/
structure PD where
  R : Nat
  S : Nat → Prop
  T : Nat → Prop
  t : Dk
  x0 : Sl
  x1 : Sl
  p0 : Sl
  p1 : Sl
  xa : Sl
  cn : Int
abbrev PD.In (w0 : World) (p : PD) (w : World) : Prop := PrIn w0 p.R p.S p.T p.t p.x0 p.x1 p.p0 p.p1 p.xa p.cn w
abbrev PD.V (p : PD) : List Value := PV p.R p.x0 p.x1 p.p0 p.p1 p.xa p.cn p.t.dn p.t.wr
def PD.B (p : PD) (g : Nat) : Prop := p.S g ∨ p.T g
theorem PD.lt {w0 : World} {p : PD} {w : World} (h : p.In w0 w) {g : Nat} (hg : p.B g) : g < w.heap.size := hg.elim (h.d.at_.size g) (h.r.s g)
theorem PD.ge {w0 : World} {p : PD} {w : World} (h : p.In w0 w) {g : Nat} (hg : p.B g) : w0.heap.size ≤ g := hg.elim (h.d.new g) (h.tn g)
theorem PD.kp {w0 : World} {p : PD} {w w' : World} {M : Nat → Prop} (h : p.In w0 w) (k : Kp M w w') (hm : ∀ g, p.B g → ¬ M g) (hM : ∀ g, M g → w0.heap.size ≤ g) : p.In w0 w' := PrIn.kp h k (fun g hg => hm g (.inl hg)) (fun g hg => hm g (.inr hg)) hM
/-- Behind a step. -/
def PD.Post (w0 : World) (p : PD) (w : World) (p' : PD) (w' : World) : Prop := p'.In w0 w' ∧ (∀ g, p'.B g → p.B g ∨ w.heap.size ≤ g) ∧ Kp p.B w w' ∧ p.t.wr ≤ p'.t.wr ∧ p'.t.wr ≤ p.t.wr + 1
theorem PD.Post.of {w0 : World} {p : PD} {w w' : World} {t' : Dk} {y0 y1 q0 q1 ya : Sl} {cm : Int} (h : PrPost w0 p.R p.S p.T w t' y0 y1 q0 q1 ya cm w') (hw : p.t.wr ≤ t'.wr ∧ t'.wr ≤ p.t.wr + 1) : ∃ S' T', PD.Post w0 p w ⟨p.R, S', T', t', y0, y1, q0, q1, ya, cm⟩ w' := by
  obtain ⟨S', T', a, b, c, d⟩ := h
  exact ⟨S', T', a, fun g hg => hg.elim (fun h => (b g h).imp .inl id) (fun h => (c g h).imp .inr id), d.mono (fun g _ hg => .inl hg), hw⟩
theorem step_write (w0 : World) (p : PD) (w : World) (h : p.In w0 w) (hw : 0 ≤ p.t.wr ∧ p.t.wr < 4611686018427387904) (o : OpD) (x : Option Addr) (c : Nat) (hl : o.data.length ≤ 1048576) (hd : ∀ w', Below w0.heap.size w0 w' → RdB w' (.slice x o.data.length c) o.data) (hk : 1 ≤ o.kind ∧ o.kind ≤ 4) :
    Calls Try.prog 16 #[.agg p.V.toArray, opd o x c] w fun e w' => ∃ p', e = .returned (.tuple #[.agg (PD.V p').toArray, .bool true]) ∧ PD.Post w0 p w p' w' := by
  have dw := done_wr p.t o
  unfold Dk.done at dw
  by_cases k1 : o.kind = 1
  · rw [if_pos (.inl k1)] at dw
    refine (write_app w0 p.R p.S p.T p.t p.x0 p.x1 p.p0 p.p1 p.xa p.cn w h hw o x c hl hd k1).mono ?_
    rintro e w' ⟨y0, y1, q0, q1, ya, cm, rfl, pp⟩
    obtain ⟨S', T', q⟩ := PD.Post.of pp dw
    exact ⟨_, rfl, q⟩
  by_cases k2 : o.kind = 2
  · rw [if_pos (.inr k2)] at dw
    refine (write_fill w0 p.R p.S p.T p.t p.x0 p.x1 p.p0 p.p1 p.xa p.cn w h hw o x c hl hd k2).mono ?_
    rintro e w' ⟨y0, y1, q0, q1, ya, cm, rfl, pp⟩
    obtain ⟨S', T', q⟩ := PD.Post.of pp dw
    exact ⟨_, rfl, q⟩
  rw [if_neg (by omega)] at dw
  by_cases k3 : o.kind = 3
  · rw [if_pos k3] at dw
    refine (write_sync w0 p.R p.S p.T p.t p.x0 p.x1 p.p0 p.p1 p.xa p.cn w h hw o x c k3).mono ?_
    rintro e w' ⟨y0, y1, q0, q1, ya, cm, rfl, pp⟩
    obtain ⟨S', T', q⟩ := PD.Post.of pp dw
    exact ⟨_, rfl, q⟩
  have k4 : o.kind = 4 := by omega
  rw [if_neg k3, if_pos k4] at dw
  refine (write_trunc w0 p.R p.S p.T p.t p.x0 p.x1 p.p0 p.p1 p.xa p.cn w h hw o x c k4).mono ?_
  rintro e w' ⟨y0, y1, q0, q1, ya, cm, rfl, pp⟩
  obtain ⟨S', T', q⟩ := PD.Post.of pp dw
  exact ⟨_, rfl, q⟩
theorem step_order (w0 : World) (p : PD) (w : World) (h : p.In w0 w) (hw : 0 ≤ p.t.wr ∧ p.t.wr < 4611686018427387904) (o : OpD) (x : Option Addr) (c : Nat) (hk : ¬ (1 ≤ o.kind ∧ o.kind ≤ 4)) :
    Calls Try.prog 17 #[.agg p.V.toArray, opd o x c] w fun e w' => ∃ p', e = .returned (.tuple #[.agg (PD.V p').toArray, .bool true]) ∧ PD.Post w0 p w p' w' := by
  have dw := done_wr p.t o
  unfold Dk.done at dw
  rw [if_neg (by omega), if_neg (by omega), if_neg (by omega)] at dw
  by_cases k7 : o.kind = 7
  · rw [if_pos k7] at dw
    refine (order_arm w0 p.R p.S p.T p.t p.x0 p.x1 p.p0 p.p1 p.xa p.cn w h hw o x c k7).mono ?_
    rintro e w' ⟨y0, y1, q0, q1, ya, cm, rfl, pp⟩
    obtain ⟨S', T', q⟩ := PD.Post.of pp dw
    exact ⟨_, rfl, q⟩
  rw [if_neg k7] at dw
  by_cases k8 : o.kind = 8
  · rw [if_pos k8] at dw
    refine (order_disarm w0 p.R p.S p.T p.t p.x0 p.x1 p.p0 p.p1 p.xa p.cn w h hw o x c k8).mono ?_
    rintro e w' ⟨y0, y1, q0, q1, ya, cm, rfl, pp⟩
    obtain ⟨S', T', q⟩ := PD.Post.of pp dw
    exact ⟨_, rfl, q⟩
  rw [if_neg k8] at dw
  by_cases k9 : o.kind = 9
  · rw [if_pos k9] at dw
    refine (order_restart w0 p.R p.S p.T p.t p.x0 p.x1 p.p0 p.p1 p.xa p.cn w h hw o x c k9).mono ?_
    rintro e w' ⟨y0, y1, q0, q1, ya, cm, rfl, pp⟩
    obtain ⟨S', T', q⟩ := PD.Post.of pp dw
    exact ⟨_, rfl, q⟩
  rw [if_neg k9] at dw
  have fin : ∀ (e : Ending) (w' : World), (∃ y0 y1 q0 q1 ya cm, e = .returned (.tuple #[.agg (PV p.R y0 y1 q0 q1 ya cm p.t.dn p.t.wr).toArray, .bool true]) ∧ PrPost w0 p.R p.S p.T w p.t y0 y1 q0 q1 ya cm w') → ∃ p', e = .returned (.tuple #[.agg (PD.V p').toArray, .bool true]) ∧ PD.Post w0 p w p' w' := by
    rintro e w' ⟨y0, y1, q0, q1, ya, cm, rfl, pp⟩
    obtain ⟨S', T', q⟩ := PD.Post.of pp dw
    exact ⟨_, rfl, q⟩
  by_cases k10 : o.kind = 10
  · exact (order_down w0 p.R p.S p.T p.t p.x0 p.x1 p.p0 p.p1 p.xa p.cn w h hw o x c k10).mono fin
  by_cases k11 : o.kind = 11
  · exact (order_wr w0 p.R p.S p.T p.t p.x0 p.x1 p.p0 p.p1 p.xa p.cn w h hw o x c k11).mono fin
  exact (order_other w0 p.R p.S p.T p.t p.x0 p.x1 p.p0 p.p1 p.xa p.cn w h hw o x c ⟨k7, k8, k9, k10, k11⟩).mono fin

/-- Two pairs at Q1 and Q2, and what was kept. -/
structure U5 (w0 : World) (Q1 Q2 : Nat) (p1 p2 : PD) (F : Nat → Prop) (l : List He) (va : Sl) (w : World) : Prop where
  a : p1.In w0 w
  b : p2.In w0 w
  q1 : Blk Q1 37 p1.V w
  q2 : Blk Q2 37 p2.V w
  h : HeldV F l va w
  ab : ∀ g, p1.B g → ¬ p2.B g
  fa : ∀ g, F g ∨ va.v.ownBlock = some g → (¬ p1.B g ∧ ¬ p2.B g) ∧ g ≠ Q1 ∧ g ≠ Q2
  fw : ∀ g, F g ∨ va.v.ownBlock = some g → w0.heap.size ≤ g ∧ g < w.heap.size
  na : ¬ p1.B Q1 ∧ ¬ p1.B Q2
  nb : ¬ p2.B Q1 ∧ ¬ p2.B Q2
  ne : Q1 ≠ Q2
  l1 : w0.heap.size ≤ Q1
  l2 : w0.heap.size ≤ Q2
theorem U5.bel {w0 w : World} {Q1 Q2 : Nat} {p1 p2 : PD} {F : Nat → Prop} {l : List He} {va : Sl} (h : U5 w0 Q1 Q2 p1 p2 F l va w) : Below w0.heap.size w0 w := h.a.d.bel
theorem U5.swap {w0 w : World} {Q1 Q2 : Nat} {p1 p2 : PD} {F : Nat → Prop} {l : List He} {va : Sl} (h : U5 w0 Q1 Q2 p1 p2 F l va w) : U5 w0 Q2 Q1 p2 p1 F l va w :=
  ⟨h.b, h.a, h.q2, h.q1, h.h, fun g h1 h2 => h.ab g h2 h1, fun g hg => ⟨⟨(h.fa g hg).1.2, (h.fa g hg).1.1⟩, (h.fa g hg).2.2, (h.fa g hg).2.1⟩, h.fw, ⟨h.nb.2, h.nb.1⟩, ⟨h.na.2, h.na.1⟩, h.ne.symm, h.l2, h.l1⟩
/-- What lies apart from all may change. -/
theorem U5.kp {w0 w w' : World} {Q1 Q2 : Nat} {p1 p2 : PD} {F M : Nat → Prop} {l : List He} {va : Sl} (h : U5 w0 Q1 Q2 p1 p2 F l va w) (k : Kp M w w') (hM : ∀ g, M g → w.heap.size ≤ g) : U5 w0 Q1 Q2 p1 p2 F l va w' := by
  have s := h.bel.size
  have k1 := h.q1.lt
  have k2 := h.q2.lt
  exact ⟨PD.kp h.a k (fun g hg hm => by have := PD.lt h.a hg; have := hM g hm; omega) (fun g hm => by have := hM g hm; omega), PD.kp h.b k (fun g hg hm => by have := PD.lt h.b hg; have := hM g hm; omega) (fun g hm => by have := hM g hm; omega), h.q1.kp k (fun hm => by have := hM _ hm; omega), h.q2.kp k (fun hm => by have := hM _ hm; omega),
    h.h.kp k (fun g hg hm => by have := (h.fw g (.inl hg)).2; have := hM g hm; omega) (fun g hg hm => by have := (h.fw g (.inr hg)).2; have := hM g hm; omega), h.ab, h.fa, fun g hg => ⟨(h.fw g hg).1, Nat.lt_of_lt_of_le (h.fw g hg).2 k.size⟩, h.na, h.nb, h.ne, h.l1, h.l2⟩
theorem U5.below {w0 w w' : World} {Q1 Q2 : Nat} {p1 p2 : PD} {F : Nat → Prop} {l : List He} {va : Sl} (h : U5 w0 Q1 Q2 p1 p2 F l va w) (b : Below w.heap.size w w') : U5 w0 Q1 Q2 p1 p2 F l va w' := h.kp (Kp.of_below b (fun _ => False)) (fun _ h => h.elim)
/-- The first has made a step, and lies at Q1 again. -/
theorem U5.one {w0 w w1 w2 w3 w4 : World} {Q1 Q2 : Nat} {p1 p2 p' : PD} {F M : Nat → Prop} {l : List He} {va : Sl} (h : U5 w0 Q1 Q2 p1 p2 F l va w) (k1 : Below w.heap.size w w1) (p : PD.Post w0 p1 w1 p' w2) (k3 : Kp M w2 w3) (hM : ∀ g, M g → w.heap.size ≤ g ∧ g < w1.heap.size) (q : Blk Q1 37 p'.V w4) (g4 : w3.grownBy w4 (some Q1)) : U5 w0 Q1 Q2 p' p2 F l va w4 := by
  have h1 := h.below k1
  obtain ⟨i2, n2, k2, _⟩ := p
  have k4 : Kp (fun g => some Q1 = some g) w3 w4 := Kp.of_grown g4
  have s0 := h.bel.size
  have s1 := k1.size
  have lq1 := h.q1.lt
  have lq2 := h.q2.lt
  have c1 : ¬ p'.B Q1 := fun e => (n2 _ e).elim h.na.1 (fun e => by omega)
  have c2 : ¬ p'.B Q2 := fun e => (n2 _ e).elim h.na.2 (fun e => by omega)
  have mB : ∀ g, p'.B g → ¬ M g := fun g hg hm => by
    have := hM g hm
    rcases n2 g hg with e | e
    · have := PD.lt h.a e; omega
    · omega
  have r : ∀ g, g < w.heap.size → ¬ M g := fun g hg hm => by have := hM g hm; omega
  have mW : ∀ g, M g → w0.heap.size ≤ g := fun g hm => by have := hM g hm; omega
  have i4 : p'.In w0 w4 := PD.kp (PD.kp i2 k3 mB mW) k4 (fun g hg e => by cases e; exact c1 hg) (fun g e => by cases e; exact h.l1)
  have b2 := PD.kp h1.b k2 (fun g hg e => h.ab g e hg) (fun g e => PD.ge h.a e)
  have b3 := PD.kp b2 k3 (fun g hg => r g (PD.lt h.b hg)) mW
  have b4 := PD.kp b3 k4 (fun g hg e => by cases e; exact h.nb.1 hg) (fun g e => by cases e; exact h.l1)
  have q24 := ((h1.q2.kp k2 h.na.2).kp k3 (r _ lq2)).kp k4 (fun e => by cases e; exact h.ne rfl)
  have f2 := h1.h.kp k2 (fun g hg e => (h.fa g (.inl hg)).1.1 e) (fun g hg e => (h.fa g (.inr hg)).1.1 e)
  have f3 := f2.kp k3 (fun g hg => r g (h.fw g (.inl hg)).2) (fun g hg => r g (h.fw g (.inr hg)).2)
  have f4 := f3.kp k4 (fun g hg e => by cases e; exact (h.fa _ (.inl hg)).2.1 rfl) (fun g hg e => by cases e; exact (h.fa _ (.inr hg)).2.1 rfl)
  refine ⟨i4, b4, q, q24, f4, fun g e1 e2 => ?_, fun g hg => ⟨⟨fun e => ?_, (h.fa g hg).1.2⟩, (h.fa g hg).2⟩, fun g hg => ⟨(h.fw g hg).1, ?_⟩, ⟨c1, c2⟩, h.nb, h.ne, h.l1, h.l2⟩
  · rcases n2 g e1 with e | e
    · exact h.ab g e e2
    · have := PD.lt h.b e2; omega
  · rcases n2 g e with e | e
    · exact (h.fa g hg).1.1 e
    · have := (h.fw g hg).2; omega
  · have := (h.fw g hg).2; have := k2.size; have := k3.size; have := k4.size; omega
/-- What was kept has grown; the first lies at Q1 as before. -/
theorem U5.look {w0 w w1 w2 w4 : World} {Q1 Q2 : Nat} {p1 p2 : PD} {F F' : Nat → Prop} {l l' : List He} {va vb : Sl} (h : U5 w0 Q1 Q2 p1 p2 F l va w) (k1 : Below w.heap.size w w1) (hh : HeldV F' l' vb w2) (nF : ∀ g, F' g → F g ∨ w1.heap.size ≤ g) (nv : ∀ g, vb.v.ownBlock = some g → va.v.ownBlock = some g ∨ w1.heap.size ≤ g) (k2 : Kp (fun g => va.v.ownBlock = some g) w1 w2) (q : Blk Q1 37 p1.V w4) (g4 : w2.grownBy w4 (some Q1)) : U5 w0 Q1 Q2 p1 p2 F' l' vb w4 := by
  have h1 := h.below k1
  have k4 : Kp (fun g => some Q1 = some g) w2 w4 := Kp.of_grown g4
  have s0 := h.bel.size
  have s1 := k1.size
  have lq1 := h.q1.lt
  have lq2 := h.q2.lt
  have fn : ∀ g, F' g ∨ vb.v.ownBlock = some g → (F g ∨ va.v.ownBlock = some g) ∨ w1.heap.size ≤ g := fun g hg => hg.elim (fun e => (nF g e).imp .inl id) (fun e => (nv g e).imp .inr id)
  have vlt : ∀ g, vb.v.ownBlock = some g → g < w2.heap.size := fun g hg => (World.ownsRow.lt hh.row g hg).2
  have mW : ∀ g, va.v.ownBlock = some g → w0.heap.size ≤ g := fun g e => (h.fw g (.inr e)).1
  have nq : ∀ g, F' g ∨ vb.v.ownBlock = some g → g ≠ Q1 ∧ g ≠ Q2 := fun g hg => by
    rcases fn g hg with e | e
    · exact (h.fa g e).2
    · omega
  have a4 := PD.kp (PD.kp h1.a k2 (fun g hg e => (h.fa g (.inr e)).1.1 hg) mW) k4 (fun g hg e => by cases e; exact h.na.1 hg) (fun g e => by cases e; exact h.l1)
  have b4 := PD.kp (PD.kp h1.b k2 (fun g hg e => (h.fa g (.inr e)).1.2 hg) mW) k4 (fun g hg e => by cases e; exact h.nb.1 hg) (fun g e => by cases e; exact h.l1)
  have q24 := (h1.q2.kp k2 (fun e => (h.fa _ (.inr e)).2.2 rfl)).kp k4 (fun e => by cases e; exact h.ne rfl)
  have f4 := hh.kp k4 (fun g hg e => by cases e; exact (nq _ (.inl hg)).1 rfl) (fun g hg e => by cases e; exact (nq _ (.inr hg)).1 rfl)
  refine ⟨a4, b4, q, q24, f4, h.ab, fun g hg => ⟨⟨fun e => ?_, fun e => ?_⟩, nq g hg⟩, fun g hg => ⟨?_, ?_⟩, h.na, h.nb, h.ne, h.l1, h.l2⟩
  · rcases fn g hg with e2 | e2
    · exact (h.fa g e2).1.1 e
    · have := PD.lt h.a e; omega
  · rcases fn g hg with e2 | e2
    · exact (h.fa g e2).1.2 e
    · have := PD.lt h.b e; omega
  · rcases fn g hg with e2 | e2
    · exact (h.fw g e2).1
    · omega
  · have := k4.size
    rcases hg with e | e
    · have := hh.s g e; omega
    · have := vlt g e; omega
end Go.Proofs.Ytiefnomldfhhnaa
