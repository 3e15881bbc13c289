/-
  Ours: survives: one step.
-/
import Derived.Test.YtiefnomldfhhnaaDskFell
namespace Go.Proofs.Ytiefnomldfhhnaa
open Go.RowKit

theorem read_len {t : Dk} (ok : t.Ok) (f : Int) : (t.read f).1.length ≤ 16777216 := by
  unfold Dk.read; split
  · simp
  · unfold Dk.fb; split
    · exact ok.l0
    · exact ok.l1
theorem dur_len {t : Dk} (ok : t.Ok) (f : Int) : (t.durable f).1.length ≤ 16777216 := by
  unfold Dk.durable; split
  · unfold Dk.fb; simp only; rw [List.length_take]; split
    · have := ok.l0; omega
    · have := ok.l1; omega
  · simp
theorem read_up {t : Dk} (hd : t.dn = false) {f : Int} (hf : f = 0 ∨ f = 1) : (t.read f).1 = t.fb f := by
  unfold Dk.read Dk.no; rw [if_pos hf, hd]; simp
theorem dur_is {t : Dk} {f : Int} (hf : f = 0 ∨ f = 1) : (t.durable f).1 = (t.fb f).take (t.fd f) := by unfold Dk.durable; rw [if_pos hf]
theorem done_ok {t : Dk} {R : Nat} {S : Nat → Prop} {w : World} (h : DkAt R S t w) : t.Ok := h.1

/-- What the two sides of a step are, in memory. -/
structure Sides (w : World) (t t' : Dk) (a0 : Option Addr) (c0 : Nat) (a1 : Option Addr) (c1 : Nat) (a2 : Option Addr) (c2 : Nat) (a3 : Option Addr) (c3 : Nat) (b0 : Option Addr) (d0 : Nat) (b1 : Option Addr) (d1 : Nat) (b2 : Option Addr) (d2 : Nat) (b3 : Option Addr) (d3 : Nat) : Prop where
  x0 : RdB w (.slice a0 (t.read 0).1.length c0) (t.read 0).1
  x1 : RdB w (.slice a1 (t.read 1).1.length c1) (t.read 1).1
  y0 : RdB w (.slice a2 (t.durable 0).1.length c2) (t.durable 0).1
  y1 : RdB w (.slice a3 (t.durable 1).1.length c3) (t.durable 1).1
  u0 : RdB w (.slice b0 (t'.read 0).1.length d0) (t'.read 0).1
  u1 : RdB w (.slice b1 (t'.read 1).1.length d1) (t'.read 1).1
  v0 : RdB w (.slice b2 (t'.durable 0).1.length d2) (t'.durable 0).1
  v1 : RdB w (.slice b3 (t'.durable 1).1.length d3) (t'.durable 1).1
  ok : t.Ok
  ok' : t'.Ok
end Go.Proofs.Ytiefnomldfhhnaa
