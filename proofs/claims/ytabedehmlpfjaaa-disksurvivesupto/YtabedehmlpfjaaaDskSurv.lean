/-
  Ours: survives: one step.
-/
import Derived.Test.YtabedehmlpfjaaaDskFell
namespace Go.Proofs.Ytabedehmlpfjaaa
open Go.RowKit

theorem read_len {t : Dk} (ok : t.Ok) (f : Int) : (t.read f).1.length ≤ 16777216 := by
  unfold Dk.read; split
  · simp
  · unfold Dk.fb; split
    · exact ok.l0
    · exact ok.l1
theorem dur_len {t : Dk} (ok : t.Ok) (f : Int) : (t.durable f).1.length ≤ 16777216 := by
  unfold Dk.durable; split
  · unfold Dk.fb; simp only; rw [List.length_take]; split
    · have := ok.l0; omega
    · have := ok.l1; omega
  · simp
theorem read_up {t : Dk} (hd : t.dn = false) {f : Int} (hf : f = 0 ∨ f = 1) : (t.read f).1 = t.fb f := by
  unfold Dk.read Dk.no; rw [if_pos hf, hd]; simp
theorem dur_is {t : Dk} {f : Int} (hf : f = 0 ∨ f = 1) : (t.durable f).1 = (t.fb f).take (t.fd f) := by unfold Dk.durable; rw [if_pos hf]
theorem done_ok {t : Dk} {R : Nat} {S : Nat → Prop} {w : World} (h : DkAt R S t w) : t.Ok := h.1

/-- What the two sides of a step are, in memory. -/
structure Sides (w : World) (t t' : Dk) (a0 : Option Addr) (c0 : Nat) (a1 : Option Addr) (c1 : Nat) (a2 : Option Addr) (c2 : Nat) (a3 : Option Addr) (c3 : Nat) (b0 : Option Addr) (d0 : Nat) (b1 : Option Addr) (d1 : Nat) (b2 : Option Addr) (d2 : Nat) (b3 : Option Addr) (d3 : Nat) : Prop where
  x0 : RdB w (.slice a0 (t.read 0).1.length c0) (t.read 0).1
  x1 : RdB w (.slice a1 (t.read 1).1.length c1) (t.read 1).1
  y0 : RdB w (.slice a2 (t.durable 0).1.length c2) (t.durable 0).1
  y1 : RdB w (.slice a3 (t.durable 1).1.length c3) (t.durable 1).1
  u0 : RdB w (.slice b0 (t'.read 0).1.length d0) (t'.read 0).1
  u1 : RdB w (.slice b1 (t'.read 1).1.length d1) (t'.read 1).1
  v0 : RdB w (.slice b2 (t'.durable 0).1.length d2) (t'.durable 0).1
  v1 : RdB w (.slice b3 (t'.durable 1).1.length d3) (t'.durable 1).1
  ok : t.Ok
  ok' : t'.Ok
theorem Sides.wrote {w : World} {t t' : Dk} {a0 : Option Addr} {c0 : Nat} {a1 : Option Addr} {c1 : Nat} {a2 : Option Addr} {c2 : Nat} {a3 : Option Addr} {c3 : Nat} {b0 : Option Addr} {d0 : Nat} {b1 : Option Addr} {d1 : Nat} {b2 : Option Addr} {d2 : Nat} {b3 : Option Addr} {d3 : Nat}
    (h : Sides w t t' a0 c0 a1 c1 a2 c2 a3 c3 b0 d0 b1 d1 b2 d2 b3 d3) {o : OpD} {e : Int} (s : SurWrote t o t' e) (x : Option Addr) (c : Nat) (hl : o.data.length ≤ 1048576) (hd : RdB w (.slice x o.data.length c) o.data) :
    Calls Try.prog 28 #[opd o x c, .agg (SD a0 (t.read 0).1.length c0 a1 (t.read 1).1.length c1 a2 (t.durable 0).1.length c2 a3 (t.durable 1).1.length c3 t.dn).toArray, .agg (SD b0 (t'.read 0).1.length d0 b1 (t'.read 1).1.length d1 b2 (t'.durable 0).1.length d2 b3 (t'.durable 1).1.length d3 t'.dn).toArray] w fun e w' => e = .returned (.bool true) ∧ Below w.heap.size w w' := by
  have e0 := read_up s.up (f := 0) (.inl rfl)
  have e1 := read_up s.up (f := 1) (.inr rfl)
  have f0 := s.f 0 (.inl rfl)
  have f1 := s.f 1 (.inr rfl)
  have k0 : (t'.read 0).1 = wrR o 0 (t.read 0).1 := by rw [read_up s.dn (.inl rfl), e0]; exact f0.1
  have k1 : (t'.read 1).1 = wrR o 1 (t.read 1).1 := by rw [read_up s.dn (.inr rfl), e1]; exact f1.1
  have k2 : (t'.durable 0).1 = wrD o 0 (t.read 0).1 (t.durable 0).1 := by rw [dur_is (.inl rfl), dur_is (.inl rfl), e0]; exact f0.2
  have k3 : (t'.durable 1).1 = wrD o 1 (t.read 1).1 (t.durable 1).1 := by rw [dur_is (.inr rfl), dur_is (.inr rfl), e1]; exact f1.2
  refine wrote_at o x c w hl hd s.k a0 a1 a2 a3 b0 b1 b2 b3 c0 c1 c2 c3 _ d0 _ d1 _ d2 _ d3 t.dn t'.dn _ _ _ _ ⟨h.x0, h.y0, k0 ▸ h.u0, k2 ▸ h.v0, fun h4 hf => ?_, ?_, ?_⟩ ⟨h.x1, h.y1, k1 ▸ h.u1, k3 ▸ h.v1, fun h4 hf => ?_, ?_, ?_⟩
  · rw [e0]; have := s.a h4; rw [← hf] at this; exact this
  · have := read_len h.ok 0; omega
  · have := dur_len h.ok 0; omega
  · rw [e1]; have := s.a h4; rw [← hf] at this; exact this
  · have := read_len h.ok 1; omega
  · have := dur_len h.ok 1; omega
theorem Sides.fell {w : World} {t t' : Dk} {a0 : Option Addr} {c0 : Nat} {a1 : Option Addr} {c1 : Nat} {a2 : Option Addr} {c2 : Nat} {a3 : Option Addr} {c3 : Nat} {b0 : Option Addr} {d0 : Nat} {b1 : Option Addr} {d1 : Nat} {b2 : Option Addr} {d2 : Nat} {b3 : Option Addr} {d3 : Nat}
    (h : Sides w t t' a0 c0 a1 c1 a2 c2 a3 c3 b0 d0 b1 d1 b2 d2 b3 d3) {o : OpD} {e : Int} (s : SurFell t o t' e) (x : Option Addr) (c : Nat) (hl : o.data.length ≤ 1048576) (hd : RdB w (.slice x o.data.length c) o.data) :
    Calls Try.prog 27 #[opd o x c, .agg (SD a0 (t.read 0).1.length c0 a1 (t.read 1).1.length c1 a2 (t.durable 0).1.length c2 a3 (t.durable 1).1.length c3 t.dn).toArray, .agg (SD b0 (t'.read 0).1.length d0 b1 (t'.read 1).1.length d1 b2 (t'.durable 0).1.length d2 b3 (t'.durable 1).1.length d3 t'.dn).toArray] w fun e w' => e = .returned (.bool true) ∧ Below w.heap.size w w' := by
  have e0 := read_up s.up (f := 0) (.inl rfl)
  have e1 := read_up s.up (f := 1) (.inr rfl)
  have f0 := s.f 0 (.inl rfl)
  have f1 := s.f 1 (.inr rfl)
  refine fell_at o x c w hl hd s.k a0 a1 a2 a3 b0 b1 b2 b3 c0 c1 c2 c3 _ d0 _ d1 _ d2 _ d3 t.dn t'.dn _ _ _ _ (t'.durable 0).1 (t'.durable 1).1 ⟨h.x0, h.y0, h.v0, ?_, ?_, ?_, ?_, ?_⟩ ⟨h.x1, h.y1, h.v1, ?_, ?_, ?_, ?_, ?_⟩
  · rw [dur_is (.inl rfl), dur_is (.inl rfl)]; exact f0.1
  · rw [dur_is (.inl rfl), e0]; exact f0.2
  · have := read_len h.ok 0; omega
  · have := dur_len h.ok 0; omega
  · have := dur_len h.ok' 0; omega
  · rw [dur_is (.inr rfl), dur_is (.inr rfl)]; exact f1.1
  · rw [dur_is (.inr rfl), e1]; exact f1.2
  · have := read_len h.ok 1; omega
  · have := dur_len h.ok 1; omega
  · have := dur_len h.ok' 1; omega
end Go.Proofs.Ytabedehmlpfjaaa
