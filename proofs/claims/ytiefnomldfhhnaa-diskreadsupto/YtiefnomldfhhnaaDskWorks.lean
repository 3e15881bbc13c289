/-
  Ours: works.
-/
import Derived.Test.YtiefnomldfhhnaaDskEq
namespace Go.Proofs.Ytiefnomldfhhnaa
open Go.RowKit

theorem rdB_new (bs : List Nat) (w : World) : RdB (w.alloc (.cells (bs.map bv).toArray 5)) (.slice (some ⟨w.heap.size, 0, none⟩) bs.length bs.length) bs := by
  have hb := Blk.new 5 (bs.map bv) w
  refine ⟨some ⟨w.heap.size, 0, none⟩, bs.length, by rw [List.length_map], by rw [List.length_map]; exact Nat.le_refl _, (fun h => by cases h), fun i hi => ⟨w.heap.size, 0, rfl, by simp, ?_⟩⟩
  rw [Nat.zero_add]
  exact hb.cell i _ (by rw [List.getElem?_eq_getElem hi])
theorem DkAt.size {R : Nat} {S : Nat → Prop} {t : Dk} {w : World} (h : DkAt R S t w) : ∀ g, S g → g < w.heap.size := by
  obtain ⟨_, _, _, _, h⟩ := h; exact h.s

/-- A disk all of whose blocks are new since w0. -/
structure DkIn (w0 : World) (R : Nat) (S : Nat → Prop) (t : Dk) (w : World) : Prop where
  at_ : DkAt R S t w
  new : ∀ g, S g → w0.heap.size ≤ g
  bel : Below w0.heap.size w0 w
theorem DkIn.below {w0 : World} {R : Nat} {S : Nat → Prop} {t : Dk} {w w' : World} (h : DkIn w0 R S t w) (hb : Below w.heap.size w w') : DkIn w0 R S t w' := ⟨h.at_.below hb, h.new, below_trans h.bel hb⟩
theorem Below.of_kp {w0 w w' : World} {S : Nat → Prop} (h : Below w0.heap.size w0 w) (k : Kp S w w') (hs : ∀ g, S g → w0.heap.size ≤ g) : Below w0.heap.size w0 w' :=
  ⟨k.os.trans h.os, k.tape.trans h.tape, k.output.trans h.output, Nat.le_trans h.size k.size, fun i hi => (k.block i (Nat.lt_of_lt_of_le hi h.size) (fun hm => by have := hs i hm; omega)).trans (h.block i hi)⟩
theorem DkIn.post {w0 : World} {R : Nat} {S : Nat → Prop} {t t' : Dk} {w w' : World} (h : DkIn w0 R S t w) (p : DkPost R S w t' w') : ∃ S', DkIn w0 R S' t' w' ∧ (∀ g, S' g → S g ∨ w.heap.size ≤ g) ∧ Kp S w w' := by
  obtain ⟨S', h1, h2, h3⟩ := p
  exact ⟨S', ⟨h1, fun g hg => (h2 g hg).elim (h.new g) (fun e => Nat.le_trans h.bel.size e), Below.of_kp h.bel h3 h.new⟩, h2, h3⟩

/-- An Append of bytes that were made just now. -/
theorem append_new {w0 : World} {R : Nat} {S : Nat → Prop} {t : Dk} {w : World} (n : Int) (bs : List Nat) (hl : bs.length ≤ 1000000) (hw : 0 ≤ t.wr ∧ t.wr < 4611686018427387904) (h : DkIn w0 R S t w) :
    Calls Try.prog 28 #[.pointer (some ⟨R, 0, none⟩), .int .i64 n, .slice (some ⟨w.heap.size, 0, none⟩) bs.length bs.length] (w.alloc (.cells (bs.map bv).toArray 5)) fun e w' => e = .returned (.int .i64 (t.append n bs).2) ∧ ∃ S', DkIn w0 R S' (t.append n bs).1 w' ∧ (∀ g, S' g → S g ∨ w.heap.size ≤ g) ∧ Kp S w w' := by
  have BA := below_alloc w (.cells (bs.map bv).toArray 5)
  have h1 := h.below BA
  refine (append_at R S t _ n bs _ _ _ hw h1.at_ (rdB_new bs w) (by omega) (fun _ g hg hs => ?_)).mono ?_
  · simp [Value.ownBlock] at hg
    have := h.at_.size g hs
    omega
  · rintro e w' ⟨rfl, p⟩
    obtain ⟨S', i1, i2, i3⟩ := h1.post p
    exact ⟨rfl, S', i1, fun g hg => (i2 g hg).imp id (fun e => Nat.le_trans BA.size e), (Kp.of_below BA S).trans i3 (fun _ _ h => h)⟩

end Go.Proofs.Ytiefnomldfhhnaa
