/-
  Ours: works.
-/
import Derived.Test.YtabedehmlpfjaaaDskEq
namespace Go.Proofs.Ytabedehmlpfjaaa
open Go.RowKit

theorem rdB_new (bs : List Nat) (w : World) : RdB (w.alloc (.cells (bs.map bv).toArray 5)) (.slice (some ⟨w.heap.size, 0, none⟩) bs.length bs.length) bs := by
  have hb := Blk.new 5 (bs.map bv) w
  refine ⟨some ⟨w.heap.size, 0, none⟩, bs.length, by rw [List.length_map], by rw [List.length_map]; exact Nat.le_refl _, (fun h => by cases h), fun i hi => ⟨w.heap.size, 0, rfl, by simp, ?_⟩⟩
  rw [Nat.zero_add]
  exact hb.cell i _ (by rw [List.getElem?_eq_getElem hi])
theorem DkAt.size {R : Nat} {S : Nat → Prop} {t : Dk} {w : World} (h : DkAt R S t w) : ∀ g, S g → g < w.heap.size := by
  obtain ⟨_, _, _, _, h⟩ := h; exact h.s

/-- A disk all of whose blocks are new since w0. -/
structure DkIn (w0 : World) (R : Nat) (S : Nat → Prop) (t : Dk) (w : World) : Prop where
  at_ : DkAt R S t w
  new : ∀ g, S g → w0.heap.size ≤ g
  bel : Below w0.heap.size w0 w
theorem DkIn.below {w0 : World} {R : Nat} {S : Nat → Prop} {t : Dk} {w w' : World} (h : DkIn w0 R S t w) (hb : Below w.heap.size w w') : DkIn w0 R S t w' := ⟨h.at_.below hb, h.new, below_trans h.bel hb⟩
theorem Below.of_kp {w0 w w' : World} {S : Nat → Prop} (h : Below w0.heap.size w0 w) (k : Kp S w w') (hs : ∀ g, S g → w0.heap.size ≤ g) : Below w0.heap.size w0 w' :=
  ⟨k.os.trans h.os, k.tape.trans h.tape, k.output.trans h.output, Nat.le_trans h.size k.size, fun i hi => (k.block i (Nat.lt_of_lt_of_le hi h.size) (fun hm => by have := hs i hm; omega)).trans (h.block i hi)⟩
theorem DkIn.post {w0 : World} {R : Nat} {S : Nat → Prop} {t t' : Dk} {w w' : World} (h : DkIn w0 R S t w) (p : DkPost R S w t' w') : ∃ S', DkIn w0 R S' t' w' ∧ (∀ g, S' g → S g ∨ w.heap.size ≤ g) ∧ Kp S w w' := by
  obtain ⟨S', h1, h2, h3⟩ := p
  exact ⟨S', ⟨h1, fun g hg => (h2 g hg).elim (h.new g) (fun e => Nat.le_trans h.bel.size e), Below.of_kp h.bel h3 h.new⟩, h2, h3⟩

/-- An Append of bytes that were made just now. -/
theorem append_new {w0 : World} {R : Nat} {S : Nat → Prop} {t : Dk} {w : World} (n : Int) (bs : List Nat) (hl : bs.length ≤ 1000000) (hw : 0 ≤ t.wr ∧ t.wr < 4611686018427387904) (h : DkIn w0 R S t w) :
    Calls Try.prog 18 #[.pointer (some ⟨R, 0, none⟩), .int .i64 n, .slice (some ⟨w.heap.size, 0, none⟩) bs.length bs.length] (w.alloc (.cells (bs.map bv).toArray 5)) fun e w' => e = .returned (.int .i64 (t.append n bs).2) ∧ ∃ S', DkIn w0 R S' (t.append n bs).1 w' ∧ (∀ g, S' g → S g ∨ w.heap.size ≤ g) ∧ Kp S w w' := by
  have BA := below_alloc w (.cells (bs.map bv).toArray 5)
  have h1 := h.below BA
  refine (append_at R S t _ n bs _ _ _ hw h1.at_ (rdB_new bs w) (by omega) (fun _ g hg hs => ?_)).mono ?_
  · simp [Value.ownBlock] at hg
    have := h.at_.size g hs
    omega
  · rintro e w' ⟨rfl, p⟩
    obtain ⟨S', i1, i2, i3⟩ := h1.post p
    exact ⟨rfl, S', i1, fun g hg => (i2 g hg).imp id (fun e => Nat.le_trans BA.size e), (Kp.of_below BA S).trans i3 (fun _ _ h => h)⟩

set_option maxRecDepth 20000 in
set_option maxHeartbeats 4000000 in
theorem works_at (w : World) : Calls Try.prog 9 #[] w fun e w' => e = .returned (.bool true) ∧ Below w.heap.size w w' := by
  have NW : Hid (Calls Try.prog 17 #[] w (NewD w (Dk.load [] []))) := new_at w
  have A1 : Hid (∀ R S w', DkIn w R S ⟨[], 0, [], 0, [], 0, false⟩ w' → Calls Try.prog 18 #[.pointer (some ⟨R, 0, none⟩), .int .i64 1, .slice (some ⟨w'.heap.size, 0, none⟩) 2 2] (w'.alloc (.cells #[.int .u8 5, .int .u8 6] 5)) fun e w'' => e = .returned (.int .i64 0) ∧ ∃ S', DkIn w R S' ⟨[], 0, [5, 6], 0, [], 1, false⟩ w'' ∧ (∀ g, S' g → S g ∨ w'.heap.size ≤ g) ∧ Kp S w' w'') := fun R S w' h => append_new 1 [5, 6] (by decide) (by decide) h
  have A2 : Hid (∀ R S w', DkIn w R S ⟨[], 0, [5, 6], 0, [], 1, false⟩ w' → Calls Try.prog 19 #[.pointer (some ⟨R, 0, none⟩), .int .i64 1] w' fun e w'' => e = .returned (.int .i64 0) ∧ DkPost R S w' ⟨[], 0, [5, 6], 2, [], 2, false⟩ w'') := fun R S w' h => sync_at R S _ w' 1 (by decide) h.at_
  have A3 : Hid (∀ R S w', DkIn w R S ⟨[], 0, [5, 6], 2, [], 2, false⟩ w' → Calls Try.prog 20 #[.pointer (some ⟨R, 0, none⟩), .int .i64 1] w' (NewE w' ([5, 6], 0))) := fun R S w' h => durable_at R S _ w' 1 h.at_
  have A4 : Hid (∀ R S w', DkIn w R S ⟨[], 0, [5, 6], 2, [], 2, false⟩ w' → Calls Try.prog 21 #[.pointer (some ⟨R, 0, none⟩), .int .i64 1, .int .i64 0] w' fun e w'' => e = .returned (.int .i64 0) ∧ DkPost R S w' ⟨[], 0, [5, 6], 2, [(1, 0)], 2, false⟩ w'') := fun R S w' h => arm_at R S _ w' 1 0 h.at_
  have A5 : Hid (∀ R S w', DkIn w R S ⟨[], 0, [5, 6], 2, [(1, 0)], 2, false⟩ w' → Calls Try.prog 18 #[.pointer (some ⟨R, 0, none⟩), .int .i64 1, .slice (some ⟨w'.heap.size, 0, none⟩) 1 1] (w'.alloc (.cells #[.int .u8 7] 5)) fun e w'' => e = .returned (.int .i64 51) ∧ ∃ S', DkIn w R S' ⟨[], 0, [5, 6], 2, [], 3, true⟩ w'' ∧ (∀ g, S' g → S g ∨ w'.heap.size ≤ g) ∧ Kp S w' w'') := fun R S w' h => append_new 1 [7] (by decide) (by decide) h
  have A6 : Hid (∀ R S w', DkIn w R S ⟨[], 0, [5, 6], 2, [], 3, true⟩ w' → Calls Try.prog 22 #[.pointer (some ⟨R, 0, none⟩)] w' fun e w'' => e = .returned (.bool true) ∧ w'' = w') := fun R S w' h => down_at R S _ w' h.at_
  have A7 : Hid (∀ R S w', DkIn w R S ⟨[], 0, [5, 6], 2, [], 3, true⟩ w' → Calls Try.prog 23 #[.pointer (some ⟨R, 0, none⟩)] w' fun e w'' => e = .returned (.int .i64 0) ∧ DkPost R S w' ⟨[], 0, [5, 6], 2, [], 3, false⟩ w'') := fun R S w' h => restart_at R S _ w' h.at_
  have A8 : Hid (∀ R S w', DkIn w R S ⟨[], 0, [5, 6], 2, [], 3, false⟩ w' → Calls Try.prog 22 #[.pointer (some ⟨R, 0, none⟩)] w' fun e w'' => e = .returned (.bool false) ∧ w'' = w') := fun R S w' h => down_at R S _ w' h.at_
  have A9 : Hid (∀ R S w', DkIn w R S ⟨[], 0, [5, 6], 2, [], 3, false⟩ w' → Calls Try.prog 24 #[.pointer (some ⟨R, 0, none⟩), .int .i64 1] w' (NewE w' ([5, 6], 0))) := fun R S w' h => read_at R S _ w' 1 h.at_
  have A10 : Hid (∀ R S w', DkIn w R S ⟨[], 0, [5, 6], 2, [], 3, false⟩ w' → Calls Try.prog 18 #[.pointer (some ⟨R, 0, none⟩), .int .i64 1, .slice (some ⟨w'.heap.size, 0, none⟩) 1 1] (w'.alloc (.cells #[.int .u8 8] 5)) fun e w'' => e = .returned (.int .i64 0) ∧ ∃ S', DkIn w R S' ⟨[], 0, [5, 6, 8], 2, [], 4, false⟩ w'' ∧ (∀ g, S' g → S g ∨ w'.heap.size ≤ g) ∧ Kp S w' w'') := fun R S w' h => append_new 1 [8] (by decide) (by decide) h
  have A11 : Hid (∀ R S w', DkIn w R S ⟨[], 0, [5, 6, 8], 2, [], 4, false⟩ w' → Calls Try.prog 23 #[.pointer (some ⟨R, 0, none⟩)] w' fun e w'' => e = .returned (.int .i64 53) ∧ DkPost R S w' ⟨[], 0, [5, 6, 8], 2, [], 4, false⟩ w'') := fun R S w' h => restart_at R S _ w' h.at_
  have EQ : Hid (∀ a n c w', RdB w' (.slice a n c) [5, 6] → Calls Try.prog 13 #[.slice a n c, .slice (some ⟨w'.heap.size, 0, none⟩) 2 2] (w'.alloc (.cells #[.int .u8 5, .int .u8 6] 5)) fun e w'' => e = .returned (.bool true) ∧ ∃ n, w'' = (w'.alloc (.cells #[.int .u8 5, .int .u8 6] 5)).drewN n) := fun a n c w' h => equal_at [5, 6] [5, 6] _ _ _ (by decide) (Rd.later h (below_alloc _ _)) (rdB_new [5, 6] w')
  go_enter Try.func9, Try.ntmps9
  go_wp2_with fail
  refine NW.out.mono ?_
  rintro e w1 ⟨R, S1, rfl, d1, n1, b1⟩
  have I1 : DkIn w R S1 ⟨[], 0, [], 0, [], 0, false⟩ w1 := ⟨d1, n1, b1⟩
  clear d1 n1 b1 NW
  go_wp2_with fail
  refine (A1.out _ _ _ I1).mono ?_
  rintro e w2 ⟨rfl, S2, I2, _, _⟩
  clear I1 A1
  go_wp2_with fail
  refine (A2.out _ _ _ I2).mono ?_
  rintro e w3 ⟨rfl, p3⟩
  obtain ⟨S3, I3, _, _⟩ := I2.post p3
  clear I2 p3 A2
  go_wp2_with fail
  refine (A3.out _ _ _ I3).mono ?_
  rintro e w4 ⟨a4, c4, rfl, r4, b4⟩
  have I4 := I3.below b4
  have r4' : RdB w4 (.slice a4 2 c4) [5, 6] := r4.rd
  rw [show ([5, 6] : List Nat).length = 2 from rfl]
  clear I3 b4 r4 A3
  go_wp2_with fail
  refine (EQ.out _ _ _ _ r4').mono ?_
  rintro e w5 ⟨rfl, n5, rfl⟩
  have I5 := I4.below (below_drewN (below_alloc w4 (.cells #[.int .u8 5, .int .u8 6] 5)) n5)
  generalize (w4.alloc (.cells #[.int .u8 5, .int .u8 6] 5)).drewN n5 = w5 at *
  clear I4 r4'
  go_wp2_with fail
  refine (A4.out _ _ _ I5).mono ?_
  rintro e w6 ⟨rfl, p6⟩
  obtain ⟨S6, I6, _, _⟩ := I5.post p6
  clear I5 p6 A4
  go_wp2_with fail
  refine (A5.out _ _ _ I6).mono ?_
  rintro e w7 ⟨rfl, S7, I7, _, _⟩
  clear I6 A5
  go_wp2_with fail
  refine (A6.out _ _ _ I7).mono ?_
  rintro e w8 ⟨rfl, rfl⟩
  go_wp2_with fail
  refine (A7.out _ _ _ I7).mono ?_
  rintro e w9 ⟨rfl, p9⟩
  obtain ⟨S9, I9, _, _⟩ := I7.post p9
  clear I7 p9 A6 A7
  go_wp2_with fail
  refine (A8.out _ _ _ I9).mono ?_
  rintro e w10 ⟨rfl, rfl⟩
  go_wp2_with fail
  refine (A9.out _ _ _ I9).mono ?_
  rintro e w11 ⟨a11, c11, rfl, r11, b11⟩
  rw [show ([5, 6] : List Nat).length = 2 from rfl]
  have I11 := I9.below b11
  have AP : Hid (∀ g, (Value.slice a11 2 c11).ownBlock = some g → ¬ S9 g) := fun g hg hs => by have := r11.block_ge hg; have := I9.at_.size g hs; omega
  have r11' : RdB w11 (.slice a11 2 c11) [5, 6] := r11.rd
  clear I9 b11 r11 A8 A9
  go_wp2_with fail
  refine (A10.out _ _ _ I11).mono ?_
  rintro e w12 ⟨rfl, S12, I12, _, k12⟩
  have r12 := r11'.kp k12 AP.out
  clear I11 A10 r11' k12
  go_wp2_with fail
  refine (EQ.out _ _ _ _ r12).mono ?_
  rintro e w13 ⟨rfl, n13, rfl⟩
  have I13 := I12.below (below_drewN (below_alloc w12 (.cells #[.int .u8 5, .int .u8 6] 5)) n13)
  generalize (w12.alloc (.cells #[.int .u8 5, .int .u8 6] 5)).drewN n13 = w13 at *
  clear I12 r12 EQ
  go_wp2_with fail
  refine (A11.out _ _ _ I13).mono ?_
  rintro e w14 ⟨rfl, p14⟩
  obtain ⟨S14, I14, _, _⟩ := I13.post p14
  clear I13 p14 A11
  go_wp2_with fail
  go_ret
  exact ⟨rfl, I14.bel⟩
end Go.Proofs.Ytabedehmlpfjaaa
