/-
  Ours: the statements' Made (gen_polmade.py).
-/
import Derived.Test.YtcjmjbhbdojeiaaPolMk
namespace Go.Proofs.Ytcjmjbhbdojeiaa
open Go.RowKit LedM PolM

namespace PolM
def low (l : List Int) (k : Nat) : Int := frm l k
/-- The numbers of the policy that is made. -/
def madeL (l : List Int) : List Int :=
  let m0 := inV (l.getD 0 0) 1 3652059
  let m1 := inV (l.getD 1 0) 0 30
  let m2 := inV (l.getD 2 0) (m1 + 1) 365
  let m3 := inV (l.getD 3 0) 1 365
  let m4 := inV (l.getD 4 0) 0 10000
  let m5 := inV (l.getD 5 0) 0 1000000000
  let m6 := inV (l.getD 6 0) m5 1000000000
  let m7 := inV (l.getD 7 0) 0 1000000000
  let m8 := inV (l.getD 8 0) 0 1000000000
  let m9 := inV (l.getD 9 0) 0 8
  let m10 := inV (l.getD 10 0) 1 60
  let m11 := inV (l.getD 11 0) 0 4
  let m12 := inV (l.getD 12 0) 0 5
  let m13 := inV (l.getD 13 0) 0 3
  let m14 := inV (l.getD 14 0) 1 64
  let m15 := inV (l.getD 15 0) m14 64
  let m16 := inV (l.getD 16 0) 0 1000
  [m0, m1, m2, m3, m4, m5, m6, m7, m8, m9, m10, m11, m12, m13, m14, m15, m16]
theorem made_len (l : List Int) : (madeL l).length = 17 := rfl
theorem made_fld (l : List Int) (k : Nat) (hk : k < 17) : frm (madeL l) k ≤ (madeL l).getD k 0 ∧ (madeL l).getD k 0 ≤ tov k := by
  have h1 : 0 ≤ inV (l.getD 1 0) 0 30 ∧ inV (l.getD 1 0) 0 30 ≤ 30 := inV_in (by decide)
  have h5 : 0 ≤ inV (l.getD 5 0) 0 1000000000 ∧ inV (l.getD 5 0) 0 1000000000 ≤ 1000000000 := inV_in (by decide)
  have h14 : 1 ≤ inV (l.getD 14 0) 1 64 ∧ inV (l.getD 14 0) 1 64 ≤ 64 := inV_in (by decide)
  match k, hk with
  | 0, _ => exact inV_in (x := l.getD 0 0) (lo := 1) (hi := 3652059) (by decide)
  | 1, _ => exact inV_in (x := l.getD 1 0) (lo := 0) (hi := 30) (by decide)
  | 2, _ => exact inV_in (x := l.getD 2 0) (lo := inV (l.getD 1 0) 0 30 + 1) (hi := 365) (by omega)
  | 3, _ => exact inV_in (x := l.getD 3 0) (lo := 1) (hi := 365) (by decide)
  | 4, _ => exact inV_in (x := l.getD 4 0) (lo := 0) (hi := 10000) (by decide)
  | 5, _ => exact inV_in (x := l.getD 5 0) (lo := 0) (hi := 1000000000) (by decide)
  | 6, _ => exact inV_in (x := l.getD 6 0) (lo := inV (l.getD 5 0) 0 1000000000) (hi := 1000000000) (by omega)
  | 7, _ => exact inV_in (x := l.getD 7 0) (lo := 0) (hi := 1000000000) (by decide)
  | 8, _ => exact inV_in (x := l.getD 8 0) (lo := 0) (hi := 1000000000) (by decide)
  | 9, _ => exact inV_in (x := l.getD 9 0) (lo := 0) (hi := 8) (by decide)
  | 10, _ => exact inV_in (x := l.getD 10 0) (lo := 1) (hi := 60) (by decide)
  | 11, _ => exact inV_in (x := l.getD 11 0) (lo := 0) (hi := 4) (by decide)
  | 12, _ => exact inV_in (x := l.getD 12 0) (lo := 0) (hi := 5) (by decide)
  | 13, _ => exact inV_in (x := l.getD 13 0) (lo := 0) (hi := 3) (by decide)
  | 14, _ => exact inV_in (x := l.getD 14 0) (lo := 1) (hi := 64) (by decide)
  | 15, _ => exact inV_in (x := l.getD 15 0) (lo := inV (l.getD 14 0) 1 64) (hi := 64) (by omega)
  | 16, _ => exact inV_in (x := l.getD 16 0) (lo := 0) (hi := 1000) (by decide)
  | k + 17, h => omega
theorem made_at (l : List Int) (k : Nat) (hk : k < 17) : (madeL l).getD k 0 = inV (l.getD k 0) (frm (madeL l) k) (tov k) := by
  match k, hk with
  | 0, _ => rfl
  | 1, _ => rfl
  | 2, _ => rfl
  | 3, _ => rfl
  | 4, _ => rfl
  | 5, _ => rfl
  | 6, _ => rfl
  | 7, _ => rfl
  | 8, _ => rfl
  | 9, _ => rfl
  | 10, _ => rfl
  | 11, _ => rfl
  | 12, _ => rfl
  | 13, _ => rfl
  | 14, _ => rfl
  | 15, _ => rfl
  | 16, _ => rfl
  | k + 17, h => omega
theorem made_may (l hs : List Int) (j : Nat) (_ : j < 18) : may (madeL l) (risL 0 64 hs) j = true := by
  rw [may]
  split
  · exact decide_eq_true (made_fld l j (by assumption))
  · exact hol_ris hs
theorem made_good (l hs : List Int) : good (madeL l) (risL 0 64 hs) = true := good_of (made_may l hs)
end PolM

theorem list17 {l : List Int} (h : l.length = 17) : ∃ x0 x1 x2 x3 x4 x5 x6 x7 x8 x9 x10 x11 x12 x13 x14 x15 x16, l = [x0, x1, x2, x3, x4, x5, x6, x7, x8, x9, x10, x11, x12, x13, x14, x15, x16] := by
  match l, h with
  | [x0, x1, x2, x3, x4, x5, x6, x7, x8, x9, x10, x11, x12, x13, x14, x15, x16], _ => exact ⟨x0, x1, x2, x3, x4, x5, x6, x7, x8, x9, x10, x11, x12, x13, x14, x15, x16, rfl⟩

set_option maxRecDepth 20000 in
set_option maxHeartbeats 8000000 in
theorem made_any (l hs : List Int) (s : Value) (w : World) (hl : l.length = 17) (ok : ∀ k, i64 (l.getD k 0)) (hr : Rd w s (bkL hs)) (hb : hs.length ≤ 1000000) (okh : ∀ k, i64 (hs.getD k 0)) :
    Calls Try.prog 9 #[PV l s] w fun e w' => ∃ v, e = .returned (PV (madeL l) v) ∧ Rd w' v (bkL (risL 0 64 hs)) ∧ Below w.heap.size w w' := by
  have RI : Hid (∀ w', Below w.heap.size w w' → Calls Try.prog 27 #[s] w' fun e w'' => ∃ v, e = .returned v ∧ RowV 3 w'.heap.size w'' v (bkL (risL 0 64 hs)) ∧ Below w'.heap.size w' w'') := fun w' h => rising_at hs s w' (hr.later h) hb okh
  obtain ⟨ao, cp, rfl, -, -, -⟩ := hr
  rw [bkL_len] at RI ⊢
  obtain ⟨x0, x1, x2, x3, x4, x5, x6, x7, x8, x9, x10, x11, x12, x13, x14, x15, x16, rfl⟩ := list17 hl
  obtain ⟨m0, hm0⟩ : ∃ m, inV x0 1 3652059 = m := ⟨_, rfl⟩
  have nn0 : 1 ≤ m0 ∧ m0 ≤ 3652059 := by rw [← hm0]; exact inV_in (by omega)
  have WH0 : Hid (∀ w, Calls Try.prog 25 #[.int .i64 x0, .int .i64 1, .int .i64 3652059] w fun e w' => e = .returned (.int .i64 m0) ∧ w = w') := fun w => by rw [← hm0]; exact (whole_at _ _ _ w (by omega) (by omega) (by decide) (ok 0)).mono fun e w' ⟨h, h'⟩ => ⟨h, h'.symm⟩
  obtain ⟨m1, hm1⟩ : ∃ m, inV x1 0 30 = m := ⟨_, rfl⟩
  have nn1 : 0 ≤ m1 ∧ m1 ≤ 30 := by rw [← hm1]; exact inV_in (by omega)
  have WH1 : Hid (∀ w, Calls Try.prog 25 #[.int .i64 x1, .int .i64 0, .int .i64 30] w fun e w' => e = .returned (.int .i64 m1) ∧ w = w') := fun w => by rw [← hm1]; exact (whole_at _ _ _ w (by omega) (by omega) (by decide) (ok 1)).mono fun e w' ⟨h, h'⟩ => ⟨h, h'.symm⟩
  obtain ⟨m2, hm2⟩ : ∃ m, inV x2 (m1 + 1) 365 = m := ⟨_, rfl⟩
  have nn2 : (m1 + 1) ≤ m2 ∧ m2 ≤ 365 := by rw [← hm2]; exact inV_in (by omega)
  have WH2 : Hid (∀ w, Calls Try.prog 25 #[.int .i64 x2, .int .i64 (m1 + 1), .int .i64 365] w fun e w' => e = .returned (.int .i64 m2) ∧ w = w') := fun w => by rw [← hm2]; exact (whole_at _ _ _ w (by omega) (by omega) (by decide) (ok 2)).mono fun e w' ⟨h, h'⟩ => ⟨h, h'.symm⟩
  obtain ⟨m3, hm3⟩ : ∃ m, inV x3 1 365 = m := ⟨_, rfl⟩
  have nn3 : 1 ≤ m3 ∧ m3 ≤ 365 := by rw [← hm3]; exact inV_in (by omega)
  have WH3 : Hid (∀ w, Calls Try.prog 25 #[.int .i64 x3, .int .i64 1, .int .i64 365] w fun e w' => e = .returned (.int .i64 m3) ∧ w = w') := fun w => by rw [← hm3]; exact (whole_at _ _ _ w (by omega) (by omega) (by decide) (ok 3)).mono fun e w' ⟨h, h'⟩ => ⟨h, h'.symm⟩
  obtain ⟨m4, hm4⟩ : ∃ m, inV x4 0 10000 = m := ⟨_, rfl⟩
  have nn4 : 0 ≤ m4 ∧ m4 ≤ 10000 := by rw [← hm4]; exact inV_in (by omega)
  have WH4 : Hid (∀ w, Calls Try.prog 26 #[.int .i64 x4, .int .i64 0, .int .i64 10000] w fun e w' => e = .returned (.int .i64 m4) ∧ w = w') := fun w => by rw [← hm4]; exact (into_at _ _ _ w (by omega) (by omega) (by decide) (ok 4)).mono fun e w' ⟨h, h'⟩ => ⟨h, h'.symm⟩
  obtain ⟨m5, hm5⟩ : ∃ m, inV x5 0 1000000000 = m := ⟨_, rfl⟩
  have nn5 : 0 ≤ m5 ∧ m5 ≤ 1000000000 := by rw [← hm5]; exact inV_in (by omega)
  have WH5 : Hid (∀ w, Calls Try.prog 26 #[.int .i64 x5, .int .i64 0, .int .i64 1000000000] w fun e w' => e = .returned (.int .i64 m5) ∧ w = w') := fun w => by rw [← hm5]; exact (into_at _ _ _ w (by omega) (by omega) (by decide) (ok 5)).mono fun e w' ⟨h, h'⟩ => ⟨h, h'.symm⟩
  obtain ⟨m6, hm6⟩ : ∃ m, inV x6 m5 1000000000 = m := ⟨_, rfl⟩
  have nn6 : m5 ≤ m6 ∧ m6 ≤ 1000000000 := by rw [← hm6]; exact inV_in (by omega)
  have WH6 : Hid (∀ w, Calls Try.prog 26 #[.int .i64 x6, .int .i64 m5, .int .i64 1000000000] w fun e w' => e = .returned (.int .i64 m6) ∧ w = w') := fun w => by rw [← hm6]; exact (into_at _ _ _ w (by omega) (by omega) (by decide) (ok 6)).mono fun e w' ⟨h, h'⟩ => ⟨h, h'.symm⟩
  obtain ⟨m7, hm7⟩ : ∃ m, inV x7 0 1000000000 = m := ⟨_, rfl⟩
  have nn7 : 0 ≤ m7 ∧ m7 ≤ 1000000000 := by rw [← hm7]; exact inV_in (by omega)
  have WH7 : Hid (∀ w, Calls Try.prog 26 #[.int .i64 x7, .int .i64 0, .int .i64 1000000000] w fun e w' => e = .returned (.int .i64 m7) ∧ w = w') := fun w => by rw [← hm7]; exact (into_at _ _ _ w (by omega) (by omega) (by decide) (ok 7)).mono fun e w' ⟨h, h'⟩ => ⟨h, h'.symm⟩
  obtain ⟨m8, hm8⟩ : ∃ m, inV x8 0 1000000000 = m := ⟨_, rfl⟩
  have nn8 : 0 ≤ m8 ∧ m8 ≤ 1000000000 := by rw [← hm8]; exact inV_in (by omega)
  have WH8 : Hid (∀ w, Calls Try.prog 26 #[.int .i64 x8, .int .i64 0, .int .i64 1000000000] w fun e w' => e = .returned (.int .i64 m8) ∧ w = w') := fun w => by rw [← hm8]; exact (into_at _ _ _ w (by omega) (by omega) (by decide) (ok 8)).mono fun e w' ⟨h, h'⟩ => ⟨h, h'.symm⟩
  obtain ⟨m9, hm9⟩ : ∃ m, inV x9 0 8 = m := ⟨_, rfl⟩
  have nn9 : 0 ≤ m9 ∧ m9 ≤ 8 := by rw [← hm9]; exact inV_in (by omega)
  have WH9 : Hid (∀ w, Calls Try.prog 25 #[.int .i64 x9, .int .i64 0, .int .i64 8] w fun e w' => e = .returned (.int .i64 m9) ∧ w = w') := fun w => by rw [← hm9]; exact (whole_at _ _ _ w (by omega) (by omega) (by decide) (ok 9)).mono fun e w' ⟨h, h'⟩ => ⟨h, h'.symm⟩
  obtain ⟨m10, hm10⟩ : ∃ m, inV x10 1 60 = m := ⟨_, rfl⟩
  have nn10 : 1 ≤ m10 ∧ m10 ≤ 60 := by rw [← hm10]; exact inV_in (by omega)
  have WH10 : Hid (∀ w, Calls Try.prog 25 #[.int .i64 x10, .int .i64 1, .int .i64 60] w fun e w' => e = .returned (.int .i64 m10) ∧ w = w') := fun w => by rw [← hm10]; exact (whole_at _ _ _ w (by omega) (by omega) (by decide) (ok 10)).mono fun e w' ⟨h, h'⟩ => ⟨h, h'.symm⟩
  obtain ⟨m11, hm11⟩ : ∃ m, inV x11 0 4 = m := ⟨_, rfl⟩
  have nn11 : 0 ≤ m11 ∧ m11 ≤ 4 := by rw [← hm11]; exact inV_in (by omega)
  have WH11 : Hid (∀ w, Calls Try.prog 25 #[.int .i64 x11, .int .i64 0, .int .i64 4] w fun e w' => e = .returned (.int .i64 m11) ∧ w = w') := fun w => by rw [← hm11]; exact (whole_at _ _ _ w (by omega) (by omega) (by decide) (ok 11)).mono fun e w' ⟨h, h'⟩ => ⟨h, h'.symm⟩
  obtain ⟨m12, hm12⟩ : ∃ m, inV x12 0 5 = m := ⟨_, rfl⟩
  have nn12 : 0 ≤ m12 ∧ m12 ≤ 5 := by rw [← hm12]; exact inV_in (by omega)
  have WH12 : Hid (∀ w, Calls Try.prog 25 #[.int .i64 x12, .int .i64 0, .int .i64 5] w fun e w' => e = .returned (.int .i64 m12) ∧ w = w') := fun w => by rw [← hm12]; exact (whole_at _ _ _ w (by omega) (by omega) (by decide) (ok 12)).mono fun e w' ⟨h, h'⟩ => ⟨h, h'.symm⟩
  obtain ⟨m13, hm13⟩ : ∃ m, inV x13 0 3 = m := ⟨_, rfl⟩
  have nn13 : 0 ≤ m13 ∧ m13 ≤ 3 := by rw [← hm13]; exact inV_in (by omega)
  have WH13 : Hid (∀ w, Calls Try.prog 25 #[.int .i64 x13, .int .i64 0, .int .i64 3] w fun e w' => e = .returned (.int .i64 m13) ∧ w = w') := fun w => by rw [← hm13]; exact (whole_at _ _ _ w (by omega) (by omega) (by decide) (ok 13)).mono fun e w' ⟨h, h'⟩ => ⟨h, h'.symm⟩
  obtain ⟨m14, hm14⟩ : ∃ m, inV x14 1 64 = m := ⟨_, rfl⟩
  have nn14 : 1 ≤ m14 ∧ m14 ≤ 64 := by rw [← hm14]; exact inV_in (by omega)
  have WH14 : Hid (∀ w, Calls Try.prog 25 #[.int .i64 x14, .int .i64 1, .int .i64 64] w fun e w' => e = .returned (.int .i64 m14) ∧ w = w') := fun w => by rw [← hm14]; exact (whole_at _ _ _ w (by omega) (by omega) (by decide) (ok 14)).mono fun e w' ⟨h, h'⟩ => ⟨h, h'.symm⟩
  obtain ⟨m15, hm15⟩ : ∃ m, inV x15 m14 64 = m := ⟨_, rfl⟩
  have nn15 : m14 ≤ m15 ∧ m15 ≤ 64 := by rw [← hm15]; exact inV_in (by omega)
  have WH15 : Hid (∀ w, Calls Try.prog 25 #[.int .i64 x15, .int .i64 m14, .int .i64 64] w fun e w' => e = .returned (.int .i64 m15) ∧ w = w') := fun w => by rw [← hm15]; exact (whole_at _ _ _ w (by omega) (by omega) (by decide) (ok 15)).mono fun e w' ⟨h, h'⟩ => ⟨h, h'.symm⟩
  obtain ⟨m16, hm16⟩ : ∃ m, inV x16 0 1000 = m := ⟨_, rfl⟩
  have nn16 : 0 ≤ m16 ∧ m16 ≤ 1000 := by rw [← hm16]; exact inV_in (by omega)
  have WH16 : Hid (∀ w, Calls Try.prog 25 #[.int .i64 x16, .int .i64 0, .int .i64 1000] w fun e w' => e = .returned (.int .i64 m16) ∧ w = w') := fun w => by rw [← hm16]; exact (whole_at _ _ _ w (by omega) (by omega) (by decide) (ok 16)).mono fun e w' ⟨h, h'⟩ => ⟨h, h'.symm⟩
  have ML : Hid (madeL [x0, x1, x2, x3, x4, x5, x6, x7, x8, x9, x10, x11, x12, x13, x14, x15, x16] = [m0, m1, m2, m3, m4, m5, m6, m7, m8, m9, m10, m11, m12, m13, m14, m15, m16]) := by show _ = _; rw [← hm16, ← hm15, ← hm14, ← hm13, ← hm12, ← hm11, ← hm10, ← hm9, ← hm8, ← hm7, ← hm6, ← hm5, ← hm4, ← hm3, ← hm2, ← hm1, ← hm0]; rfl
  rw [ML.out]
  clear hm0 hm1 hm2 hm3 hm4 hm5 hm6 hm7 hm8 hm9 hm10 hm11 hm12 hm13 hm14 hm15 hm16 ok okh hb hl ML
  obtain ⟨d1, d2⟩ := nn1
  clear nn0 nn2 nn3 nn4 nn5 nn6 nn7 nn8 nn9 nn10 nn11 nn12 nn13 nn14 nn15 nn16
  obtain ⟨s, hs'⟩ : ∃ s : Value, s = .slice ao hs.length cp := ⟨_, rfl⟩
  rw [← hs'] at RI ⊢
  have OS : Hid (s.oneCell' = true) := by show _ = _; rw [hs']; rfl
  show Calls _ _ #[.agg #[.int .i64 x0, .int .i64 x1, .int .i64 x2, .int .i64 x3, .int .i64 x4, .int .i64 x5, .int .i64 x6, .int .i64 x7, .int .i64 x8, .int .i64 x9, .int .i64 x10, .int .i64 x11, .int .i64 x12, .int .i64 x13, .int .i64 x14, .int .i64 x15, .int .i64 x16, s]] _ _
  have Q0 : Hid (Blk w.heap.size 24 [.int .i64 x0, .int .i64 x1, .int .i64 x2, .int .i64 x3, .int .i64 x4, .int .i64 x5, .int .i64 x6, .int .i64 x7, .int .i64 x8, .int .i64 x9, .int .i64 x10, .int .i64 x11, .int .i64 x12, .int .i64 x13, .int .i64 x14, .int .i64 x15, .int .i64 x16, s] ((w.alloc (.cells #[.int .i64 x0, .int .i64 x1, .int .i64 x2, .int .i64 x3, .int .i64 x4, .int .i64 x5, .int .i64 x6, .int .i64 x7, .int .i64 x8, .int .i64 x9, .int .i64 x10, .int .i64 x11, .int .i64 x12, .int .i64 x13, .int .i64 x14, .int .i64 x15, .int .i64 x16, s] 24)).alloc (.cells #[.int .i64 0, .int .i64 0, .int .i64 0, .int .i64 0, .int .i64 0, .int .i64 0, .int .i64 0, .int .i64 0, .int .i64 0, .int .i64 0, .int .i64 0, .int .i64 0, .int .i64 0, .int .i64 0, .int .i64 0, .int .i64 0, .int .i64 0, .slice none 0 0] 24))) := (Blk.new _ _ _).below (below_alloc _ _)
  have Z0 : Hid (Blk (w.heap.size + 1) 24 polZ ((w.alloc (.cells #[.int .i64 x0, .int .i64 x1, .int .i64 x2, .int .i64 x3, .int .i64 x4, .int .i64 x5, .int .i64 x6, .int .i64 x7, .int .i64 x8, .int .i64 x9, .int .i64 x10, .int .i64 x11, .int .i64 x12, .int .i64 x13, .int .i64 x14, .int .i64 x15, .int .i64 x16, s] 24)).alloc (.cells #[.int .i64 0, .int .i64 0, .int .i64 0, .int .i64 0, .int .i64 0, .int .i64 0, .int .i64 0, .int .i64 0, .int .i64 0, .int .i64 0, .int .i64 0, .int .i64 0, .int .i64 0, .int .i64 0, .int .i64 0, .int .i64 0, .int .i64 0, .slice none 0 0] 24))) := Blk.new2 _ _ _ _
  have B0 : Hid (Below w.heap.size w ((w.alloc (.cells #[.int .i64 x0, .int .i64 x1, .int .i64 x2, .int .i64 x3, .int .i64 x4, .int .i64 x5, .int .i64 x6, .int .i64 x7, .int .i64 x8, .int .i64 x9, .int .i64 x10, .int .i64 x11, .int .i64 x12, .int .i64 x13, .int .i64 x14, .int .i64 x15, .int .i64 x16, s] 24)).alloc (.cells #[.int .i64 0, .int .i64 0, .int .i64 0, .int .i64 0, .int .i64 0, .int .i64 0, .int .i64 0, .int .i64 0, .int .i64 0, .int .i64 0, .int .i64 0, .int .i64 0, .int .i64 0, .int .i64 0, .int .i64 0, .int .i64 0, .int .i64 0, .slice none 0 0] 24)) ∧ w.heap.size + 2 ≤ ((w.alloc (.cells #[.int .i64 x0, .int .i64 x1, .int .i64 x2, .int .i64 x3, .int .i64 x4, .int .i64 x5, .int .i64 x6, .int .i64 x7, .int .i64 x8, .int .i64 x9, .int .i64 x10, .int .i64 x11, .int .i64 x12, .int .i64 x13, .int .i64 x14, .int .i64 x15, .int .i64 x16, s] 24)).alloc (.cells #[.int .i64 0, .int .i64 0, .int .i64 0, .int .i64 0, .int .i64 0, .int .i64 0, .int .i64 0, .int .i64 0, .int .i64 0, .int .i64 0, .int .i64 0, .int .i64 0, .int .i64 0, .int .i64 0, .int .i64 0, .int .i64 0, .int .i64 0, .slice none 0 0] 24)).heap.size) := ⟨below_trans (below_alloc _ _) (below_alloc _ _), by simp⟩
  clear hs'
  go_enter Try.func9, Try.ntmps9
  go_upto_region 1 with fail
  generalize (w.alloc (.cells #[.int .i64 x0, .int .i64 x1, .int .i64 x2, .int .i64 x3, .int .i64 x4, .int .i64 x5, .int .i64 x6, .int .i64 x7, .int .i64 x8, .int .i64 x9, .int .i64 x10, .int .i64 x11, .int .i64 x12, .int .i64 x13, .int .i64 x14, .int .i64 x15, .int .i64 x16, s] 24)).alloc (.cells #[.int .i64 0, .int .i64 0, .int .i64 0, .int .i64 0, .int .i64 0, .int .i64 0, .int .i64 0, .int .i64 0, .int .i64 0, .int .i64 0, .int .i64 0, .int .i64 0, .int .i64 0, .int .i64 0, .int .i64 0, .int .i64 0, .int .i64 0, .slice none 0 0] 24) = w0 at *
  have a0 := Q0.out.cell 0 _ rfl
  have f0 := Q0.out.fz 0
  have Q1 : Hid (Blk w.heap.size 24 [.int .i64 m0, .int .i64 x1, .int .i64 x2, .int .i64 x3, .int .i64 x4, .int .i64 x5, .int .i64 x6, .int .i64 x7, .int .i64 x8, .int .i64 x9, .int .i64 x10, .int .i64 x11, .int .i64 x12, .int .i64 x13, .int .i64 x14, .int .i64 x15, .int .i64 x16, s] (w0.setCell ⟨w.heap.size, 0, none⟩ (.int .i64 m0))) := Q0.out.set (i := 0) (.int .i64 m0)
  have Z1 : Hid (Blk (w.heap.size + 1) 24 polZ (w0.setCell ⟨w.heap.size, 0, none⟩ (.int .i64 m0))) := Z0.out.grown (setCell_grown _ _ _ _) (fun e => by injection e with e; omega)
  have B1 : Hid (Below w.heap.size w (w0.setCell ⟨w.heap.size, 0, none⟩ (.int .i64 m0)) ∧ w.heap.size + 2 ≤ (w0.setCell ⟨w.heap.size, 0, none⟩ (.int .i64 m0)).heap.size) := ⟨below_row B0.out.1 (setCell_grown _ _ _ _) (Nat.le_refl _), by have := B0.out.2; simpa using this⟩
  go_upto_region 2 with (go_at_call 25; refine (WH0.out _).mono ?_; rintro e w' ⟨rfl, rfl⟩)
  generalize w0.setCell ⟨w.heap.size, 0, none⟩ (.int .i64 m0) = w1 at *
  clear a0 f0 Q0 Z0 B0 WH0
  have a1 := Q1.out.cell 1 _ rfl
  have f1 := Q1.out.fz 1
  have Q2 : Hid (Blk w.heap.size 24 [.int .i64 m0, .int .i64 m1, .int .i64 x2, .int .i64 x3, .int .i64 x4, .int .i64 x5, .int .i64 x6, .int .i64 x7, .int .i64 x8, .int .i64 x9, .int .i64 x10, .int .i64 x11, .int .i64 x12, .int .i64 x13, .int .i64 x14, .int .i64 x15, .int .i64 x16, s] (w1.setCell ⟨w.heap.size, 1, none⟩ (.int .i64 m1))) := Q1.out.set (i := 1) (.int .i64 m1)
  have Z2 : Hid (Blk (w.heap.size + 1) 24 polZ (w1.setCell ⟨w.heap.size, 1, none⟩ (.int .i64 m1))) := Z1.out.grown (setCell_grown _ _ _ _) (fun e => by injection e with e; omega)
  have B2 : Hid (Below w.heap.size w (w1.setCell ⟨w.heap.size, 1, none⟩ (.int .i64 m1)) ∧ w.heap.size + 2 ≤ (w1.setCell ⟨w.heap.size, 1, none⟩ (.int .i64 m1)).heap.size) := ⟨below_row B1.out.1 (setCell_grown _ _ _ _) (Nat.le_refl _), by have := B1.out.2; simpa using this⟩
  go_upto_region 3 with (go_at_call 25; refine (WH1.out _).mono ?_; rintro e w' ⟨rfl, rfl⟩)
  generalize w1.setCell ⟨w.heap.size, 1, none⟩ (.int .i64 m1) = w2 at *
  clear a1 f1 Q1 Z1 B1 WH1
  have a2 := Q2.out.cell 2 _ rfl
  have f2 := Q2.out.fz 2
  have b2 := Q2.out.cell 1 _ rfl
  have Q3 : Hid (Blk w.heap.size 24 [.int .i64 m0, .int .i64 m1, .int .i64 m2, .int .i64 x3, .int .i64 x4, .int .i64 x5, .int .i64 x6, .int .i64 x7, .int .i64 x8, .int .i64 x9, .int .i64 x10, .int .i64 x11, .int .i64 x12, .int .i64 x13, .int .i64 x14, .int .i64 x15, .int .i64 x16, s] (w2.setCell ⟨w.heap.size, 2, none⟩ (.int .i64 m2))) := Q2.out.set (i := 2) (.int .i64 m2)
  have Z3 : Hid (Blk (w.heap.size + 1) 24 polZ (w2.setCell ⟨w.heap.size, 2, none⟩ (.int .i64 m2))) := Z2.out.grown (setCell_grown _ _ _ _) (fun e => by injection e with e; omega)
  have B3 : Hid (Below w.heap.size w (w2.setCell ⟨w.heap.size, 2, none⟩ (.int .i64 m2)) ∧ w.heap.size + 2 ≤ (w2.setCell ⟨w.heap.size, 2, none⟩ (.int .i64 m2)).heap.size) := ⟨below_row B2.out.1 (setCell_grown _ _ _ _) (Nat.le_refl _), by have := B2.out.2; simpa using this⟩
  go_upto_region 4 with (go_at_call 25; refine (WH2.out _).mono ?_; rintro e w' ⟨rfl, rfl⟩)
  generalize w2.setCell ⟨w.heap.size, 2, none⟩ (.int .i64 m2) = w3 at *
  clear a2 f2 b2 Q2 Z2 B2 WH2
  have a3 := Q3.out.cell 3 _ rfl
  have f3 := Q3.out.fz 3
  have Q4 : Hid (Blk w.heap.size 24 [.int .i64 m0, .int .i64 m1, .int .i64 m2, .int .i64 m3, .int .i64 x4, .int .i64 x5, .int .i64 x6, .int .i64 x7, .int .i64 x8, .int .i64 x9, .int .i64 x10, .int .i64 x11, .int .i64 x12, .int .i64 x13, .int .i64 x14, .int .i64 x15, .int .i64 x16, s] (w3.setCell ⟨w.heap.size, 3, none⟩ (.int .i64 m3))) := Q3.out.set (i := 3) (.int .i64 m3)
  have Z4 : Hid (Blk (w.heap.size + 1) 24 polZ (w3.setCell ⟨w.heap.size, 3, none⟩ (.int .i64 m3))) := Z3.out.grown (setCell_grown _ _ _ _) (fun e => by injection e with e; omega)
  have B4 : Hid (Below w.heap.size w (w3.setCell ⟨w.heap.size, 3, none⟩ (.int .i64 m3)) ∧ w.heap.size + 2 ≤ (w3.setCell ⟨w.heap.size, 3, none⟩ (.int .i64 m3)).heap.size) := ⟨below_row B3.out.1 (setCell_grown _ _ _ _) (Nat.le_refl _), by have := B3.out.2; simpa using this⟩
  go_upto_region 5 with (go_at_call 25; refine (WH3.out _).mono ?_; rintro e w' ⟨rfl, rfl⟩)
  generalize w3.setCell ⟨w.heap.size, 3, none⟩ (.int .i64 m3) = w4 at *
  clear a3 f3 Q3 Z3 B3 WH3
  have a4 := Q4.out.cell 4 _ rfl
  have f4 := Q4.out.fz 4
  have Q5 : Hid (Blk w.heap.size 24 [.int .i64 m0, .int .i64 m1, .int .i64 m2, .int .i64 m3, .int .i64 m4, .int .i64 x5, .int .i64 x6, .int .i64 x7, .int .i64 x8, .int .i64 x9, .int .i64 x10, .int .i64 x11, .int .i64 x12, .int .i64 x13, .int .i64 x14, .int .i64 x15, .int .i64 x16, s] (w4.setCell ⟨w.heap.size, 4, none⟩ (.int .i64 m4))) := Q4.out.set (i := 4) (.int .i64 m4)
  have Z5 : Hid (Blk (w.heap.size + 1) 24 polZ (w4.setCell ⟨w.heap.size, 4, none⟩ (.int .i64 m4))) := Z4.out.grown (setCell_grown _ _ _ _) (fun e => by injection e with e; omega)
  have B5 : Hid (Below w.heap.size w (w4.setCell ⟨w.heap.size, 4, none⟩ (.int .i64 m4)) ∧ w.heap.size + 2 ≤ (w4.setCell ⟨w.heap.size, 4, none⟩ (.int .i64 m4)).heap.size) := ⟨below_row B4.out.1 (setCell_grown _ _ _ _) (Nat.le_refl _), by have := B4.out.2; simpa using this⟩
  go_upto_region 6 with (go_at_call 26; refine (WH4.out _).mono ?_; rintro e w' ⟨rfl, rfl⟩)
  generalize w4.setCell ⟨w.heap.size, 4, none⟩ (.int .i64 m4) = w5 at *
  clear a4 f4 Q4 Z4 B4 WH4
  have a5 := Q5.out.cell 5 _ rfl
  have f5 := Q5.out.fz 5
  have Q6 : Hid (Blk w.heap.size 24 [.int .i64 m0, .int .i64 m1, .int .i64 m2, .int .i64 m3, .int .i64 m4, .int .i64 m5, .int .i64 x6, .int .i64 x7, .int .i64 x8, .int .i64 x9, .int .i64 x10, .int .i64 x11, .int .i64 x12, .int .i64 x13, .int .i64 x14, .int .i64 x15, .int .i64 x16, s] (w5.setCell ⟨w.heap.size, 5, none⟩ (.int .i64 m5))) := Q5.out.set (i := 5) (.int .i64 m5)
  have Z6 : Hid (Blk (w.heap.size + 1) 24 polZ (w5.setCell ⟨w.heap.size, 5, none⟩ (.int .i64 m5))) := Z5.out.grown (setCell_grown _ _ _ _) (fun e => by injection e with e; omega)
  have B6 : Hid (Below w.heap.size w (w5.setCell ⟨w.heap.size, 5, none⟩ (.int .i64 m5)) ∧ w.heap.size + 2 ≤ (w5.setCell ⟨w.heap.size, 5, none⟩ (.int .i64 m5)).heap.size) := ⟨below_row B5.out.1 (setCell_grown _ _ _ _) (Nat.le_refl _), by have := B5.out.2; simpa using this⟩
  go_upto_region 7 with (go_at_call 26; refine (WH5.out _).mono ?_; rintro e w' ⟨rfl, rfl⟩)
  generalize w5.setCell ⟨w.heap.size, 5, none⟩ (.int .i64 m5) = w6 at *
  clear a5 f5 Q5 Z5 B5 WH5
  have a6 := Q6.out.cell 6 _ rfl
  have f6 := Q6.out.fz 6
  have b6 := Q6.out.cell 5 _ rfl
  have Q7 : Hid (Blk w.heap.size 24 [.int .i64 m0, .int .i64 m1, .int .i64 m2, .int .i64 m3, .int .i64 m4, .int .i64 m5, .int .i64 m6, .int .i64 x7, .int .i64 x8, .int .i64 x9, .int .i64 x10, .int .i64 x11, .int .i64 x12, .int .i64 x13, .int .i64 x14, .int .i64 x15, .int .i64 x16, s] (w6.setCell ⟨w.heap.size, 6, none⟩ (.int .i64 m6))) := Q6.out.set (i := 6) (.int .i64 m6)
  have Z7 : Hid (Blk (w.heap.size + 1) 24 polZ (w6.setCell ⟨w.heap.size, 6, none⟩ (.int .i64 m6))) := Z6.out.grown (setCell_grown _ _ _ _) (fun e => by injection e with e; omega)
  have B7 : Hid (Below w.heap.size w (w6.setCell ⟨w.heap.size, 6, none⟩ (.int .i64 m6)) ∧ w.heap.size + 2 ≤ (w6.setCell ⟨w.heap.size, 6, none⟩ (.int .i64 m6)).heap.size) := ⟨below_row B6.out.1 (setCell_grown _ _ _ _) (Nat.le_refl _), by have := B6.out.2; simpa using this⟩
  go_upto_region 8 with (go_at_call 26; refine (WH6.out _).mono ?_; rintro e w' ⟨rfl, rfl⟩)
  generalize w6.setCell ⟨w.heap.size, 6, none⟩ (.int .i64 m6) = w7 at *
  clear a6 f6 b6 Q6 Z6 B6 WH6
  have a7 := Q7.out.cell 7 _ rfl
  have f7 := Q7.out.fz 7
  have Q8 : Hid (Blk w.heap.size 24 [.int .i64 m0, .int .i64 m1, .int .i64 m2, .int .i64 m3, .int .i64 m4, .int .i64 m5, .int .i64 m6, .int .i64 m7, .int .i64 x8, .int .i64 x9, .int .i64 x10, .int .i64 x11, .int .i64 x12, .int .i64 x13, .int .i64 x14, .int .i64 x15, .int .i64 x16, s] (w7.setCell ⟨w.heap.size, 7, none⟩ (.int .i64 m7))) := Q7.out.set (i := 7) (.int .i64 m7)
  have Z8 : Hid (Blk (w.heap.size + 1) 24 polZ (w7.setCell ⟨w.heap.size, 7, none⟩ (.int .i64 m7))) := Z7.out.grown (setCell_grown _ _ _ _) (fun e => by injection e with e; omega)
  have B8 : Hid (Below w.heap.size w (w7.setCell ⟨w.heap.size, 7, none⟩ (.int .i64 m7)) ∧ w.heap.size + 2 ≤ (w7.setCell ⟨w.heap.size, 7, none⟩ (.int .i64 m7)).heap.size) := ⟨below_row B7.out.1 (setCell_grown _ _ _ _) (Nat.le_refl _), by have := B7.out.2; simpa using this⟩
  go_upto_region 9 with (go_at_call 26; refine (WH7.out _).mono ?_; rintro e w' ⟨rfl, rfl⟩)
  generalize w7.setCell ⟨w.heap.size, 7, none⟩ (.int .i64 m7) = w8 at *
  clear a7 f7 Q7 Z7 B7 WH7
  have a8 := Q8.out.cell 8 _ rfl
  have f8 := Q8.out.fz 8
  have Q9 : Hid (Blk w.heap.size 24 [.int .i64 m0, .int .i64 m1, .int .i64 m2, .int .i64 m3, .int .i64 m4, .int .i64 m5, .int .i64 m6, .int .i64 m7, .int .i64 m8, .int .i64 x9, .int .i64 x10, .int .i64 x11, .int .i64 x12, .int .i64 x13, .int .i64 x14, .int .i64 x15, .int .i64 x16, s] (w8.setCell ⟨w.heap.size, 8, none⟩ (.int .i64 m8))) := Q8.out.set (i := 8) (.int .i64 m8)
  have Z9 : Hid (Blk (w.heap.size + 1) 24 polZ (w8.setCell ⟨w.heap.size, 8, none⟩ (.int .i64 m8))) := Z8.out.grown (setCell_grown _ _ _ _) (fun e => by injection e with e; omega)
  have B9 : Hid (Below w.heap.size w (w8.setCell ⟨w.heap.size, 8, none⟩ (.int .i64 m8)) ∧ w.heap.size + 2 ≤ (w8.setCell ⟨w.heap.size, 8, none⟩ (.int .i64 m8)).heap.size) := ⟨below_row B8.out.1 (setCell_grown _ _ _ _) (Nat.le_refl _), by have := B8.out.2; simpa using this⟩
  go_upto_region 10 with (go_at_call 26; refine (WH8.out _).mono ?_; rintro e w' ⟨rfl, rfl⟩)
  generalize w8.setCell ⟨w.heap.size, 8, none⟩ (.int .i64 m8) = w9 at *
  clear a8 f8 Q8 Z8 B8 WH8
  have a9 := Q9.out.cell 9 _ rfl
  have f9 := Q9.out.fz 9
  have Q10 : Hid (Blk w.heap.size 24 [.int .i64 m0, .int .i64 m1, .int .i64 m2, .int .i64 m3, .int .i64 m4, .int .i64 m5, .int .i64 m6, .int .i64 m7, .int .i64 m8, .int .i64 m9, .int .i64 x10, .int .i64 x11, .int .i64 x12, .int .i64 x13, .int .i64 x14, .int .i64 x15, .int .i64 x16, s] (w9.setCell ⟨w.heap.size, 9, none⟩ (.int .i64 m9))) := Q9.out.set (i := 9) (.int .i64 m9)
  have Z10 : Hid (Blk (w.heap.size + 1) 24 polZ (w9.setCell ⟨w.heap.size, 9, none⟩ (.int .i64 m9))) := Z9.out.grown (setCell_grown _ _ _ _) (fun e => by injection e with e; omega)
  have B10 : Hid (Below w.heap.size w (w9.setCell ⟨w.heap.size, 9, none⟩ (.int .i64 m9)) ∧ w.heap.size + 2 ≤ (w9.setCell ⟨w.heap.size, 9, none⟩ (.int .i64 m9)).heap.size) := ⟨below_row B9.out.1 (setCell_grown _ _ _ _) (Nat.le_refl _), by have := B9.out.2; simpa using this⟩
  go_upto_region 11 with (go_at_call 25; refine (WH9.out _).mono ?_; rintro e w' ⟨rfl, rfl⟩)
  generalize w9.setCell ⟨w.heap.size, 9, none⟩ (.int .i64 m9) = w10 at *
  clear a9 f9 Q9 Z9 B9 WH9
  have a10 := Q10.out.cell 10 _ rfl
  have f10 := Q10.out.fz 10
  have Q11 : Hid (Blk w.heap.size 24 [.int .i64 m0, .int .i64 m1, .int .i64 m2, .int .i64 m3, .int .i64 m4, .int .i64 m5, .int .i64 m6, .int .i64 m7, .int .i64 m8, .int .i64 m9, .int .i64 m10, .int .i64 x11, .int .i64 x12, .int .i64 x13, .int .i64 x14, .int .i64 x15, .int .i64 x16, s] (w10.setCell ⟨w.heap.size, 10, none⟩ (.int .i64 m10))) := Q10.out.set (i := 10) (.int .i64 m10)
  have Z11 : Hid (Blk (w.heap.size + 1) 24 polZ (w10.setCell ⟨w.heap.size, 10, none⟩ (.int .i64 m10))) := Z10.out.grown (setCell_grown _ _ _ _) (fun e => by injection e with e; omega)
  have B11 : Hid (Below w.heap.size w (w10.setCell ⟨w.heap.size, 10, none⟩ (.int .i64 m10)) ∧ w.heap.size + 2 ≤ (w10.setCell ⟨w.heap.size, 10, none⟩ (.int .i64 m10)).heap.size) := ⟨below_row B10.out.1 (setCell_grown _ _ _ _) (Nat.le_refl _), by have := B10.out.2; simpa using this⟩
  go_upto_region 12 with (go_at_call 25; refine (WH10.out _).mono ?_; rintro e w' ⟨rfl, rfl⟩)
  generalize w10.setCell ⟨w.heap.size, 10, none⟩ (.int .i64 m10) = w11 at *
  clear a10 f10 Q10 Z10 B10 WH10
  have a11 := Q11.out.cell 11 _ rfl
  have f11 := Q11.out.fz 11
  have Q12 : Hid (Blk w.heap.size 24 [.int .i64 m0, .int .i64 m1, .int .i64 m2, .int .i64 m3, .int .i64 m4, .int .i64 m5, .int .i64 m6, .int .i64 m7, .int .i64 m8, .int .i64 m9, .int .i64 m10, .int .i64 m11, .int .i64 x12, .int .i64 x13, .int .i64 x14, .int .i64 x15, .int .i64 x16, s] (w11.setCell ⟨w.heap.size, 11, none⟩ (.int .i64 m11))) := Q11.out.set (i := 11) (.int .i64 m11)
  have Z12 : Hid (Blk (w.heap.size + 1) 24 polZ (w11.setCell ⟨w.heap.size, 11, none⟩ (.int .i64 m11))) := Z11.out.grown (setCell_grown _ _ _ _) (fun e => by injection e with e; omega)
  have B12 : Hid (Below w.heap.size w (w11.setCell ⟨w.heap.size, 11, none⟩ (.int .i64 m11)) ∧ w.heap.size + 2 ≤ (w11.setCell ⟨w.heap.size, 11, none⟩ (.int .i64 m11)).heap.size) := ⟨below_row B11.out.1 (setCell_grown _ _ _ _) (Nat.le_refl _), by have := B11.out.2; simpa using this⟩
  go_upto_region 13 with (go_at_call 25; refine (WH11.out _).mono ?_; rintro e w' ⟨rfl, rfl⟩)
  generalize w11.setCell ⟨w.heap.size, 11, none⟩ (.int .i64 m11) = w12 at *
  clear a11 f11 Q11 Z11 B11 WH11
  have a12 := Q12.out.cell 12 _ rfl
  have f12 := Q12.out.fz 12
  have Q13 : Hid (Blk w.heap.size 24 [.int .i64 m0, .int .i64 m1, .int .i64 m2, .int .i64 m3, .int .i64 m4, .int .i64 m5, .int .i64 m6, .int .i64 m7, .int .i64 m8, .int .i64 m9, .int .i64 m10, .int .i64 m11, .int .i64 m12, .int .i64 x13, .int .i64 x14, .int .i64 x15, .int .i64 x16, s] (w12.setCell ⟨w.heap.size, 12, none⟩ (.int .i64 m12))) := Q12.out.set (i := 12) (.int .i64 m12)
  have Z13 : Hid (Blk (w.heap.size + 1) 24 polZ (w12.setCell ⟨w.heap.size, 12, none⟩ (.int .i64 m12))) := Z12.out.grown (setCell_grown _ _ _ _) (fun e => by injection e with e; omega)
  have B13 : Hid (Below w.heap.size w (w12.setCell ⟨w.heap.size, 12, none⟩ (.int .i64 m12)) ∧ w.heap.size + 2 ≤ (w12.setCell ⟨w.heap.size, 12, none⟩ (.int .i64 m12)).heap.size) := ⟨below_row B12.out.1 (setCell_grown _ _ _ _) (Nat.le_refl _), by have := B12.out.2; simpa using this⟩
  go_upto_region 14 with (go_at_call 25; refine (WH12.out _).mono ?_; rintro e w' ⟨rfl, rfl⟩)
  generalize w12.setCell ⟨w.heap.size, 12, none⟩ (.int .i64 m12) = w13 at *
  clear a12 f12 Q12 Z12 B12 WH12
  have a13 := Q13.out.cell 13 _ rfl
  have f13 := Q13.out.fz 13
  have Q14 : Hid (Blk w.heap.size 24 [.int .i64 m0, .int .i64 m1, .int .i64 m2, .int .i64 m3, .int .i64 m4, .int .i64 m5, .int .i64 m6, .int .i64 m7, .int .i64 m8, .int .i64 m9, .int .i64 m10, .int .i64 m11, .int .i64 m12, .int .i64 m13, .int .i64 x14, .int .i64 x15, .int .i64 x16, s] (w13.setCell ⟨w.heap.size, 13, none⟩ (.int .i64 m13))) := Q13.out.set (i := 13) (.int .i64 m13)
  have Z14 : Hid (Blk (w.heap.size + 1) 24 polZ (w13.setCell ⟨w.heap.size, 13, none⟩ (.int .i64 m13))) := Z13.out.grown (setCell_grown _ _ _ _) (fun e => by injection e with e; omega)
  have B14 : Hid (Below w.heap.size w (w13.setCell ⟨w.heap.size, 13, none⟩ (.int .i64 m13)) ∧ w.heap.size + 2 ≤ (w13.setCell ⟨w.heap.size, 13, none⟩ (.int .i64 m13)).heap.size) := ⟨below_row B13.out.1 (setCell_grown _ _ _ _) (Nat.le_refl _), by have := B13.out.2; simpa using this⟩
  go_upto_region 15 with (go_at_call 25; refine (WH13.out _).mono ?_; rintro e w' ⟨rfl, rfl⟩)
  generalize w13.setCell ⟨w.heap.size, 13, none⟩ (.int .i64 m13) = w14 at *
  clear a13 f13 Q13 Z13 B13 WH13
  have a14 := Q14.out.cell 14 _ rfl
  have f14 := Q14.out.fz 14
  have Q15 : Hid (Blk w.heap.size 24 [.int .i64 m0, .int .i64 m1, .int .i64 m2, .int .i64 m3, .int .i64 m4, .int .i64 m5, .int .i64 m6, .int .i64 m7, .int .i64 m8, .int .i64 m9, .int .i64 m10, .int .i64 m11, .int .i64 m12, .int .i64 m13, .int .i64 m14, .int .i64 x15, .int .i64 x16, s] (w14.setCell ⟨w.heap.size, 14, none⟩ (.int .i64 m14))) := Q14.out.set (i := 14) (.int .i64 m14)
  have Z15 : Hid (Blk (w.heap.size + 1) 24 polZ (w14.setCell ⟨w.heap.size, 14, none⟩ (.int .i64 m14))) := Z14.out.grown (setCell_grown _ _ _ _) (fun e => by injection e with e; omega)
  have B15 : Hid (Below w.heap.size w (w14.setCell ⟨w.heap.size, 14, none⟩ (.int .i64 m14)) ∧ w.heap.size + 2 ≤ (w14.setCell ⟨w.heap.size, 14, none⟩ (.int .i64 m14)).heap.size) := ⟨below_row B14.out.1 (setCell_grown _ _ _ _) (Nat.le_refl _), by have := B14.out.2; simpa using this⟩
  go_upto_region 16 with (go_at_call 25; refine (WH14.out _).mono ?_; rintro e w' ⟨rfl, rfl⟩)
  generalize w14.setCell ⟨w.heap.size, 14, none⟩ (.int .i64 m14) = w15 at *
  clear a14 f14 Q14 Z14 B14 WH14
  have a15 := Q15.out.cell 15 _ rfl
  have f15 := Q15.out.fz 15
  have b15 := Q15.out.cell 14 _ rfl
  have Q16 : Hid (Blk w.heap.size 24 [.int .i64 m0, .int .i64 m1, .int .i64 m2, .int .i64 m3, .int .i64 m4, .int .i64 m5, .int .i64 m6, .int .i64 m7, .int .i64 m8, .int .i64 m9, .int .i64 m10, .int .i64 m11, .int .i64 m12, .int .i64 m13, .int .i64 m14, .int .i64 m15, .int .i64 x16, s] (w15.setCell ⟨w.heap.size, 15, none⟩ (.int .i64 m15))) := Q15.out.set (i := 15) (.int .i64 m15)
  have Z16 : Hid (Blk (w.heap.size + 1) 24 polZ (w15.setCell ⟨w.heap.size, 15, none⟩ (.int .i64 m15))) := Z15.out.grown (setCell_grown _ _ _ _) (fun e => by injection e with e; omega)
  have B16 : Hid (Below w.heap.size w (w15.setCell ⟨w.heap.size, 15, none⟩ (.int .i64 m15)) ∧ w.heap.size + 2 ≤ (w15.setCell ⟨w.heap.size, 15, none⟩ (.int .i64 m15)).heap.size) := ⟨below_row B15.out.1 (setCell_grown _ _ _ _) (Nat.le_refl _), by have := B15.out.2; simpa using this⟩
  go_upto_region 17 with (go_at_call 25; refine (WH15.out _).mono ?_; rintro e w' ⟨rfl, rfl⟩)
  generalize w15.setCell ⟨w.heap.size, 15, none⟩ (.int .i64 m15) = w16 at *
  clear a15 f15 b15 Q15 Z15 B15 WH15
  have a16 := Q16.out.cell 16 _ rfl
  have f16 := Q16.out.fz 16
  have Q17 : Hid (Blk w.heap.size 24 [.int .i64 m0, .int .i64 m1, .int .i64 m2, .int .i64 m3, .int .i64 m4, .int .i64 m5, .int .i64 m6, .int .i64 m7, .int .i64 m8, .int .i64 m9, .int .i64 m10, .int .i64 m11, .int .i64 m12, .int .i64 m13, .int .i64 m14, .int .i64 m15, .int .i64 m16, s] (w16.setCell ⟨w.heap.size, 16, none⟩ (.int .i64 m16))) := Q16.out.set (i := 16) (.int .i64 m16)
  have Z17 : Hid (Blk (w.heap.size + 1) 24 polZ (w16.setCell ⟨w.heap.size, 16, none⟩ (.int .i64 m16))) := Z16.out.grown (setCell_grown _ _ _ _) (fun e => by injection e with e; omega)
  have B17 : Hid (Below w.heap.size w (w16.setCell ⟨w.heap.size, 16, none⟩ (.int .i64 m16)) ∧ w.heap.size + 2 ≤ (w16.setCell ⟨w.heap.size, 16, none⟩ (.int .i64 m16)).heap.size) := ⟨below_row B16.out.1 (setCell_grown _ _ _ _) (Nat.le_refl _), by have := B16.out.2; simpa using this⟩
  go_upto_region 18 with (go_at_call 25; refine (WH16.out _).mono ?_; rintro e w' ⟨rfl, rfl⟩)
  generalize w16.setCell ⟨w.heap.size, 16, none⟩ (.int .i64 m16) = w17 at *
  clear a16 f16 Q16 Z16 B16 WH16
  have a17 := Q17.out.cell 17 _ rfl
  go_wp2_with fail
  refine (RI.out _ B17.out.1).mono ?_
  rintro e w18 ⟨v, rfl, rv, b18⟩
  have RR : Hid (Rd w18 v (bkL (risL 0 64 hs))) := rv.rd
  obtain ⟨a1, c1, hv, -, -, -⟩ := rv.rd
  have HV : Hid (∃ N, v = .slice a1 N c1) := ⟨_, hv⟩
  have BV : Hid (∀ g, v.ownBlock = some g → w.heap.size + 2 ≤ g) := fun g hg => Nat.le_trans B17.out.2 (rv.block_ge hg)
  have B18 : Hid (Below w.heap.size w w18 ∧ w.heap.size + 2 ≤ w18.heap.size) := ⟨below_trans B17.out.1 b18, Nat.le_trans B17.out.2 b18.size⟩
  have Q18 : Hid (Blk w.heap.size 24 [.int .i64 m0, .int .i64 m1, .int .i64 m2, .int .i64 m3, .int .i64 m4, .int .i64 m5, .int .i64 m6, .int .i64 m7, .int .i64 m8, .int .i64 m9, .int .i64 m10, .int .i64 m11, .int .i64 m12, .int .i64 m13, .int .i64 m14, .int .i64 m15, .int .i64 m16, s] w18) := Q17.out.below b18
  have Z18 : Hid (Blk (w.heap.size + 1) 24 polZ w18) := Z17.out.below b18
  clear hv rv b18 Q17 Z17 B17 a17
  obtain ⟨N1, rfl⟩ := HV.out
  clear HV
  have a17 := Q18.out.cell 17 _ rfl
  have f17 := Q18.out.fz 17
  have Q19 : Hid (Blk w.heap.size 24 [.int .i64 m0, .int .i64 m1, .int .i64 m2, .int .i64 m3, .int .i64 m4, .int .i64 m5, .int .i64 m6, .int .i64 m7, .int .i64 m8, .int .i64 m9, .int .i64 m10, .int .i64 m11, .int .i64 m12, .int .i64 m13, .int .i64 m14, .int .i64 m15, .int .i64 m16, (.slice a1 N1 c1)] (w18.setCell ⟨w.heap.size, 17, none⟩ (.slice a1 N1 c1))) := Q18.out.set (i := 17) (.slice a1 N1 c1)
  have D19 : Hid (w18.grownBy (w18.setCell ⟨w.heap.size, 17, none⟩ (.slice a1 N1 c1)) (some w.heap.size)) := setCell_grown _ _ _ _
  go_upto_region 19 with fail
  generalize w18.setCell ⟨w.heap.size, 17, none⟩ (.slice a1 N1 c1) = w19 at *
  have Z19 : Hid (Blk (w.heap.size + 1) 24 polZ w19) := Z18.out.grown D19.out (fun e => by injection e with e; omega)
  have B19 : Hid (Below w.heap.size w w19) := below_row B18.out.1 D19.out (Nat.le_refl _)
  have R19 : Hid (Rd w19 (.slice a1 N1 c1) (bkL (risL 0 64 hs))) := RR.out.grown D19.out (fun g hg e => by injection e with e; have := BV.out g hg; omega)
  clear a17 f17 Q18 Z18 D19 RR B18
  go_wp2_with (first
  | (refine step_load rfl 24 (.tmp 1) rfl w.heap.size 0 rfl [.int .i64 m0, .int .i64 m1, .int .i64 m2, .int .i64 m3, .int .i64 m4, .int .i64 m5, .int .i64 m6, .int .i64 m7, .int .i64 m8, .int .i64 m9, .int .i64 m10, .int .i64 m11, .int .i64 m12, .int .i64 m13, .int .i64 m14, .int .i64 m15, .int .i64 m16, (.slice a1 N1 c1)] _ (Blk.all Q19.out) Try.underlying24 rfl sizeP ?_)
  | ((with_reducible refine at_store ?_); refine step_store rfl 24 (.tmp 2) (.tmp 82) rfl (w.heap.size + 1) 0 24 polZ [.int .i64 m0, .int .i64 m1, .int .i64 m2, .int .i64 m3, .int .i64 m4, .int .i64 m5, .int .i64 m6, .int .i64 m7, .int .i64 m8, .int .i64 m9, .int .i64 m10, .int .i64 m11, .int .i64 m12, .int .i64 m13, .int .i64 m14, .int .i64 m15, .int .i64 m16, (.slice a1 N1 c1)] rfl rfl Z19.out (Nat.le_refl 18) sizeP (polL_one (l := [m0, m1, m2, m3, m4, m5, m6, m7, m8, m9, m10, m11, m12, m13, m14, m15, m16])) ?_; intro w20 nb20 g20))
  have N20 : Blk (w.heap.size + 1) 24 (polL [m0, m1, m2, m3, m4, m5, m6, m7, m8, m9, m10, m11, m12, m13, m14, m15, m16] (.slice a1 N1 c1)) w20 := nb20
  refine ret_blk rfl rfl (w.heap.size + 1) 24 (polL [m0, m1, m2, m3, m4, m5, m6, m7, m8, m9, m10, m11, m12, m13, m14, m15, m16] (.slice a1 N1 c1)) _ rfl N20 Try.underlying24 rfl sizeP ?_
  refine ⟨_, rfl, R19.out.grown g20 (fun g hg e => by injection e with e; have := BV.out g hg; omega), below_row B19.out g20 (by omega)⟩
end Go.Proofs.Ytcjmjbhbdojeiaa
