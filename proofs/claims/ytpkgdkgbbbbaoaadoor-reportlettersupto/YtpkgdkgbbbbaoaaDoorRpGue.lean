/-
  Ours: report.guess.
-/
import Derived.Test.YtpkgdkgbbbbaoaaDoorRpN
import Derived.Test.YtpkgdkgbbbbaoaaDoorMexC
import Derived.Deep.CutRange
namespace Go.Proofs.YtpkgdkgbbbbaoaaDoor
open Go.RowKit Go.Lib CalM RpM

theorem parseO_range {l : List UInt8} {x : Int} (h : parseO l = some x) : 1 ≤ x ∧ x ≤ 3652059 := by
  by_cases hl : l.length = 10
  · obtain ⟨c0, c1, c2, c3, c4, c5, c6, c7, c8, c9, rfl⟩ := list_ten hl
    rw [parseO_ten] at h
    split at h
    · rename_i g
      injection h with h
      rw [← h]
      exact day_range g.2.2.2.2.2
    · cases h
  · rw [parseO_len hl] at h
    cases h
theorem optZ_range (l : List UInt8) : RpM.i64 (optZ (parseO l)) := by
  cases h : parseO l with
  | none => exact ⟨by simp [optZ], by simp [optZ]⟩
  | some x =>
    have := parseO_range h
    exact ⟨by simp only [optZ]; omega, by simp only [optZ]; omega⟩
theorem prOk_ex (l : List UInt8) : ∃ p, PrOk l p ∧ RpM.i64 p.1 := by
  by_cases h : ∃ x, -9223372036854775808 ≤ x ∧ x ≤ 9223372036854775807 ∧ fmtL x = l
  · obtain ⟨x, h0, h1, hx⟩ := h
    exact ⟨(x, true), ⟨fun _ => ⟨hx, h0, h1⟩, (fun e => by cases e)⟩, h0, h1⟩
  · exact ⟨(0, false), ⟨(fun e => by cases e), fun _ => ⟨rfl, fun x h0 h1 e => h ⟨x, h0, h1, e⟩⟩⟩, by decide, by decide⟩
theorem parseM_at (l : List UInt8) (hs : l.length ≤ 9223372036854775807) (p : Int × Bool) (hp : PrOk l p) (w : World) (ht : TabW w) (he : ErrW w) :
    Calls Tryd.prog 28 #[.string ⟨l.toArray⟩] w fun e w' => Below w.heap.size w w' ∧ e = .returned (.tuple #[.int .i64 p.1, .bool p.2]) := by
  obtain ⟨q, hq, h⟩ := parse_any l hs w ht he
  rw [prOk_uniq hp hq]
  exact h
/-- While a guess is made: its result's block is still empty, its own block holds n. -/
structure GS (w : World) (N : Nat) (n : RpM.Nt) (w' : World) : Prop where
  b : Below w.heap.size w w'
  r : Blk w.heap.size 23 (ntC Nt.zero).toList w'
  n : Blk N 23 (ntC n).toList w'
  lt : w.heap.size < N
theorem GS.later {w : World} {N : Nat} {n : RpM.Nt} {w1 w2 : World} (h : GS w N n w1) (b : Below w1.heap.size w1 w2) : GS w N n w2 := ⟨below_trans h.b b, h.r.below b, h.n.below b, h.lt⟩
theorem GS.set {w : World} {N : Nat} {n : RpM.Nt} {w1 : World} (h : GS w N n w1) (m : RpM.Nt) (i : Nat) (u : Value) (e : (ntC n).toList.set i u = (ntC m).toList) : GS w N m (w1.setCell ⟨N, i, none⟩ u) :=
  ⟨Below.setCell h.b (by have := h.lt; show w.heap.size ≤ N; omega) u, h.r.grown (setCell_grown _ _ _ _) (by have := h.lt; intro e; injection e; omega), by rw [← e]; exact h.n.set u, h.lt⟩
theorem GS.c {w : World} {N : Nat} {n : RpM.Nt} {w1 : World} (h : GS w N n w1) : (w1.cell? ⟨N, 0, none⟩ = some (.int .i64 n.id) ∧ w1.cell? ⟨N, 1, none⟩ = some (.int .i64 n.loan) ∧ w1.cell? ⟨N, 3, none⟩ = some (.int .i64 n.day) ∧ w1.cell? ⟨N, 4, none⟩ = some (.int .i64 n.amt)) ∧
    (w1.frozen? ⟨N, 0, none⟩ = false ∧ w1.frozen? ⟨N, 1, none⟩ = false ∧ w1.frozen? ⟨N, 3, none⟩ = false ∧ w1.frozen? ⟨N, 4, none⟩ = false) :=
  ⟨⟨h.n.cell 0 _ rfl, h.n.cell 1 _ rfl, h.n.cell 3 _ rfl, h.n.cell 4 _ rfl⟩, h.n.fz 0, h.n.fz 1, h.n.fz 3, h.n.fz 4⟩
theorem sizeNt (n : RpM.Nt) : (Tryd.prog.info? 23).map (·.size) = some (ntC n).toList.length := by kernel_rfl
theorem oneNt (n : RpM.Nt) : ∀ v ∈ (ntC n).toList, v.oneCell' = true := fun v hv => by
  simp at hv
  rcases hv with rfl | rfl | rfl | rfl | rfl | rfl <;> rfl
set_option maxRecDepth 100000 in
set_option maxHeartbeats 2000000 in
theorem guess_at (k : Nat) (hk : k < 10) (l : List UInt8) (hl : l.length < 4294967281) : ∃ n, Gu k l n ∧ ∀ w, RpW w → Calls Tryd.prog 12 #[.string ⟨l.toArray⟩, .int .i64 (k : Int)] w fun e w' => e = .returned (ntV n) ∧ Below w.heap.size w w' := by
  have q0 := trimP_le l notB
  have q1 := cut_le (trimPrefix l notB) ofB
  have q2 := cut_le (cut (trimPrefix l notB) ofB).2.1 colB
  have q3 : (slots k (cut (cut (trimPrefix l notB) ofB).2.1 colB).2.1).1.length ≤ (cut (cut (trimPrefix l notB) ofB).2.1 colB).2.1.length ∧ (slots k (cut (cut (trimPrefix l notB) ofB).2.1 colB).2.1).2.length ≤ (cut (cut (trimPrefix l notB) ofB).2.1 colB).2.1.length := by
    generalize (cut (cut (trimPrefix l notB) ofB).2.1 colB).2.1 = t
    have a1 := trimP_le t (wrd k).a
    have a2 := trimS_le (trimPrefix t (wrd k).a) (wrd k).c
    have a3 := cut_le (trimSuffix (trimPrefix t (wrd k).a) (wrd k).c) (wrd k).b
    unfold slots
    cases (wrd k).f
    · exact ⟨by simp only [Bool.false_eq_true, if_false]; omega, by simp only [Bool.false_eq_true, if_false]; omega⟩
    · exact ⟨by simp only [if_true]; omega, by simp only [if_true]; omega⟩
  have hpt : parts k l = ⟨(cut (trimPrefix l notB) ofB).1, (cut (cut (trimPrefix l notB) ofB).2.1 colB).1, (slots k (cut (cut (trimPrefix l notB) ofB).2.1 colB).2.1).1, (slots k (cut (cut (trimPrefix l notB) ofB).2.1 colB).2.1).2⟩ := rfl
  have P1 : Hid (∀ w, Calls Tryd.prog 23 #[.string ⟨l.toArray⟩, .string ⟨#[78, 111, 116, 105, 99, 101, 32]⟩] w fun e w' => e = .returned (.tuple #[.string ⟨(trimPrefix l notB).toArray⟩, .bool (hasPrefix l notB)]) ∧ w = w') := fun w => cutP_at l notB w
  generalize hasPrefix l notB = p1 at *
  generalize trimPrefix l notB = t0 at *
  have P2 : Hid (∀ w, RpW w → Calls Tryd.prog 24 #[.string ⟨t0.toArray⟩, .string ⟨#[32, 111, 102, 32]⟩] w fun e w' => e = .returned (.tuple #[.string ⟨(cut t0 ofB).1.toArray⟩, .string ⟨(cut t0 ofB).2.1.toArray⟩, .bool (cut t0 ofB).2.2]) ∧ Below w.heap.size w w') := fun w hw => cut_at t0 ofB (by omega) w hw.mx
  generalize (cut t0 ofB).2.2 = z1 at *
  generalize (cut t0 ofB).1 = sI at *
  generalize (cut t0 ofB).2.1 = t1 at *
  have P3 : Hid (∀ w, RpW w → Calls Tryd.prog 24 #[.string ⟨t1.toArray⟩, .string ⟨#[58, 32]⟩] w fun e w' => e = .returned (.tuple #[.string ⟨(cut t1 colB).1.toArray⟩, .string ⟨(cut t1 colB).2.1.toArray⟩, .bool (cut t1 colB).2.2]) ∧ Below w.heap.size w w') := fun w hw => cut_at t1 colB (by omega) w hw.mx
  generalize (cut t1 colB).2.2 = z2 at *
  generalize (cut t1 colB).1 = sD at *
  generalize (cut t1 colB).2.1 = t2 at *
  have P4 : Hid (∀ w, RpW w → Calls Tryd.prog 25 #[wdV k, .string ⟨t2.toArray⟩] w fun e w' => e = .returned (.tuple #[.string ⟨(slots k t2).1.toArray⟩, .string ⟨(slots k t2).2.toArray⟩]) ∧ Below w.heap.size w w') := fun w hw => slots_at k t2 (by omega) w hw.mx
  generalize (slots k t2).1 = sN at *
  generalize (slots k t2).2 = sA at *
  obtain ⟨vi, bi, vi1, AI0⟩ := atoi_any sI (by omega)
  obtain ⟨vl, bl, vl1, AL0⟩ := atoi_any sN (by omega)
  obtain ⟨p, pOk, pb⟩ := prOk_ex sA
  have AI : Hid (∀ w, ErrW w → Calls Tryd.prog 26 #[.string ⟨sI.toArray⟩] w fun e w' => (∃ er, e = .returned (.tuple #[.int .i64 vi, er])) ∧ Below w.heap.size w w') := AI0
  have AL : Hid (∀ w, ErrW w → Calls Tryd.prog 26 #[.string ⟨sN.toArray⟩] w fun e w' => (∃ er, e = .returned (.tuple #[.int .i64 vl, er])) ∧ Below w.heap.size w w') := AL0
  have PD : Hid (∀ w, RpW w → Calls Tryd.prog 27 #[.string ⟨sD.toArray⟩] w fun e w' => e = .returned (.tuple #[.int .i64 (optZ (parseO sD)), .bool (parseO sD).isSome]) ∧ Below w.heap.size w w') := fun w hw => parse_at sD w hw.ahead hw.lens
  have PA : Hid (∀ w, RpW w → Calls Tryd.prog 28 #[.string ⟨sA.toArray⟩] w fun e w' => Below w.heap.size w w' ∧ e = .returned (.tuple #[.int .i64 p.1, .bool p.2])) := fun w hw => parseM_at sA (by omega) p pOk w hw.tab hw.err
  have hgu : Gu k l ⟨vi, vl, (k : Int), optZ (parseO sD), p.1, false⟩ := ⟨rfl, rfl, ⟨bi, bl, ⟨by show _ ≤ (k : Int); omega, by show (k : Int) ≤ _; omega⟩, optZ_range sD, pb⟩, by rw [hpt]; exact vi1, by rw [hpt]; exact vl1, by rw [hpt], by rw [hpt]; exact ⟨p.2, pOk⟩⟩
  refine ⟨_, hgu, fun w hw => ?_⟩
  generalize optZ (parseO sD) = vd at *
  generalize (parseO sD).isSome = zd at *
  generalize p.1 = va at *
  generalize p.2 = za at *
  have HW : Hid (RpW w) := hw
  have Z0 : Hid (Blk w.heap.size 23 (ntC Nt.zero).toList (w.alloc (.cells (ntC Nt.zero) 23))) := Blk.new _ _ _
  clear hw hgu hpt q0 q1 q2 q3 AI0 AL0 vi1 vl1 bi bl pb pOk hl
  have hkn : ((k : Int)).toNat = k := by omega
  go_enter Tryd.func12, Tryd.ntmps12
  go_wp2_with fail
  refine (P1.out _).mono ?_
  rintro e w1 ⟨rfl, rfl⟩
  go_wp2_with fail
  refine (P2.out _ (HW.out.later (below_alloc _ _))).mono ?_
  rintro e w2 ⟨rfl, b2⟩
  have S2 : Hid (Below w.heap.size w w2 ∧ Blk w.heap.size 23 (ntC Nt.zero).toList w2) := ⟨below_trans (below_alloc _ _) b2, Z0.out.below b2⟩
  clear b2 Z0
  go_wp2_with fail
  refine (P3.out _ (HW.out.later S2.out.1)).mono ?_
  rintro e w3 ⟨rfl, b3⟩
  have S3 : Hid (Below w.heap.size w w3 ∧ Blk w.heap.size 23 (ntC Nt.zero).toList w3) := ⟨below_trans S2.out.1 b3, S2.out.2.below b3⟩
  clear b3 S2
  have c0 := (HW.out.later S3.out.1).wds.a k hk
  have c1 := (HW.out.later S3.out.1).wds.b k hk
  have c2 := (HW.out.later S3.out.1).wds.c k hk
  have c3 := (HW.out.later S3.out.1).wds.f k hk
  go_wp2_with fail
  refine (P4.out _ (HW.out.later S3.out.1)).mono ?_
  rintro e w4 ⟨rfl, b4⟩
  have S4 : Hid (Below w.heap.size w w4 ∧ Blk w.heap.size 23 (ntC Nt.zero).toList w4) := ⟨below_trans S3.out.1 b4, S3.out.2.below b4⟩
  clear b4 S3 c0 c1 c2 c3
  obtain ⟨N, hN⟩ : ∃ N, w4.heap.size = N := ⟨_, rfl⟩
  have S5 : Hid (GS w N ⟨0, 0, (k : Int), 0, 0, false⟩ (w4.alloc (.cells (ntC ⟨0, 0, (k : Int), 0, 0, false⟩) 23))) := by
    subst hN
    exact ⟨below_trans S4.out.1 (below_alloc _ _), S4.out.2.old _, Blk.new _ _ _, S4.out.2.lt⟩
  go_wp2_with fail
  generalize w4.alloc (.cells #[.int .i64 0, .int .i64 0, .int .i64 (k : Int), .int .i64 0, .int .i64 0, .bool false] 23) = W5 at *
  clear S4 hN
  refine (AI.out _ (HW.out.later S5.out.b).err).mono ?_
  rintro e w6 ⟨⟨er6, rfl⟩, b6⟩
  have S6 : Hid (GS w N ⟨0, 0, (k : Int), 0, 0, false⟩ w6) := S5.out.later b6
  have T6 := S6.out.c
  have l6 := S6.out.n.lt
  clear b6 S5
  go_wp2_with fail
  have S7 : Hid (GS w N ⟨vi, 0, (k : Int), 0, 0, false⟩ (w6.setCell ⟨N, 0, none⟩ (.int .i64 vi))) := S6.out.set _ 0 _ rfl
  clear T6 l6 S6
  generalize w6.setCell ⟨N, 0, none⟩ (.int .i64 vi) = W7 at *
  refine (AL.out _ (HW.out.later S7.out.b).err).mono ?_
  rintro e w8 ⟨⟨er8, rfl⟩, b8⟩
  have S8 : Hid (GS w N ⟨vi, 0, (k : Int), 0, 0, false⟩ w8) := S7.out.later b8
  have T8 := S8.out.c
  have l8 := S8.out.n.lt
  clear b8 S7
  go_wp2_with fail
  have S9 : Hid (GS w N ⟨vi, vl, (k : Int), 0, 0, false⟩ (w8.setCell ⟨N, 1, none⟩ (.int .i64 vl))) := S8.out.set _ 1 _ rfl
  clear T8 l8 S8
  generalize w8.setCell ⟨N, 1, none⟩ (.int .i64 vl) = W9 at *
  refine (PD.out _ (HW.out.later S9.out.b)).mono ?_
  rintro e w10 ⟨rfl, b10⟩
  have S10 : Hid (GS w N ⟨vi, vl, (k : Int), 0, 0, false⟩ w10) := S9.out.later b10
  have T10 := S10.out.c
  have l10 := S10.out.n.lt
  clear b10 S9
  go_wp2_with fail
  have S11 : Hid (GS w N ⟨vi, vl, (k : Int), vd, 0, false⟩ (w10.setCell ⟨N, 3, none⟩ (.int .i64 vd))) := S10.out.set _ 3 _ rfl
  clear T10 l10 S10
  generalize w10.setCell ⟨N, 3, none⟩ (.int .i64 vd) = W11 at *
  refine (PA.out _ (HW.out.later S11.out.b)).mono ?_
  rintro e w12 ⟨b12, rfl⟩
  have S12 : Hid (GS w N ⟨vi, vl, (k : Int), vd, 0, false⟩ w12) := S11.out.later b12
  have T12 := S12.out.c
  have l12 := S12.out.n.lt
  clear b12 S11
  go_upto_region 10 with fail
  have S13 : Hid (GS w N ⟨vi, vl, (k : Int), vd, va, false⟩ (w12.setCell ⟨N, 4, none⟩ (.int .i64 va))) := S12.out.set _ 4 _ rfl
  clear T12 l12 S12
  generalize w12.setCell ⟨N, 4, none⟩ (.int .i64 va) = W13 at *
  go_wp2_with (first
    | (refine step_load rfl 23 _ rfl N 0 rfl (ntC ⟨vi, vl, (k : Int), vd, va, false⟩).toList _ S13.out.n.all Tryd.underlying23 rfl (sizeNt _) ?_)
    | (refine step_store rfl 23 _ _ rfl w.heap.size 0 23 (ntC Nt.zero).toList (ntC ⟨vi, vl, (k : Int), vd, va, false⟩).toList rfl rfl S13.out.r (Nat.le_refl _) (sizeNt _) (oneNt _) ?_; intro w14 n14 g14))
  have S14 : Hid (Blk w.heap.size 23 (ntC ⟨vi, vl, (k : Int), vd, va, false⟩).toList w14 ∧ Below w.heap.size w w14) := ⟨n14, below_row S13.out.b g14 (Nat.le_refl _)⟩
  refine ret_blk rfl rfl w.heap.size 23 (ntC ⟨vi, vl, (k : Int), vd, va, false⟩).toList _ rfl S14.out.1 Tryd.underlying23 rfl (sizeNt _) ⟨rfl, S14.out.2⟩
end Go.Proofs.YtpkgdkgbbbbaoaaDoor
