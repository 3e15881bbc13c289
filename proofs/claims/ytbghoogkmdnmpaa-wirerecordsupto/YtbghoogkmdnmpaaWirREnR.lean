/-
  Ours: the reference's EncodeRecord.
-/
import Derived.Test.YtbghoogkmdnmpaaWirOutR2
namespace Go.Proofs.Ytbghoogkmdnmpaa
open Go.RowKit

theorem usesV_form (r : Option Nat) : ∃ q0 q1 q2 q3 q4 q5 q6 : Bool, usesV r = .agg #[.bool q0, .bool q1, .bool q2, .bool q3, .bool q4, .bool q5, .bool q6] ∧ (q0 = true ↔ r = none) := by
  cases r with
  | none => exact ⟨_, _, _, _, _, _, _, rfl, by simp⟩
  | some m => exact ⟨_, _, _, _, _, _, _, rfl, by simp⟩

set_option maxRecDepth 20000 in
set_option maxHeartbeats 1000000 in
theorem rencodeRecord_at (k : Int) (o : OpV) (ok : o.Ok) (xs : List Int) (hx : I64s xs) (va : Value) (w : World) (hr : RdI w va xs) (hl : xs.length ≤ 1000000000) : Calls Try.prog 32 #[recV k o va] w (NewB w (recL k o xs)) := by
  obtain ⟨q0, q1, q2, q3, q4, q5, q6, eq, hq⟩ := usesV_form (fmask o.kind)
  have US' : Hid (∀ w, Calls Try.prog 68 #[.int .i64 o.kind] w fun e w' => e = .returned (.agg #[.bool q0, .bool q1, .bool q2, .bool q3, .bool q4, .bool q5, .bool q6]) ∧ Below w.heap.size w w') := fun w => by
    have := uses_at o.kind w
    rw [eq] at this; exact this
  obtain ⟨T, hT⟩ : ∃ T, recL k o xs = T := ⟨_, rfl⟩
  rw [hT]
  by_cases n1 : k ≠ 1 ∧ k ≠ 2
  · obtain rfl : T = [] := by rw [← hT]; unfold recL; rw [if_neg n1.1, if_neg n1.2]
    have d1 : (k != 1) = true := bne_iff_ne.2 n1.1
    have d2 : (k != 2) = true := bne_iff_ne.2 n1.2
    obtain ⟨f0, f1, f2, f3, f4, f5, f6⟩ := o
    unfold recV
    simp only at *
    clear hT n1 hq eq ok hx hr hl
    have BA := below_alloc w (.cells #[.int .i64 k, .int .i64 f0, .int .i64 f1, .int .i64 f2, .int .i64 f3, .int .i64 f4, .int .i64 f5, .string f6, va] 26)
    have BX0 := Blk.new 26 [.int .i64 k, .int .i64 f0, .int .i64 f1, .int .i64 f2, .int .i64 f3, .int .i64 f4, .int .i64 f5, .string f6, va] w
    go_enter Try.func32, Try.ntmps32
    go_wp2_with fail
    refine (US'.out _).mono ?_
    rintro e w2 ⟨rfl, b2⟩
    have bx2 := Blk.below BX0 b2
    have ltX := bx2.lt
    have cx0 := bx2.cell 0 _ rfl
    have B3 := below_trans (below_trans BA b2) (below_alloc w2 (.cells #[.bool q0, .bool q1, .bool q2, .bool q3, .bool q4, .bool q5, .bool q6] 120))
    clear BA b2 BX0 bx2
    go_wp2_with fail
    go_ret
    exact ⟨_, rfl, RowV.nil _ _ _, B3⟩
  by_cases n2 : k = 1 ∧ fmask o.kind = none
  · obtain ⟨rfl, hm⟩ := n2
    obtain rfl : T = [] := by rw [← hT]; unfold recL; rw [if_pos rfl, if_pos hm]
    obtain rfl : q0 = true := hq.2 hm
    obtain ⟨f0, f1, f2, f3, f4, f5, f6⟩ := o
    unfold recV
    simp only at *
    clear hT n1 hq eq ok hx hr hl hm
    have BA := below_alloc w (.cells #[.int .i64 1, .int .i64 f0, .int .i64 f1, .int .i64 f2, .int .i64 f3, .int .i64 f4, .int .i64 f5, .string f6, va] 26)
    have BX0 := Blk.new 26 [.int .i64 1, .int .i64 f0, .int .i64 f1, .int .i64 f2, .int .i64 f3, .int .i64 f4, .int .i64 f5, .string f6, va] w
    go_enter Try.func32, Try.ntmps32
    go_wp2_with fail
    refine (US'.out _).mono ?_
    rintro e w2 ⟨rfl, b2⟩
    have bx2 := Blk.below BX0 b2
    have ltX := bx2.lt
    have cx0 := bx2.cell 0 _ rfl
    have B3 := below_trans (below_trans BA b2) (below_alloc w2 (.cells #[.bool true, .bool q1, .bool q2, .bool q3, .bool q4, .bool q5, .bool q6] 120))
    clear BA b2 BX0 bx2
    go_wp2_with fail
    go_ret
    exact ⟨_, rfl, RowV.nil _ _ _, B3⟩
  have OP : Hid (∀ R w', Below w.heap.size w w' → OutS (fun _ : Nat => False) R w.heap.size [] w' → Calls Try.prog 69 #[.pointer (some ⟨R, 0, none⟩), recV k o va] w' fun e w'' => e = .returned (.tuple #[]) ∧ OutS (fun _ : Nat => False) R w.heap.size T w'' ∧ Below w.heap.size w' w'') := fun R w' hb h => by
    by_cases k1 : k = 1
    · subst k1
      have hm : fmask o.kind ≠ none := fun e => n2 ⟨rfl, e⟩
      refine (outRecord1_at _ R _ [] o ok hm va w' h (by simp)).mono ?_
      rintro e w2 ⟨rfl, h1, h2⟩
      refine ⟨rfl, ?_, h2.below⟩
      rw [← hT]; unfold recL; rw [if_pos rfl, if_neg hm]; simpa using h1
    · obtain rfl : k = 2 := Classical.byContradiction fun e => n1 ⟨k1, e⟩
      refine (outRecord2_at _ R _ [] o xs hx va w' h (by simp) hl (fun w'' hb' => Rd.later hr (hb.trans hb'))).mono ?_
      rintro e w2 ⟨rfl, h1, h2⟩
      refine ⟨rfl, ?_, h2.below⟩
      rw [← hT]; unfold recL; rw [if_neg (by decide), if_pos rfl]; simpa using h1
  by_cases k1 : k = 1
  · subst k1
    obtain rfl : q0 = false := by
      cases q0 with
      | false => rfl
      | true => exact absurd ⟨rfl, hq.1 rfl⟩ n2
    obtain ⟨f0, f1, f2, f3, f4, f5, f6⟩ := o
    unfold recV at *
    simp only at *
    clear hT n1 n2 hq eq ok hx hr hl
    have BA := below_alloc w (.cells #[.int .i64 1, .int .i64 f0, .int .i64 f1, .int .i64 f2, .int .i64 f3, .int .i64 f4, .int .i64 f5, .string f6, va] 26)
    have BX0 := Blk.new 26 [.int .i64 1, .int .i64 f0, .int .i64 f1, .int .i64 f2, .int .i64 f3, .int .i64 f4, .int .i64 f5, .string f6, va] w
    go_enter Try.func32, Try.ntmps32
    go_wp2_with fail
    refine (US'.out _).mono ?_
    rintro e w2 ⟨rfl, b2⟩
    have bx2 := Blk.below BX0 b2
    have ltX := bx2.lt
    have B2 := below_trans BA b2
    clear BX0 b2 BA
    have cx0 := bx2.cell 0 _ rfl
    have cx1 := bx2.cell 1 _ rfl
    have cx2 := bx2.cell 2 _ rfl
    have cx3 := bx2.cell 3 _ rfl
    have cx4 := bx2.cell 4 _ rfl
    have cx5 := bx2.cell 5 _ rfl
    have cx6 := bx2.cell 6 _ rfl
    have cx7 := bx2.cell 7 _ rfl
    have cx8 := bx2.cell 8 _ rfl
    have BAU := below_alloc w2 (.cells #[.bool false, .bool q1, .bool q2, .bool q3, .bool q4, .bool q5, .bool q6] 120)
    have BAR := below_alloc (w2.alloc (.cells #[.bool false, .bool q1, .bool q2, .bool q3, .bool q4, .bool q5, .bool q6] 120)) (.cells #[.slice none 0 0] 124)
    have BR := Blk.new 124 [.slice none 0 0] (w2.alloc (.cells #[.bool false, .bool q1, .bool q2, .bool q3, .bool q4, .bool q5, .bool q6] 120))
    have hR : (w2.alloc (.cells #[.bool false, .bool q1, .bool q2, .bool q3, .bool q4, .bool q5, .bool q6] 120)).heap.size = w2.heap.size + 1 := by simp
    rw [hR] at BR
    have B4 := below_trans (below_trans B2 BAU) BAR
    have O4 : OutS (fun _ : Nat => False) (w2.heap.size + 1) w.heap.size [] ((w2.alloc (.cells #[.bool false, .bool q1, .bool q2, .bool q3, .bool q4, .bool q5, .bool q6] 120)).alloc (.cells #[.slice none 0 0] 124)) :=
      ⟨⟨_, BR.cell 0 _ rfl, RowV.nil _ _ _, fun g hg => by simp [Value.ownBlock] at hg⟩, BR.fz 0, BR.lt, by have := B2.size; omega, fun g hg => hg.elim⟩
    clear BAU BAR BR hR B2 bx2
    go_wp2_with fail
    refine (OP.out _ _ B4 O4).mono ?_
    rintro e w5 ⟨rfl, O5, b5⟩
    obtain ⟨v5, c5, r5, -⟩ := O5.row
    have B5 := B4.trans b5
    have R5 : Hid (RowB 5 w.heap.size w5 v5 T) := r5
    clear O5 b5 r5 B4 O4
    go_wp2_with fail
    go_ret
    exact ⟨_, rfl, R5.out, B5⟩
  · obtain rfl : k = 2 := Classical.byContradiction fun e => n1 ⟨k1, e⟩
    obtain ⟨f0, f1, f2, f3, f4, f5, f6⟩ := o
    unfold recV at *
    simp only at *
    clear hT n1 n2 hq eq ok hx hr hl k1
    have BA := below_alloc w (.cells #[.int .i64 2, .int .i64 f0, .int .i64 f1, .int .i64 f2, .int .i64 f3, .int .i64 f4, .int .i64 f5, .string f6, va] 26)
    have BX0 := Blk.new 26 [.int .i64 2, .int .i64 f0, .int .i64 f1, .int .i64 f2, .int .i64 f3, .int .i64 f4, .int .i64 f5, .string f6, va] w
    go_enter Try.func32, Try.ntmps32
    go_wp2_with fail
    refine (US'.out _).mono ?_
    rintro e w2 ⟨rfl, b2⟩
    have bx2 := Blk.below BX0 b2
    have ltX := bx2.lt
    have B2 := below_trans BA b2
    clear BX0 b2 BA
    have cx0 := bx2.cell 0 _ rfl
    have cx1 := bx2.cell 1 _ rfl
    have cx2 := bx2.cell 2 _ rfl
    have cx3 := bx2.cell 3 _ rfl
    have cx4 := bx2.cell 4 _ rfl
    have cx5 := bx2.cell 5 _ rfl
    have cx6 := bx2.cell 6 _ rfl
    have cx7 := bx2.cell 7 _ rfl
    have cx8 := bx2.cell 8 _ rfl
    have BAU := below_alloc w2 (.cells #[.bool q0, .bool q1, .bool q2, .bool q3, .bool q4, .bool q5, .bool q6] 120)
    have BAR := below_alloc (w2.alloc (.cells #[.bool q0, .bool q1, .bool q2, .bool q3, .bool q4, .bool q5, .bool q6] 120)) (.cells #[.slice none 0 0] 124)
    have BR := Blk.new 124 [.slice none 0 0] (w2.alloc (.cells #[.bool q0, .bool q1, .bool q2, .bool q3, .bool q4, .bool q5, .bool q6] 120))
    have hR : (w2.alloc (.cells #[.bool q0, .bool q1, .bool q2, .bool q3, .bool q4, .bool q5, .bool q6] 120)).heap.size = w2.heap.size + 1 := by simp
    rw [hR] at BR
    have B4 := below_trans (below_trans B2 BAU) BAR
    have O4 : OutS (fun _ : Nat => False) (w2.heap.size + 1) w.heap.size [] ((w2.alloc (.cells #[.bool q0, .bool q1, .bool q2, .bool q3, .bool q4, .bool q5, .bool q6] 120)).alloc (.cells #[.slice none 0 0] 124)) :=
      ⟨⟨_, BR.cell 0 _ rfl, RowV.nil _ _ _, fun g hg => by simp [Value.ownBlock] at hg⟩, BR.fz 0, BR.lt, by have := B2.size; omega, fun g hg => hg.elim⟩
    clear BAU BAR BR hR B2 bx2
    go_wp2_with fail
    refine (OP.out _ _ B4 O4).mono ?_
    rintro e w5 ⟨rfl, O5, b5⟩
    obtain ⟨v5, c5, r5, -⟩ := O5.row
    have B5 := B4.trans b5
    have R5 : Hid (RowB 5 w.heap.size w5 v5 T) := r5
    clear O5 b5 r5 B4 O4
    go_wp2_with fail
    go_ret
    exact ⟨_, rfl, R5.out, B5⟩
end Go.Proofs.Ytbghoogkmdnmpaa
