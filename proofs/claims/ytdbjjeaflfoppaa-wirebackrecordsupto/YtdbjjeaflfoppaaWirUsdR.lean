/-
  Ours: the law's usedRecord.
-/
import Derived.Test.YtdbjjeaflfoppaaWirUsed
import Derived.Test.YtdbjjeaflfoppaaWirTwin
import Derived.Deep.Cut
namespace Go.Proofs.Ytdbjjeaflfoppaa
open Go.RowKit

def usedRV (k : Int) (o : OpV) (va : Value) : Value := if k = 1 then recV (if (fmask o.kind).isSome then 1 else 0) (usedV o) (.slice none 0 0) else if k = 2 then recV 2 opZ va else recV 0 opZ (.slice none 0 0)

set_option maxRecDepth 20000 in
set_option maxHeartbeats 4000000 in
theorem usedRec_2 (f0 f1 f2 f3 f4 f5 : Int) (f6 : ByteArray) (al : Option Addr) (nl cl : Nat) (w : World) : Calls Try.prog 9 #[.agg #[.int .i64 2, .int .i64 f0, .int .i64 f1, .int .i64 f2, .int .i64 f3, .int .i64 f4, .int .i64 f5, .string f6, .slice al nl cl]] w fun e w' => e = .returned (.tuple #[.agg #[.int .i64 2, .int .i64 0, .int .i64 0, .int .i64 0, .int .i64 0, .int .i64 0, .int .i64 0, .string ⟨#[]⟩, .slice al nl cl], .bool true]) ∧ Below w.heap.size w w' := by
  have D3 := Blk.new 26 [.int .i64 2, .int .i64 0, .int .i64 0, .int .i64 0, .int .i64 0, .int .i64 0, .int .i64 0, .string ⟨#[]⟩, .slice al nl cl] (w.alloc (.cells #[.int .i64 2, .int .i64 f0, .int .i64 f1, .int .i64 f2, .int .i64 f3, .int .i64 f4, .int .i64 f5, .string f6, .slice al nl cl] 26))
  rw [show (w.alloc (.cells #[.int .i64 2, .int .i64 f0, .int .i64 f1, .int .i64 f2, .int .i64 f3, .int .i64 f4, .int .i64 f5, .string f6, .slice al nl cl] 26)).heap.size = w.heap.size + 1 by simp] at D3
  have B9 : Hid (Blk _ _ _ _) := D3
  have W9 : Hid (Below _ _ _) := below_trans (below_alloc w (.cells #[.int .i64 2, .int .i64 f0, .int .i64 f1, .int .i64 f2, .int .i64 f3, .int .i64 f4, .int .i64 f5, .string f6, .slice al nl cl] 26)) (below_alloc (w.alloc (.cells #[.int .i64 2, .int .i64 f0, .int .i64 f1, .int .i64 f2, .int .i64 f3, .int .i64 f4, .int .i64 f5, .string f6, .slice al nl cl] 26)) (.cells #[.int .i64 2, .int .i64 0, .int .i64 0, .int .i64 0, .int .i64 0, .int .i64 0, .int .i64 0, .string ⟨#[]⟩, .slice al nl cl] 26))
  clear D3
  go_enter Try.func9, Try.ntmps9
  go_wp2_with fail
  exact bodyPost_cell_tmp rfl rfl (w.heap.size + 1) _ _ _ _ rfl B9.out Try.underlying26 rfl (by kernel_rfl) ⟨rfl, W9.out⟩
set_option maxRecDepth 20000 in
set_option maxHeartbeats 4000000 in
theorem usedRec_no (f0 f1 f2 f3 f4 f5 : Int) (f6 : ByteArray) (al : Option Addr) (nl cl : Nat) (w : World) (k : Int) (d1 : (k == 1) = false) (d2 : (k == 2) = false) : Calls Try.prog 9 #[.agg #[.int .i64 k, .int .i64 f0, .int .i64 f1, .int .i64 f2, .int .i64 f3, .int .i64 f4, .int .i64 f5, .string f6, .slice al nl cl]] w fun e w' => e = .returned (.tuple #[.agg #[.int .i64 0, .int .i64 0, .int .i64 0, .int .i64 0, .int .i64 0, .int .i64 0, .int .i64 0, .string ⟨#[]⟩, .slice none 0 0], .bool false]) ∧ Below w.heap.size w w' := by
  have D3 := Blk.new 26 [.int .i64 0, .int .i64 0, .int .i64 0, .int .i64 0, .int .i64 0, .int .i64 0, .int .i64 0, .string ⟨#[]⟩, .slice none 0 0] (w.alloc (.cells #[.int .i64 k, .int .i64 f0, .int .i64 f1, .int .i64 f2, .int .i64 f3, .int .i64 f4, .int .i64 f5, .string f6, .slice al nl cl] 26))
  rw [show (w.alloc (.cells #[.int .i64 k, .int .i64 f0, .int .i64 f1, .int .i64 f2, .int .i64 f3, .int .i64 f4, .int .i64 f5, .string f6, .slice al nl cl] 26)).heap.size = w.heap.size + 1 by simp] at D3
  have B9 : Hid (Blk _ _ _ _) := D3
  have W9 : Hid (Below _ _ _) := below_trans (below_alloc w (.cells #[.int .i64 k, .int .i64 f0, .int .i64 f1, .int .i64 f2, .int .i64 f3, .int .i64 f4, .int .i64 f5, .string f6, .slice al nl cl] 26)) (below_alloc (w.alloc (.cells #[.int .i64 k, .int .i64 f0, .int .i64 f1, .int .i64 f2, .int .i64 f3, .int .i64 f4, .int .i64 f5, .string f6, .slice al nl cl] 26)) (.cells #[.int .i64 0, .int .i64 0, .int .i64 0, .int .i64 0, .int .i64 0, .int .i64 0, .int .i64 0, .string ⟨#[]⟩, .slice none 0 0] 26))
  clear D3
  go_enter Try.func9, Try.ntmps9
  go_wp2_with fail
  exact bodyPost_cell_tmp rfl rfl (w.heap.size + 1) _ _ _ _ rfl B9.out Try.underlying26 rfl (by kernel_rfl) ⟨rfl, W9.out⟩
set_option maxRecDepth 20000 in
set_option maxHeartbeats 4000000 in
theorem usedRec_1 (f0 f1 f2 f3 f4 f5 : Int) (f6 : ByteArray) (al : Option Addr) (nl cl : Nat) (w : World) (g : OpV) (ok : Bool) (US : Hid (∀ w : World, Calls Try.prog 25 #[.agg #[.int .i64 f0, .int .i64 f1, .int .i64 f2, .int .i64 f3, .int .i64 f4, .int .i64 f5, .string f6]] w fun e w' => e = .returned (.tuple #[opV g, .bool ok]) ∧ Below w.heap.size w w')) : Calls Try.prog 9 #[.agg #[.int .i64 1, .int .i64 f0, .int .i64 f1, .int .i64 f2, .int .i64 f3, .int .i64 f4, .int .i64 f5, .string f6, .slice al nl cl]] w fun e w' => e = .returned (.tuple #[if ok = true then recV 1 g (.slice none 0 0) else recV 0 opZ (.slice none 0 0), .bool ok]) ∧ Below w.heap.size w w' := by
  obtain ⟨g0, g1, g2, g3, g4, g5, g6⟩ := g
  unfold opV recV opZ at *
  simp only at *
  have D3 := Blk.new 26 [.int .i64 0, .int .i64 0, .int .i64 0, .int .i64 0, .int .i64 0, .int .i64 0, .int .i64 0, .string ⟨#[]⟩, .slice none 0 0] (w.alloc (.cells #[.int .i64 1, .int .i64 f0, .int .i64 f1, .int .i64 f2, .int .i64 f3, .int .i64 f4, .int .i64 f5, .string f6, .slice al nl cl] 26))
  rw [show (w.alloc (.cells #[.int .i64 1, .int .i64 f0, .int .i64 f1, .int .i64 f2, .int .i64 f3, .int .i64 f4, .int .i64 f5, .string f6, .slice al nl cl] 26)).heap.size = w.heap.size + 1 by simp] at D3
  have W3 := below_trans (below_alloc w (.cells #[.int .i64 1, .int .i64 f0, .int .i64 f1, .int .i64 f2, .int .i64 f3, .int .i64 f4, .int .i64 f5, .string f6, .slice al nl cl] 26)) (below_alloc (w.alloc (.cells #[.int .i64 1, .int .i64 f0, .int .i64 f1, .int .i64 f2, .int .i64 f3, .int .i64 f4, .int .i64 f5, .string f6, .slice al nl cl] 26)) (.cells #[.int .i64 0, .int .i64 0, .int .i64 0, .int .i64 0, .int .i64 0, .int .i64 0, .int .i64 0, .string ⟨#[]⟩, .slice none 0 0] 26))
  have S3 : ((w.alloc (.cells #[.int .i64 1, .int .i64 f0, .int .i64 f1, .int .i64 f2, .int .i64 f3, .int .i64 f4, .int .i64 f5, .string f6, .slice al nl cl] 26)).alloc (.cells #[.int .i64 0, .int .i64 0, .int .i64 0, .int .i64 0, .int .i64 0, .int .i64 0, .int .i64 0, .string ⟨#[]⟩, .slice none 0 0] 26)).heap.size = w.heap.size + 1 + 1 := by simp
  go_enter Try.func9, Try.ntmps9
  go_wp2_with fail
  generalize (w.alloc (.cells #[.int .i64 1, .int .i64 f0, .int .i64 f1, .int .i64 f2, .int .i64 f3, .int .i64 f4, .int .i64 f5, .string f6, .slice al nl cl] 26)).alloc (.cells #[.int .i64 0, .int .i64 0, .int .i64 0, .int .i64 0, .int .i64 0, .int .i64 0, .int .i64 0, .string ⟨#[]⟩, .slice none 0 0] 26) = W0 at *
  obtain ⟨Q, hQ⟩ : ∃ Q, w.heap.size = Q := ⟨_, rfl⟩
  rw [hQ] at D3 ⊢
  refine (US.out _).mono ?_
  rintro e w2 ⟨rfl, b2⟩
  have D4 := D3.below b2
  have W4 := below_trans W3 b2
  have hS : Q + 1 < w2.heap.size := D4.lt
  clear D3 W3 b2 S3 US
  have BU := below_alloc w2 (.cells #[.int .i64 g0, .int .i64 g1, .int .i64 g2, .int .i64 g3, .int .i64 g4, .int .i64 g5, .string g6] 23)
  have D5 := D4.below BU
  have U5 := Blk.new 23 [.int .i64 g0, .int .i64 g1, .int .i64 g2, .int .i64 g3, .int .i64 g4, .int .i64 g5, .string g6] w2
  have W5 := below_trans W4 BU
  obtain ⟨V, hV⟩ : ∃ V, w2.heap.size = V := ⟨_, rfl⟩
  obtain ⟨z0, z1, z2, z3, z4, z5, z6, z7, z8, D5⟩ : ∃ z0 z1 z2 z3 z4 z5 z6 z7 z8, Blk (Q + 1) 26 [z0, z1, z2, z3, z4, z5, z6, z7, z8] (w2.alloc (.cells #[.int .i64 g0, .int .i64 g1, .int .i64 g2, .int .i64 g3, .int .i64 g4, .int .i64 g5, .string g6] 23)) := ⟨_, _, _, _, _, _, _, _, _, D5⟩
  have U6 := U5
  rw [hV] at U6
  cases ok with
  | true =>
    simp only
    obtain ⟨b10, g9⟩ := Blk.nine D5 (.int .i64 1) (.int .i64 g0) (.int .i64 g1) (.int .i64 g2) (.int .i64 g3) (.int .i64 g4) (.int .i64 g5) (.string g6) (.slice none 0 0)
    have w10 := below_past2 W5 g9 (by omega)
    have B9 : Hid (Blk _ _ _ _) := b10
    have W9 : Hid (Below _ _ _) := w10
    have ld0 := D5.cell 0 _ rfl
    have lf0 := D5.fz 0
    have lu0 := U6.cell 0 _ rfl
    have ld1 := D5.cell 1 _ rfl
    have lf1 := D5.fz 1
    have lu1 := U6.cell 1 _ rfl
    have ld2 := D5.cell 2 _ rfl
    have lf2 := D5.fz 2
    have lu2 := U6.cell 2 _ rfl
    have ld3 := D5.cell 3 _ rfl
    have lf3 := D5.fz 3
    have lu3 := U6.cell 3 _ rfl
    have ld4 := D5.cell 4 _ rfl
    have lf4 := D5.fz 4
    have lu4 := U6.cell 4 _ rfl
    have ld5 := D5.cell 5 _ rfl
    have lf5 := D5.fz 5
    have lu5 := U6.cell 5 _ rfl
    have ld6 := D5.cell 6 _ rfl
    have lf6 := D5.fz 6
    have lu6 := U6.cell 6 _ rfl
    have ld7 := D5.cell 7 _ rfl
    have lf7 := D5.fz 7
    have ld8 := D5.cell 8 _ rfl
    have lf8 := D5.fz 8
    clear g9 D4 D5 U5 U6 W4 W5 b10 w10 BU
    go_wp2_with fail
    generalize (((((((((w2.alloc (.cells #[.int .i64 g0, .int .i64 g1, .int .i64 g2, .int .i64 g3, .int .i64 g4, .int .i64 g5, .string g6] 23)).setCell ⟨Q + 1, 0, none⟩ (.int .i64 1)).setCell ⟨Q + 1, 1, none⟩ (.int .i64 g0)).setCell ⟨Q + 1, 2, none⟩ (.int .i64 g1)).setCell ⟨Q + 1, 3, none⟩ (.int .i64 g2)).setCell ⟨Q + 1, 4, none⟩ (.int .i64 g3)).setCell ⟨Q + 1, 5, none⟩ (.int .i64 g4)).setCell ⟨Q + 1, 6, none⟩ (.int .i64 g5)).setCell ⟨Q + 1, 7, none⟩ (.string g6)).setCell ⟨Q + 1, 8, none⟩ (.slice none 0 0) = V9 at *
    exact bodyPost_cell_tmp rfl rfl (Q + 1) _ _ _ _ rfl B9.out Try.underlying26 rfl (by kernel_rfl) ⟨rfl, hQ ▸ W9.out⟩
  | false =>
    simp only
    obtain ⟨b10, g9⟩ := Blk.nine D5 (.int .i64 0) (.int .i64 0) (.int .i64 0) (.int .i64 0) (.int .i64 0) (.int .i64 0) (.int .i64 0) (.string ⟨#[]⟩) (.slice none 0 0)
    have w10 := below_past2 W5 g9 (by omega)
    have B9 : Hid (Blk _ _ _ _) := b10
    have W9 : Hid (Below _ _ _) := w10
    have ld0 := D5.cell 0 _ rfl
    have lf0 := D5.fz 0
    have ld1 := D5.cell 1 _ rfl
    have lf1 := D5.fz 1
    have ld2 := D5.cell 2 _ rfl
    have lf2 := D5.fz 2
    have ld3 := D5.cell 3 _ rfl
    have lf3 := D5.fz 3
    have ld4 := D5.cell 4 _ rfl
    have lf4 := D5.fz 4
    have ld5 := D5.cell 5 _ rfl
    have lf5 := D5.fz 5
    have ld6 := D5.cell 6 _ rfl
    have lf6 := D5.fz 6
    have ld7 := D5.cell 7 _ rfl
    have lf7 := D5.fz 7
    have ld8 := D5.cell 8 _ rfl
    have lf8 := D5.fz 8
    clear hV
    clear g9 D4 D5 U5 U6 W4 W5 b10 w10 BU
    go_upto_region 5 with fail
    generalize w2.alloc (.cells #[.int .i64 g0, .int .i64 g1, .int .i64 g2, .int .i64 g3, .int .i64 g4, .int .i64 g5, .string g6] 23) = W6 at *
    repeat (first | go_guarded | go_step)
    generalize (((((((((W6).setCell ⟨Q + 1, 0, none⟩ (.int .i64 0)).setCell ⟨Q + 1, 1, none⟩ (.int .i64 0)).setCell ⟨Q + 1, 2, none⟩ (.int .i64 0)).setCell ⟨Q + 1, 3, none⟩ (.int .i64 0)).setCell ⟨Q + 1, 4, none⟩ (.int .i64 0)).setCell ⟨Q + 1, 5, none⟩ (.int .i64 0)).setCell ⟨Q + 1, 6, none⟩ (.int .i64 0)).setCell ⟨Q + 1, 7, none⟩ (.string ⟨#[]⟩)).setCell ⟨Q + 1, 8, none⟩ (.slice none 0 0) = V9 at *
    exact bodyPost_cell_tmp rfl rfl (Q + 1) _ _ _ _ rfl B9.out Try.underlying26 rfl (by kernel_rfl) ⟨rfl, hQ ▸ W9.out⟩
theorem usedRecord_at (k : Int) (o : OpV) (al : Option Addr) (nl cl : Nat) (w : World) : Calls Try.prog 9 #[recV k o (.slice al nl cl)] w fun e w' => e = .returned (.tuple #[usedRV k o (.slice al nl cl), .bool (recOk k o)]) ∧ Below w.heap.size w w' := by
  have US : Hid (∀ w : World, Calls Try.prog 25 #[opV o] w fun e w' => e = .returned (.tuple #[opV (usedV o), .bool (fmask o.kind).isSome]) ∧ Below w.heap.size w w') := fun w => used_at o w
  unfold usedRV recOk
  by_cases k1 : k = 1
  · subst k1
    simp only [if_true]
    have e : (if ((fmask o.kind).isSome) = true then recV 1 (usedV o) (.slice none 0 0) else recV 0 opZ (.slice none 0 0)) = recV (if ((fmask o.kind).isSome) = true then 1 else 0) (usedV o) (.slice none 0 0) := by
      unfold usedV
      cases fmask o.kind <;> rfl
    rw [← e]
    obtain ⟨f0, f1, f2, f3, f4, f5, f6⟩ := o
    exact usedRec_1 f0 f1 f2 f3 f4 f5 f6 al nl cl w _ _ US
  · by_cases k2 : k = 2
    · subst k2
      obtain ⟨f0, f1, f2, f3, f4, f5, f6⟩ := o
      exact usedRec_2 f0 f1 f2 f3 f4 f5 f6 al nl cl w
    · simp only [k1, k2, if_false, decide_false]
      obtain ⟨f0, f1, f2, f3, f4, f5, f6⟩ := o
      exact usedRec_no f0 f1 f2 f3 f4 f5 f6 al nl cl w k (by simpa using k1) (by simpa using k2)
end Go.Proofs.Ytdbjjeaflfoppaa
