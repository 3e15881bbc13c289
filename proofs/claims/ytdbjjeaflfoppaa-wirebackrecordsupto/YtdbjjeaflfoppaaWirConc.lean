/-
  Ours: slices.Grow of nil and slices.Concat of two rows of bytes.
-/
import Derived.Test.YtdbjjeaflfoppaaWirPutL
namespace Go.Proofs.Ytdbjjeaflfoppaa
open Go.RowKit

set_option maxRecDepth 20000 in
theorem grow_at (n : Nat) (hn : n ≤ 1000000000000) (w : World) : Calls Try.prog 67 #[.slice none 0 0, .int .i64 (n : Int)] w fun e w' => ∃ v, e = .returned v ∧ RowB 5 w.heap.size w' v [] ∧ Below w.heap.size w w' := by
  obtain ⟨i0, hi, hz0, hz1, hz2⟩ := info_parts infoB
  by_cases h0 : n = 0
  · subst h0
    go_enter Try.func67, Try.ntmps67
    go_wp2_with fail
    go_ret
    exact ⟨_, rfl, RowV.nil _ _ _, Below.refl _ _⟩
  · have uI : Try.prog.underlying 3 = some (.int .i64) := by kernel_rfl
    have hr := fun ty => Lib.run_append_nil_zeros (P := Try.prog) w 33 3 ty 5 i0 (.int .u8 0) .i64 .i64 underB uI hi hz0 n (by omega) (by omega) (by omega) (by rw [hz2]; omega)
    have c1 := grownCap_ge w n 0 5
    have c2 := grownCap_le_maxLen w n 0 5 (by unfold maxLen; omega)
    obtain ⟨C, hC⟩ : ∃ C, grownCap w n 0 5 = C := ⟨_, rfl⟩
    rw [hC] at c1 c2
    have hr' : Hid (∀ ty, (Builtin.append_ #[33, 3] ty #[.slice none 0 0, .int .i64 n]).run Try.prog w = .ok (.slice (some ⟨w.heap.size, 0, none⟩) n C) (w.drew.alloc (.cells (Builtin.zeroCells (Value.int .u8 0).cells n ++ Builtin.zeroCells (Value.int .u8 0).cells (C - n)) 5))) := by
      show ∀ ty, _
      rw [← hC]; exact hr
    have sz : (Builtin.zeroCells (Value.int .u8 0).cells n ++ Builtin.zeroCells (Value.int .u8 0).cells (C - n)).size = C := by
      rw [Array.size_append, size_zeroCells, size_zeroCells]; simp [Value.cells]; omega
    generalize Builtin.zeroCells (Value.int .u8 0).cells n ++ Builtin.zeroCells (Value.int .u8 0).cells (C - n) = zs at *
    have BA := below_alloc w (.cells zs 5)
    have B1 : Hid (Below w.heap.size w (w.drew.alloc (.cells zs 5))) := ⟨BA.os, BA.tape, BA.output, BA.size, BA.block⟩
    have R1 : Hid (RowB 5 w.heap.size (w.drew.alloc (.cells zs 5)) (.slice (some ⟨w.heap.size, 0, none⟩) 0 C) []) := ⟨rfl, .inr ⟨w.heap.size, C, zs, rfl, Nat.le_refl _, (MapKept.heap_alloc w.drew _).1, by simp, c2, by omega, by simp⟩⟩
    have C2 : Hid (C ≤ maxLen) := c2
    clear hr hC BA c2 sz
    have d0 : decide ((n : Int) < 0) = false := decide_eq_false (by omega)
    have d1 : decide ((0 : Int) < (n : Int)) = true := decide_eq_true (by omega)
    go_enter Try.func67, Try.ntmps67
    go_wp2_with (at_builtin; refine Lib.wpList_append_run _ rfl (.tmp 20) (.tmp 21) 33 3 rfl _ _ rfl rfl _ _ (hr'.out _) ?_)
    go_ret
    exact ⟨_, rfl, R1.out, B1.out⟩
end Go.Proofs.Ytdbjjeaflfoppaa
