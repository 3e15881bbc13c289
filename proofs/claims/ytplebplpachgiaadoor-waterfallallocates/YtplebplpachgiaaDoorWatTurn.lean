/-
  Ours: the document's Turn; wants.
-/
import Derived.Test.YtplebplpachgiaaDoorWatOf
namespace Go.Proofs.YtplebplpachgiaaDoor
open Go.RowKit LedM WatM

set_option maxRecDepth 20000 in
theorem turn_0_0 (w : World) : Calls Tryd.prog 13 #[.int .i64 0, .int .i64 0] w fun e w' => e = .returned (.int .i64 3) ∧ w' = w := by
  go_enter Tryd.func13, Tryd.ntmps13
  go_wp2_with fail
  go_loopw [5, 6] (fun vr vi wr => wr = w ∧ ((vi = .int .i64 0 ∧ vr = .int .i64 321) ∨ (vi = .int .i64 1 ∧ vr = .int .i64 32) ∨ (vi = .int .i64 2 ∧ vr = .int .i64 3))) (fun _ vi _ => 2 - (intOf vi).toNat)
  case atStart => exact ⟨rfl, .inl ⟨rfl, rfl⟩⟩
  case round =>
    obtain ⟨rfl, h⟩ := hrel
    rcases h with ⟨rfl, rfl⟩ | ⟨rfl, rfl⟩ | ⟨rfl, rfl⟩
    · go_wp2_with fail
      go_roundw
      case rel => first | exact ⟨rfl, .inr (.inl ⟨rfl, rfl⟩)⟩ | simp
      case measure => decide
    · go_wp2_with fail
      go_roundw
      case rel => first | exact ⟨rfl, .inr (.inr (⟨rfl, rfl⟩))⟩ | simp
      case measure => decide
    · go_wp2_with fail
      go_ret
      exact ⟨rfl, rfl⟩

set_option maxRecDepth 20000 in
theorem turn_0_1 (w : World) : Calls Tryd.prog 13 #[.int .i64 0, .int .i64 1] w fun e w' => e = .returned (.int .i64 2) ∧ w' = w := by
  go_enter Tryd.func13, Tryd.ntmps13
  go_wp2_with fail
  go_loopw [5, 6] (fun vr vi wr => wr = w ∧ ((vi = .int .i64 1 ∧ vr = .int .i64 321) ∨ (vi = .int .i64 2 ∧ vr = .int .i64 32))) (fun _ vi _ => 2 - (intOf vi).toNat)
  case atStart => exact ⟨rfl, .inl ⟨rfl, rfl⟩⟩
  case round =>
    obtain ⟨rfl, h⟩ := hrel
    rcases h with ⟨rfl, rfl⟩ | ⟨rfl, rfl⟩
    · go_wp2_with fail
      go_roundw
      case rel => first | exact ⟨rfl, .inr (⟨rfl, rfl⟩)⟩ | simp
      case measure => decide
    · go_wp2_with fail
      go_ret
      exact ⟨rfl, rfl⟩

set_option maxRecDepth 20000 in
theorem turn_0_2 (w : World) : Calls Tryd.prog 13 #[.int .i64 0, .int .i64 2] w fun e w' => e = .returned (.int .i64 1) ∧ w' = w := by
  go_enter Tryd.func13, Tryd.ntmps13
  go_wp2_with fail
  go_loopw [5, 6] (fun vr vi wr => wr = w ∧ ((vi = .int .i64 2 ∧ vr = .int .i64 321))) (fun _ vi _ => 2 - (intOf vi).toNat)
  case atStart => exact ⟨rfl, ⟨rfl, rfl⟩⟩
  case round =>
    obtain ⟨rfl, h⟩ := hrel
    rcases h with ⟨rfl, rfl⟩
    · go_wp2_with fail
      go_ret
      exact ⟨rfl, rfl⟩

set_option maxRecDepth 20000 in
theorem turn_1_0 (w : World) : Calls Tryd.prog 13 #[.int .i64 1, .int .i64 0] w fun e w' => e = .returned (.int .i64 3) ∧ w' = w := by
  go_enter Tryd.func13, Tryd.ntmps13
  go_wp2_with fail
  go_loopw [5, 6] (fun vr vi wr => wr = w ∧ ((vi = .int .i64 0 ∧ vr = .int .i64 312) ∨ (vi = .int .i64 1 ∧ vr = .int .i64 31) ∨ (vi = .int .i64 2 ∧ vr = .int .i64 3))) (fun _ vi _ => 2 - (intOf vi).toNat)
  case atStart => exact ⟨rfl, .inl ⟨rfl, rfl⟩⟩
  case round =>
    obtain ⟨rfl, h⟩ := hrel
    rcases h with ⟨rfl, rfl⟩ | ⟨rfl, rfl⟩ | ⟨rfl, rfl⟩
    · go_wp2_with fail
      go_roundw
      case rel => first | exact ⟨rfl, .inr (.inl ⟨rfl, rfl⟩)⟩ | simp
      case measure => decide
    · go_wp2_with fail
      go_roundw
      case rel => first | exact ⟨rfl, .inr (.inr (⟨rfl, rfl⟩))⟩ | simp
      case measure => decide
    · go_wp2_with fail
      go_ret
      exact ⟨rfl, rfl⟩

set_option maxRecDepth 20000 in
theorem turn_1_1 (w : World) : Calls Tryd.prog 13 #[.int .i64 1, .int .i64 1] w fun e w' => e = .returned (.int .i64 1) ∧ w' = w := by
  go_enter Tryd.func13, Tryd.ntmps13
  go_wp2_with fail
  go_loopw [5, 6] (fun vr vi wr => wr = w ∧ ((vi = .int .i64 1 ∧ vr = .int .i64 312) ∨ (vi = .int .i64 2 ∧ vr = .int .i64 31))) (fun _ vi _ => 2 - (intOf vi).toNat)
  case atStart => exact ⟨rfl, .inl ⟨rfl, rfl⟩⟩
  case round =>
    obtain ⟨rfl, h⟩ := hrel
    rcases h with ⟨rfl, rfl⟩ | ⟨rfl, rfl⟩
    · go_wp2_with fail
      go_roundw
      case rel => first | exact ⟨rfl, .inr (⟨rfl, rfl⟩)⟩ | simp
      case measure => decide
    · go_wp2_with fail
      go_ret
      exact ⟨rfl, rfl⟩

set_option maxRecDepth 20000 in
theorem turn_1_2 (w : World) : Calls Tryd.prog 13 #[.int .i64 1, .int .i64 2] w fun e w' => e = .returned (.int .i64 2) ∧ w' = w := by
  go_enter Tryd.func13, Tryd.ntmps13
  go_wp2_with fail
  go_loopw [5, 6] (fun vr vi wr => wr = w ∧ ((vi = .int .i64 2 ∧ vr = .int .i64 312))) (fun _ vi _ => 2 - (intOf vi).toNat)
  case atStart => exact ⟨rfl, ⟨rfl, rfl⟩⟩
  case round =>
    obtain ⟨rfl, h⟩ := hrel
    rcases h with ⟨rfl, rfl⟩
    · go_wp2_with fail
      go_ret
      exact ⟨rfl, rfl⟩

set_option maxRecDepth 20000 in
theorem turn_2_0 (w : World) : Calls Tryd.prog 13 #[.int .i64 2, .int .i64 0] w fun e w' => e = .returned (.int .i64 2) ∧ w' = w := by
  go_enter Tryd.func13, Tryd.ntmps13
  go_wp2_with fail
  go_loopw [5, 6] (fun vr vi wr => wr = w ∧ ((vi = .int .i64 0 ∧ vr = .int .i64 231) ∨ (vi = .int .i64 1 ∧ vr = .int .i64 23) ∨ (vi = .int .i64 2 ∧ vr = .int .i64 2))) (fun _ vi _ => 2 - (intOf vi).toNat)
  case atStart => exact ⟨rfl, .inl ⟨rfl, rfl⟩⟩
  case round =>
    obtain ⟨rfl, h⟩ := hrel
    rcases h with ⟨rfl, rfl⟩ | ⟨rfl, rfl⟩ | ⟨rfl, rfl⟩
    · go_wp2_with fail
      go_roundw
      case rel => first | exact ⟨rfl, .inr (.inl ⟨rfl, rfl⟩)⟩ | simp
      case measure => decide
    · go_wp2_with fail
      go_roundw
      case rel => first | exact ⟨rfl, .inr (.inr (⟨rfl, rfl⟩))⟩ | simp
      case measure => decide
    · go_wp2_with fail
      go_ret
      exact ⟨rfl, rfl⟩

set_option maxRecDepth 20000 in
theorem turn_2_1 (w : World) : Calls Tryd.prog 13 #[.int .i64 2, .int .i64 1] w fun e w' => e = .returned (.int .i64 3) ∧ w' = w := by
  go_enter Tryd.func13, Tryd.ntmps13
  go_wp2_with fail
  go_loopw [5, 6] (fun vr vi wr => wr = w ∧ ((vi = .int .i64 1 ∧ vr = .int .i64 231) ∨ (vi = .int .i64 2 ∧ vr = .int .i64 23))) (fun _ vi _ => 2 - (intOf vi).toNat)
  case atStart => exact ⟨rfl, .inl ⟨rfl, rfl⟩⟩
  case round =>
    obtain ⟨rfl, h⟩ := hrel
    rcases h with ⟨rfl, rfl⟩ | ⟨rfl, rfl⟩
    · go_wp2_with fail
      go_roundw
      case rel => first | exact ⟨rfl, .inr (⟨rfl, rfl⟩)⟩ | simp
      case measure => decide
    · go_wp2_with fail
      go_ret
      exact ⟨rfl, rfl⟩

set_option maxRecDepth 20000 in
theorem turn_2_2 (w : World) : Calls Tryd.prog 13 #[.int .i64 2, .int .i64 2] w fun e w' => e = .returned (.int .i64 1) ∧ w' = w := by
  go_enter Tryd.func13, Tryd.ntmps13
  go_wp2_with fail
  go_loopw [5, 6] (fun vr vi wr => wr = w ∧ ((vi = .int .i64 2 ∧ vr = .int .i64 231))) (fun _ vi _ => 2 - (intOf vi).toNat)
  case atStart => exact ⟨rfl, ⟨rfl, rfl⟩⟩
  case round =>
    obtain ⟨rfl, h⟩ := hrel
    rcases h with ⟨rfl, rfl⟩
    · go_wp2_with fail
      go_ret
      exact ⟨rfl, rfl⟩

set_option maxRecDepth 20000 in
theorem turn_3_0 (w : World) : Calls Tryd.prog 13 #[.int .i64 3, .int .i64 0] w fun e w' => e = .returned (.int .i64 2) ∧ w' = w := by
  go_enter Tryd.func13, Tryd.ntmps13
  go_wp2_with fail
  go_loopw [5, 6] (fun vr vi wr => wr = w ∧ ((vi = .int .i64 0 ∧ vr = .int .i64 213) ∨ (vi = .int .i64 1 ∧ vr = .int .i64 21) ∨ (vi = .int .i64 2 ∧ vr = .int .i64 2))) (fun _ vi _ => 2 - (intOf vi).toNat)
  case atStart => exact ⟨rfl, .inl ⟨rfl, rfl⟩⟩
  case round =>
    obtain ⟨rfl, h⟩ := hrel
    rcases h with ⟨rfl, rfl⟩ | ⟨rfl, rfl⟩ | ⟨rfl, rfl⟩
    · go_wp2_with fail
      go_roundw
      case rel => first | exact ⟨rfl, .inr (.inl ⟨rfl, rfl⟩)⟩ | simp
      case measure => decide
    · go_wp2_with fail
      go_roundw
      case rel => first | exact ⟨rfl, .inr (.inr (⟨rfl, rfl⟩))⟩ | simp
      case measure => decide
    · go_wp2_with fail
      go_ret
      exact ⟨rfl, rfl⟩

set_option maxRecDepth 20000 in
theorem turn_3_1 (w : World) : Calls Tryd.prog 13 #[.int .i64 3, .int .i64 1] w fun e w' => e = .returned (.int .i64 1) ∧ w' = w := by
  go_enter Tryd.func13, Tryd.ntmps13
  go_wp2_with fail
  go_loopw [5, 6] (fun vr vi wr => wr = w ∧ ((vi = .int .i64 1 ∧ vr = .int .i64 213) ∨ (vi = .int .i64 2 ∧ vr = .int .i64 21))) (fun _ vi _ => 2 - (intOf vi).toNat)
  case atStart => exact ⟨rfl, .inl ⟨rfl, rfl⟩⟩
  case round =>
    obtain ⟨rfl, h⟩ := hrel
    rcases h with ⟨rfl, rfl⟩ | ⟨rfl, rfl⟩
    · go_wp2_with fail
      go_roundw
      case rel => first | exact ⟨rfl, .inr (⟨rfl, rfl⟩)⟩ | simp
      case measure => decide
    · go_wp2_with fail
      go_ret
      exact ⟨rfl, rfl⟩

set_option maxRecDepth 20000 in
theorem turn_3_2 (w : World) : Calls Tryd.prog 13 #[.int .i64 3, .int .i64 2] w fun e w' => e = .returned (.int .i64 3) ∧ w' = w := by
  go_enter Tryd.func13, Tryd.ntmps13
  go_wp2_with fail
  go_loopw [5, 6] (fun vr vi wr => wr = w ∧ ((vi = .int .i64 2 ∧ vr = .int .i64 213))) (fun _ vi _ => 2 - (intOf vi).toNat)
  case atStart => exact ⟨rfl, ⟨rfl, rfl⟩⟩
  case round =>
    obtain ⟨rfl, h⟩ := hrel
    rcases h with ⟨rfl, rfl⟩
    · go_wp2_with fail
      go_ret
      exact ⟨rfl, rfl⟩

set_option maxRecDepth 20000 in
theorem turn_4_0 (w : World) : Calls Tryd.prog 13 #[.int .i64 4, .int .i64 0] w fun e w' => e = .returned (.int .i64 1) ∧ w' = w := by
  go_enter Tryd.func13, Tryd.ntmps13
  go_wp2_with fail
  go_loopw [5, 6] (fun vr vi wr => wr = w ∧ ((vi = .int .i64 0 ∧ vr = .int .i64 132) ∨ (vi = .int .i64 1 ∧ vr = .int .i64 13) ∨ (vi = .int .i64 2 ∧ vr = .int .i64 1))) (fun _ vi _ => 2 - (intOf vi).toNat)
  case atStart => exact ⟨rfl, .inl ⟨rfl, rfl⟩⟩
  case round =>
    obtain ⟨rfl, h⟩ := hrel
    rcases h with ⟨rfl, rfl⟩ | ⟨rfl, rfl⟩ | ⟨rfl, rfl⟩
    · go_wp2_with fail
      go_roundw
      case rel => first | exact ⟨rfl, .inr (.inl ⟨rfl, rfl⟩)⟩ | simp
      case measure => decide
    · go_wp2_with fail
      go_roundw
      case rel => first | exact ⟨rfl, .inr (.inr (⟨rfl, rfl⟩))⟩ | simp
      case measure => decide
    · go_wp2_with fail
      go_ret
      exact ⟨rfl, rfl⟩

set_option maxRecDepth 20000 in
theorem turn_4_1 (w : World) : Calls Tryd.prog 13 #[.int .i64 4, .int .i64 1] w fun e w' => e = .returned (.int .i64 3) ∧ w' = w := by
  go_enter Tryd.func13, Tryd.ntmps13
  go_wp2_with fail
  go_loopw [5, 6] (fun vr vi wr => wr = w ∧ ((vi = .int .i64 1 ∧ vr = .int .i64 132) ∨ (vi = .int .i64 2 ∧ vr = .int .i64 13))) (fun _ vi _ => 2 - (intOf vi).toNat)
  case atStart => exact ⟨rfl, .inl ⟨rfl, rfl⟩⟩
  case round =>
    obtain ⟨rfl, h⟩ := hrel
    rcases h with ⟨rfl, rfl⟩ | ⟨rfl, rfl⟩
    · go_wp2_with fail
      go_roundw
      case rel => first | exact ⟨rfl, .inr (⟨rfl, rfl⟩)⟩ | simp
      case measure => decide
    · go_wp2_with fail
      go_ret
      exact ⟨rfl, rfl⟩

set_option maxRecDepth 20000 in
theorem turn_4_2 (w : World) : Calls Tryd.prog 13 #[.int .i64 4, .int .i64 2] w fun e w' => e = .returned (.int .i64 2) ∧ w' = w := by
  go_enter Tryd.func13, Tryd.ntmps13
  go_wp2_with fail
  go_loopw [5, 6] (fun vr vi wr => wr = w ∧ ((vi = .int .i64 2 ∧ vr = .int .i64 132))) (fun _ vi _ => 2 - (intOf vi).toNat)
  case atStart => exact ⟨rfl, ⟨rfl, rfl⟩⟩
  case round =>
    obtain ⟨rfl, h⟩ := hrel
    rcases h with ⟨rfl, rfl⟩
    · go_wp2_with fail
      go_ret
      exact ⟨rfl, rfl⟩

set_option maxRecDepth 20000 in
theorem turn_5_0 (w : World) : Calls Tryd.prog 13 #[.int .i64 5, .int .i64 0] w fun e w' => e = .returned (.int .i64 1) ∧ w' = w := by
  go_enter Tryd.func13, Tryd.ntmps13
  go_wp2_with fail
  go_loopw [5, 6] (fun vr vi wr => wr = w ∧ ((vi = .int .i64 0 ∧ vr = .int .i64 123) ∨ (vi = .int .i64 1 ∧ vr = .int .i64 12) ∨ (vi = .int .i64 2 ∧ vr = .int .i64 1))) (fun _ vi _ => 2 - (intOf vi).toNat)
  case atStart => exact ⟨rfl, .inl ⟨rfl, rfl⟩⟩
  case round =>
    obtain ⟨rfl, h⟩ := hrel
    rcases h with ⟨rfl, rfl⟩ | ⟨rfl, rfl⟩ | ⟨rfl, rfl⟩
    · go_wp2_with fail
      go_roundw
      case rel => first | exact ⟨rfl, .inr (.inl ⟨rfl, rfl⟩)⟩ | simp
      case measure => decide
    · go_wp2_with fail
      go_roundw
      case rel => first | exact ⟨rfl, .inr (.inr (⟨rfl, rfl⟩))⟩ | simp
      case measure => decide
    · go_wp2_with fail
      go_ret
      exact ⟨rfl, rfl⟩

set_option maxRecDepth 20000 in
theorem turn_5_1 (w : World) : Calls Tryd.prog 13 #[.int .i64 5, .int .i64 1] w fun e w' => e = .returned (.int .i64 2) ∧ w' = w := by
  go_enter Tryd.func13, Tryd.ntmps13
  go_wp2_with fail
  go_loopw [5, 6] (fun vr vi wr => wr = w ∧ ((vi = .int .i64 1 ∧ vr = .int .i64 123) ∨ (vi = .int .i64 2 ∧ vr = .int .i64 12))) (fun _ vi _ => 2 - (intOf vi).toNat)
  case atStart => exact ⟨rfl, .inl ⟨rfl, rfl⟩⟩
  case round =>
    obtain ⟨rfl, h⟩ := hrel
    rcases h with ⟨rfl, rfl⟩ | ⟨rfl, rfl⟩
    · go_wp2_with fail
      go_roundw
      case rel => first | exact ⟨rfl, .inr (⟨rfl, rfl⟩)⟩ | simp
      case measure => decide
    · go_wp2_with fail
      go_ret
      exact ⟨rfl, rfl⟩

set_option maxRecDepth 20000 in
theorem turn_5_2 (w : World) : Calls Tryd.prog 13 #[.int .i64 5, .int .i64 2] w fun e w' => e = .returned (.int .i64 3) ∧ w' = w := by
  go_enter Tryd.func13, Tryd.ntmps13
  go_wp2_with fail
  go_loopw [5, 6] (fun vr vi wr => wr = w ∧ ((vi = .int .i64 2 ∧ vr = .int .i64 123))) (fun _ vi _ => 2 - (intOf vi).toNat)
  case atStart => exact ⟨rfl, ⟨rfl, rfl⟩⟩
  case round =>
    obtain ⟨rfl, h⟩ := hrel
    rcases h with ⟨rfl, rfl⟩
    · go_wp2_with fail
      go_ret
      exact ⟨rfl, rfl⟩

theorem turn_in (n j : Nat) (w : World) (hn : n < 6) (hj : j < 3) : Calls Tryd.prog 13 #[.int .i64 (n : Int), .int .i64 (j : Int)] w fun e w' => e = .returned (.int .i64 (kd n j : Int)) ∧ w' = w := by
  have a : n = 0 ∨ n = 1 ∨ n = 2 ∨ n = 3 ∨ n = 4 ∨ n = 5 := by omega
  have b : j = 0 ∨ j = 1 ∨ j = 2 := by omega
  rcases a with h | h | h | h | h | h <;> subst h <;> rcases b with h | h | h <;> subst h
  · exact turn_0_0 w
  · exact turn_0_1 w
  · exact turn_0_2 w
  · exact turn_1_0 w
  · exact turn_1_1 w
  · exact turn_1_2 w
  · exact turn_2_0 w
  · exact turn_2_1 w
  · exact turn_2_2 w
  · exact turn_3_0 w
  · exact turn_3_1 w
  · exact turn_3_2 w
  · exact turn_4_0 w
  · exact turn_4_1 w
  · exact turn_4_2 w
  · exact turn_5_0 w
  · exact turn_5_1 w
  · exact turn_5_2 w

set_option maxRecDepth 20000 in
theorem turn_out (o : Int) (w : World) (h : ¬(0 ≤ o ∧ o < 6)) : Calls Tryd.prog 13 #[.int .i64 o, .int .i64 0] w fun e w' => e = .returned (.int .i64 (-1)) ∧ w' = w := by
  have e0 : (o == 0) = false := by simp; omega
  have e1 : (o == 1) = false := by simp; omega
  have e2 : (o == 2) = false := by simp; omega
  have e3 : (o == 3) = false := by simp; omega
  have e4 : (o == 4) = false := by simp; omega
  have e5 : (o == 5) = false := by simp; omega
  clear h
  go_enter Tryd.func13, Tryd.ntmps13
  go_wp2_with fail
  go_ret
  exact ⟨rfl, rfl⟩

set_option maxRecDepth 20000 in
theorem wants_at (k : Nat) (f i p : Int) (w : World) (hk : k = 1 ∨ k = 2 ∨ k = 3) : Calls Tryd.prog 15 #[.agg (bkL [f, i, p]).toArray, .int .i64 (k : Int)] w fun e w' => e = .returned (.int .i64 (ptK f i p k)) ∧ Below w.heap.size w w' := by
  show Calls Tryd.prog 15 #[.agg #[.int .i64 f, .int .i64 i, .int .i64 p], .int .i64 (k : Int)] w fun e w' => e = .returned (.int .i64 (ptK f i p k)) ∧ Below w.heap.size w w'
  have BE : Hid (∀ o : Obj, Below w.heap.size w (w.alloc o)) := fun o => below_alloc w o
  rcases hk with rfl | rfl | rfl
  all_goals
    go_enter Tryd.func15, Tryd.ntmps15
    go_wp2_with fail
    go_ret
    exact ⟨rfl, BE.out _⟩
end Go.Proofs.YtplebplpachgiaaDoor
