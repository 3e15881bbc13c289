/-
  Ours: the range and the sides of a book; what is wrong with entries.
-/
import Derived.Test.YtgdmkcbbomfmdaaGreatDoorLedSums
import Derived.Deep.QuietTactic
import Derived.BigQuiet
namespace Go.Proofs.YtgdmkcbbomfmdaaGreatDoor
open Go.RowKit LedM

namespace LedM
def rangeB (l : List Int) : Bool := (List.range 12).all fun j => l.getD j 0 != -9223372036854775808
def ownB (j : Nat) (x : Int) : Bool := x == 0 || (decide (0 < x) == isD (j : Int))
def sidesB (l : List Int) : Bool := (List.range 12).all fun j => ownB j (l.getD j 0)
theorem all_true {p : Nat → Bool} (h : ∀ j, j < 12 → p j = true) : (List.range 12).all p = true := by rw [List.all_eq_true]; intro j hj; exact h j (by simpa using hj)
theorem all_at {p : Nat → Bool} (h : (List.range 12).all p = true) (j : Nat) (hj : j < 12) : p j = true := by rw [List.all_eq_true] at h; exact h j (by simpa using hj)
theorem all_false {p : Nat → Bool} (j : Nat) (hj : j < 12) (h : p j = false) : (List.range 12).all p = false := by
  cases e : (List.range 12).all p
  · rfl
  · rw [all_at e j hj] at h; cases h
structure Ent where
  d : Int
  c : Int
  a : Int
def entL (e : Ent) : List Value := [.int .i64 e.d, .int .i64 e.c, .int .i64 e.a]
def EntOk (e : Ent) : Prop := i64 e.d ∧ i64 e.c ∧ i64 e.a
/-- What is wrong with an entry; with the first of a list that is bad at all. -/
def entE (e : Ent) : Int := if !isA e.d || !isA e.c || e.d == e.c then 80 else if e.a < 1 then 4 else 0
def faultE : List Ent → Int
  | [] => 0
  | e :: r => if entE e = 0 then faultE r else entE e
end LedM

set_option maxHeartbeats 1000000 in
theorem inRange_at (l : List Int) (w : World) (hl : BkOk l) : Calls Tryz.prog 88 #[.agg (bkL l).toArray] w fun e w' => e = .returned (.bool (rangeB l)) ∧ Below w.heap.size w w' := by
  have IX : Hid (∀ (k : Nat), k < 12 → ∀ w : World, (Instr.index 29 (.agg (bkL l).toArray) (.int .i64 (k : Int))).run Tryz.prog w = .ok (.int .i64 (l.getD k 0)) w) := fun k hk w => index_net k hl.1 hk w
  have CI : Hid ((Tryz.prog.info? 29).map (·.size) = some (bkL l).length) := by show _ = _; rw [bkL_len, hl.1]; exact cellsNet
  have NB : Hid (Blk w.heap.size 31 (bkL l) (w.alloc (.cells (bkL l).toArray 31))) := Blk.new 31 (bkL l) w
  have BB : Hid (Below w.heap.size w (w.alloc (.cells (bkL l).toArray 31))) := below_alloc w _
  obtain ⟨K, HK⟩ : ∃ K, Hid (rangeB l = K) := ⟨_, rfl⟩
  rw [HK.out]
  clear hl
  go_enter Tryz.func88, Tryz.ntmps88
  go_wp2_with (refine step_load rfl 29 _ rfl w.heap.size 0 rfl (bkL l) _ NB.out.all Tryz.underlying29 rfl CI.out ?_)
  generalize w.alloc (.cells (bkL l).toArray 31) = w2 at *
  go_loopw [4, 7] (fun _ vk wr => ∃ k : Nat, vk = .int .i64 (k : Int) ∧ k ≤ 12 ∧ wr = w2 ∧ Hid (∀ j, j < k → (l.getD j 0 != -9223372036854775808) = true)) (fun _ vk _ => 12 - (intOf vk).toNat)
  case atStart => exact ⟨0, rfl, by omega, rfl, fun j hj => by omega⟩
  case round =>
    obtain ⟨k, rfl, hk, rfl, OK⟩ := hrel
    by_cases hlt : (k : Int) < 12
    · have ix := IX.out k (by omega)
      have KF : Hid ((l.getD k 0 == -9223372036854775808) = true → K = false) := fun h => HK.out.symm.trans (all_false k (by omega) (by show (!(_ == _)) = false; rw [h]; rfl))
      have KT : Hid ((l.getD k 0 == -9223372036854775808) = false → ∀ j, j < k + 1 → (l.getD j 0 != -9223372036854775808) = true) := fun h j hj => by
        by_cases e : j = k
        · subst e; show (!(_ == _)) = true; rw [h]; rfl
        · exact OK.out j (by omega)
      obtain ⟨b, hb⟩ : ∃ b, (l.getD k 0 == -9223372036854775808) = b := ⟨_, rfl⟩
      rw [hb] at KF KT
      generalize l.getD k 0 = x at *
      cases b
      · go_wp2_with fail
        go_roundw
        case rel => exact ⟨k + 1, by go_num, by omega, by first | rfl | trivial, KT.out (by first | rfl | trivial)⟩
        case measure => simp [intOf]; omega
      · obtain rfl : K = false := KF.out (by first | rfl | trivial)
        go_wp2_with fail
        go_ret
        exact ⟨rfl, BB.out⟩
    · obtain rfl : k = 12 := by omega
      obtain rfl : K = true := HK.out.symm.trans (all_true OK.out)
      go_wp2_with fail
      go_ret
      exact ⟨rfl, BB.out⟩

set_option maxHeartbeats 1000000 in
theorem sides_at (l : List Int) (w : World) (hl : BkOk l) (hT : TabD w) : Calls Tryz.prog 89 #[.agg (bkL l).toArray] w fun e w' => e = .returned (.bool (sidesB l)) ∧ Below w.heap.size w w' := by
  have IX : Hid (∀ (k : Nat), k < 12 → ∀ w : World, (Instr.index 29 (.agg (bkL l).toArray) (.int .i64 (k : Int))).run Tryz.prog w = .ok (.int .i64 (l.getD k 0)) w) := fun k hk w => index_net k hl.1 hk w
  have CI : Hid ((Tryz.prog.info? 29).map (·.size) = some (bkL l).length) := by show _ = _; rw [bkL_len, hl.1]; exact cellsNet
  have NB : Hid (Blk w.heap.size 31 (bkL l) (w.alloc (.cells (bkL l).toArray 31))) := Blk.new 31 (bkL l) w
  have BB : Hid (Below w.heap.size w (w.alloc (.cells (bkL l).toArray 31))) := below_alloc w _
  have TD : Hid (TabD (w.alloc (.cells (bkL l).toArray 31))) := hT.later BB.out
  obtain ⟨K, HK⟩ : ∃ K, Hid (sidesB l = K) := ⟨_, rfl⟩
  rw [HK.out]
  clear hl hT
  go_enter Tryz.func89, Tryz.ntmps89
  go_wp2_with (refine step_load rfl 29 _ rfl w.heap.size 0 rfl (bkL l) _ NB.out.all Tryz.underlying29 rfl CI.out ?_)
  generalize w.alloc (.cells (bkL l).toArray 31) = w2 at *
  go_loopw [3, 4, 7] (fun _ _ vk wr => ∃ k : Nat, vk = .int .i64 (k : Int) ∧ k ≤ 12 ∧ wr = w2 ∧ Hid (∀ j, j < k → ownB j (l.getD j 0) = true)) (fun _ _ vk _ => 12 - (intOf vk).toNat)
  case atStart => exact ⟨0, rfl, by omega, rfl, fun j hj => by omega⟩
  case round =>
    obtain ⟨k, rfl, hk, rfl, OK⟩ := hrel
    by_cases hlt : (k : Int) < 12
    · have ix := IX.out k (by omega)
      have td := TD.out k (by omega)
      have KF : Hid (ownB k (l.getD k 0) = false → K = false) := fun h => HK.out.symm.trans (all_false k (by omega) h)
      have KT : Hid (ownB k (l.getD k 0) = true → ∀ j, j < k + 1 → ownB j (l.getD j 0) = true) := fun h j hj => by
        by_cases e : j = k
        · subst e; exact h
        · exact OK.out j (by omega)
      have eo : ownB k (l.getD k 0) = (l.getD k 0 == 0 || (decide (0 < l.getD k 0) == isD (k : Int))) := rfl
      rw [eo] at KF KT
      clear eo
      generalize l.getD k 0 = x at *
      generalize isD (k : Int) = sd at *
      obtain ⟨b, hb⟩ : ∃ b, (x == 0) = b := ⟨_, rfl⟩
      have hb' : (x != 0) = !b := by rw [← hb]; rfl
      obtain ⟨g, hg⟩ : ∃ g, decide (0 < x) = g := ⟨_, rfl⟩
      rw [hb, hg] at KF KT
      clear hb
      cases b
      · cases g <;> cases sd
        case false.false =>
          go_wp2_with fail
          go_roundw
          case rel => exact ⟨k + 1, by go_num, by omega, by first | rfl | trivial, KT.out (by first | rfl | trivial)⟩
          case measure => simp [intOf]; omega
        case true.true =>
          go_wp2_with fail
          go_roundw
          case rel => exact ⟨k + 1, by go_num, by omega, by first | rfl | trivial, KT.out (by first | rfl | trivial)⟩
          case measure => simp [intOf]; omega
        case true.false =>
          obtain rfl : K = false := KF.out (by first | rfl | trivial)
          go_wp2_with fail
          go_ret
          exact ⟨rfl, BB.out⟩
        case false.true =>
          obtain rfl : K = false := KF.out (by first | rfl | trivial)
          go_wp2_with fail
          go_ret
          exact ⟨rfl, BB.out⟩
      · clear hg
        go_wp2_with fail
        go_roundw
        case rel => exact ⟨k + 1, by go_num, by omega, by first | rfl | trivial, KT.out (by first | rfl | trivial)⟩
        case measure => simp [intOf]; omega
    · obtain rfl : k = 12 := by omega
      obtain rfl : K = true := HK.out.symm.trans (all_true OK.out)
      go_wp2_with fail
      go_ret
      exact ⟨rfl, BB.out⟩
end Go.Proofs.YtgdmkcbbomfmdaaGreatDoor
