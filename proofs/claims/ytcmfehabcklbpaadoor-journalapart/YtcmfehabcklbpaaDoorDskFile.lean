/-
  Ours: has, pick, room, cut, lose.
-/
import Derived.Test.YtcmfehabcklbpaaDoorDskLoad
import Derived.RegionTactic
namespace Go.Proofs.YtcmfehabcklbpaaDoor
open Go.RowKit

set_option maxRecDepth 20000 in
theorem has_at (p : Value) (n : Int) (w : World) : Calls Tryd.prog 40 #[p, .int .i64 n] w fun e w' => e = .returned (.bool (decide (0 ≤ n ∧ n < 2))) ∧ w' = w := by
  by_cases h1 : 0 ≤ n
  · have e1 : decide (0 ≤ n) = true := by simpa using h1
    by_cases h2 : n < 2
    · have e2 : decide (n < 2) = true := by simpa using h2
      have e3 : decide (0 ≤ n ∧ n < 2) = true := by simp [h1, h2]
      rw [e3]
      go_enter Tryd.func40, Tryd.ntmps40
      go_wp2_with fail
      go_ret
      exact ⟨rfl, rfl⟩
    · have e2 : decide (n < 2) = false := by simpa using h2
      have e3 : decide (0 ≤ n ∧ n < 2) = false := by simp [h2]
      rw [e3]
      go_enter Tryd.func40, Tryd.ntmps40
      go_wp2_with fail
      go_ret
      exact ⟨rfl, rfl⟩
  · have e1 : decide (0 ≤ n) = false := by simpa using h1
    have e3 : decide (0 ≤ n ∧ n < 2) = false := by simp [h1]
    rw [e3]
    go_enter Tryd.func40, Tryd.ntmps40
    go_wp2_with fail
    go_ret
    exact ⟨rfl, rfl⟩

/-- What pick answers. -/
def pickV (R : Nat) (n : Int) (dn : Bool) : Value × Int := if n = 0 ∨ n = 1 then (if dn then (.pointer none, 51) else (.pointer (some ⟨R, 2 * n.toNat, none⟩), 0)) else (.pointer none, 50)

set_option maxRecDepth 20000 in
set_option maxHeartbeats 1000000 in
theorem pick_at (R : Nat) (n : Int) (dn : Bool) (w : World) (c6 : w.cell? ⟨R, 6, none⟩ = some (.bool dn)) : Calls Tryd.prog 81 #[.pointer (some ⟨R, 0, none⟩), .int .i64 n] w fun e w' => e = .returned (.tuple #[(pickV R n dn).1, .int .i64 (pickV R n dn).2]) ∧ w' = w := by
  have HA : Hid (∀ w, Calls Tryd.prog 40 #[.pointer (some ⟨R, 0, none⟩), .int .i64 n] w fun e w' => e = .returned (.bool (decide (0 ≤ n ∧ n < 2))) ∧ w' = w) := fun w => has_at _ n w
  by_cases h : 0 ≤ n ∧ n < 2
  · rw [decide_eq_true h] at HA
    have hn : n = 0 ∨ n = 1 := by omega
    unfold pickV
    rw [if_pos hn]
    cases dn with
    | true =>
      rw [if_pos rfl]
      go_enter Tryd.func81, Tryd.ntmps81
      go_wp2_with fail
      refine (HA.out _).mono ?_
      rintro e w2 ⟨rfl, rfl⟩
      go_wp2_with fail
      go_ret2
      exact ⟨rfl, rfl⟩
    | false =>
      rw [if_neg (by simp)]
      rcases hn with rfl | rfl
      · go_enter Tryd.func81, Tryd.ntmps81
        go_wp2_with fail
        refine (HA.out _).mono ?_
        rintro e w2 ⟨rfl, rfl⟩
        go_wp2_with fail
        go_ret2
        exact ⟨rfl, rfl⟩
      · go_enter Tryd.func81, Tryd.ntmps81
        go_wp2_with fail
        refine (HA.out _).mono ?_
        rintro e w2 ⟨rfl, rfl⟩
        go_wp2_with fail
        go_ret2
        exact ⟨rfl, rfl⟩
  · rw [decide_eq_false h] at HA
    have hn : ¬ (n = 0 ∨ n = 1) := by omega
    unfold pickV
    rw [if_neg hn]
    go_enter Tryd.func81, Tryd.ntmps81
    go_wp2_with fail
    refine (HA.out _).mono ?_
    rintro e w2 ⟨rfl, rfl⟩
    go_wp2_with fail
    go_ret2
    exact ⟨rfl, rfl⟩

set_option maxRecDepth 20000 in
theorem room_at (R o n c : Nat) (a : Option Addr) (w : World) (c0 : w.cell? ⟨R, o, none⟩ = some (.slice a n c)) (hn : n ≤ 16777216) : Calls Tryd.prog 82 #[.pointer (some ⟨R, o, none⟩)] w fun e w' => e = .returned (.int .i64 (16777216 - (n : Int))) ∧ w' = w := by
  go_enter Tryd.func82, Tryd.ntmps82
  go_wp2_with fail
  go_ret
  exact ⟨rfl, rfl⟩

set_option maxRecDepth 20000 in
set_option maxHeartbeats 1000000 in
theorem cut_at (R o n c k : Nat) (a : Option Addr) (d : Value) (K : Int) (w : World) (hK : K = (k : Int)) (c0 : w.cell? ⟨R, o, none⟩ = some (.slice a n c)) (f0 : w.frozen? ⟨R, o, none⟩ = false) (c1 : w.cell? ⟨R, o + 1, none⟩ = some d) (f1 : w.frozen? ⟨R, o + 1, none⟩ = false) (hk : k ≤ c) :
    Calls Tryd.prog 85 #[.pointer (some ⟨R, o, none⟩), .int .i64 K] w fun e w' => e = .returned (.tuple #[]) ∧ w' = (w.setCell ⟨R, o, none⟩ (.slice a k c)).setCell ⟨R, o + 1, none⟩ (.int .i64 (k : Int)) := by
  subst hK
  go_enter Tryd.func85, Tryd.ntmps85
  go_wp2_with fail
  go_end0
  exact ⟨rfl, rfl⟩

set_option maxRecDepth 20000 in
set_option maxHeartbeats 1000000 in
theorem lose_at (R o n c d keep : Nat) (a : Option Addr) (w : World) (hd : d ≤ n) (hn : n ≤ 16777216) (hc : n ≤ c) (hkp : keep ≤ 16777216) (c0 : w.cell? ⟨R, o, none⟩ = some (.slice a n c)) (f0 : w.frozen? ⟨R, o, none⟩ = false) (c1 : w.cell? ⟨R, o + 1, none⟩ = some (.int .i64 (d : Int))) (f1 : w.frozen? ⟨R, o + 1, none⟩ = false) :
    Calls Tryd.prog 87 #[.pointer (some ⟨R, o, none⟩), .int .i64 (keep : Int)] w fun e w' => e = .returned (.tuple #[]) ∧ ∃ m, w' = ((w.drewN m).setCell ⟨R, o, none⟩ (.slice a (d + min keep (n - d)) c)).setCell ⟨R, o + 1, none⟩ (.int .i64 ((d + min keep (n - d) : Nat) : Int)) := by
  obtain ⟨p, hp⟩ : ∃ p, n - d = p := ⟨_, rfl⟩
  obtain ⟨k, hk⟩ : ∃ k, min keep p = k := ⟨_, rfl⟩
  rw [hp, hk]
  have CU : Hid (∀ K m, K = ((d + k : Nat) : Int) → Calls Tryd.prog 85 #[.pointer (some ⟨R, o, none⟩), .int .i64 K] (w.drewN m) fun e w' => e = .returned (.tuple #[]) ∧ w' = ((w.drewN m).setCell ⟨R, o, none⟩ (.slice a (d + k) c)).setCell ⟨R, o + 1, none⟩ (.int .i64 ((d + k : Nat) : Int))) := fun K m hK => cut_at R o n c (d + k) a _ K (w.drewN m) hK c0 f0 c1 f1 (by omega)
  have key : (if ((p : Int) < (keep : Int)) then (p : Int) else (keep : Int)) = (k : Int) := by split <;> omega
  have e1 : (n : Int) - (d : Int) = (p : Int) := by omega
  have hk2 : k ≤ 16777216 := by omega
  go_enter Tryd.func87, Tryd.ntmps87
  go_wp2_with fail
  go_region
  all_goals (go_wp2_with fail)
  all_goals
    refine (CU.out _ 1 (by omega)).mono ?_
    rintro e w2 ⟨rfl, rfl⟩
    go_wp2_with fail
    go_end0
    exact ⟨rfl, 1, rfl⟩
end Go.Proofs.YtcmfehabcklbpaaDoor
