/-
  Ours: the statements' helpers alike, same and copied.
-/
import Derived.Test.YtkabfdajpilomabDoorIntRowI
import Derived.Test.YtkabfdajpilomabDoorCalHol
import Derived.Deep.QuietTactic
import Derived.BigQuiet
namespace Go.Proofs.YtkabfdajpilomabDoor
open Go.RowKit

theorem InstOk.at {w : World} {a : Option Addr} {rs : List (Int × Int × Int)} (h : InstOk w a rs) {k : Nat} (hk : k < rs.length) :
    ∃ g off : Nat, a = some ⟨g, off, none⟩ ∧ w.cell? ⟨g, off + k * 4, none⟩ = some (.int .i64 (rs.getD k (0, 0, 0)).1) ∧ w.cell? ⟨g, off + k * 4 + 1, none⟩ = some (.int .i64 (rs.getD k (0, 0, 0)).2.1) ∧ w.cell? ⟨g, off + k * 4 + 2, none⟩ = some (.int .i64 (rs.getD k (0, 0, 0)).2.2) ∧ w.cell? ⟨g, off + k * 4 + 3, none⟩ = some (.bool false) := by
  rcases h.cells with e | ⟨g, off, e, hc⟩
  · subst e; simp at hk
  · exact ⟨g, off, e, hc k hk⟩

set_option maxHeartbeats 2000000 in
theorem alike_at (a a' : Option Addr) (cap cap' : Nat) (rs : List (Int × Int × Int)) (w : World) (h : InstOk w a rs) (h' : InstOk w a' rs) :
    Calls Tryd.prog 8 #[.slice a rs.length cap, .slice a' rs.length cap'] w fun e w' => e = .returned (.bool true) ∧ ∃ n, w' = w.drewN n := by
  have hl := h.len
  have H : Hid (InstOk w a rs) := h
  have H' : Hid (InstOk w a' rs) := h'
  obtain ⟨L, hL⟩ : ∃ L, rs.length = L := ⟨_, rfl⟩
  have HL : Hid (rs.length = L) := hL
  rw [hL] at hl
  rw [hL]
  clear h h' hL
  go_enter Tryd.func8, Tryd.ntmps8
  go_wp2_with fail
  go_loopw [5] (fun vk wr => ∃ (m k : Nat), wr = w.drewN m ∧ vk = .int .i64 (k : Int) ∧ k ≤ L) (fun vk _ => L - (intOf vk).toNat)
  case atStart => exact ⟨0, 0, rfl, rfl, by omega⟩
  case round =>
    obtain ⟨m, k, rfl, rfl, hk⟩ := hrel
    by_cases hlt : (k : Int) < (L : Int)
    · obtain ⟨g, off, rfl, c0, c1, c2, c3⟩ := H.out.at (k := k) (by rw [HL.out]; omega)
      obtain ⟨g', off', rfl, d0, d1, d2, d3⟩ := H'.out.at (k := k) (by rw [HL.out]; omega)
      generalize rs.getD k (0, 0, 0) = x at *
      obtain ⟨xd, xi, xp⟩ := x
      have e1 : (xd != xd) = false := by simp
      have e2 : (xi != xi) = false := by simp
      have e3 : (xp != xp) = false := by simp
      go_wp2_with fail
      go_quiet (fail)
      go_wp2_with fail
      go_roundw
      case rel => exact ⟨m + nq, k + 1, by simp, by go_num, by omega⟩
      case measure => simp [intOf]; omega
    · obtain rfl : k = L := by omega
      go_wp2_with fail
      go_ret
      exact ⟨rfl, m, rfl⟩
end Go.Proofs.YtkabfdajpilomabDoor
