/-
  Ours: the statements' samePlan, sameRows.
-/
import Derived.Test.YtekejcpgoijoaabAgRow
import Derived.Test.YtekejcpgoijoaabSum
import Derived.Deep.QuietTactic
import Derived.BigQuiet
namespace Go.Proofs.Ytekejcpgoijoaab
open Go.RowKit LedM AgM

set_option maxRecDepth 20000 in
set_option maxHeartbeats 2000000 in
theorem sameP_yes (l : List Ins) (va vb : Value) (w : World) (hl : l.length ≤ 1000000000) (h : RdP w va l) (h' : RdP w vb l) : Calls Try.prog 9 #[va, vb] w fun e w' => e = .returned (.bool true) ∧ ∃ n, w' = w.drewN n := by
  obtain ⟨ao, cap, rfl, hc, hn, H⟩ := h
  obtain ⟨ao', cap', rfl, hc', hn', H'⟩ := h'
  obtain ⟨L, hL⟩ : ∃ L, l.length = L := ⟨_, rfl⟩
  have C1 : Hid (∀ i, i < L → ∃ g o, ao = some ⟨g, o, none⟩ ∧ w.cell? ⟨g, o + i * 4, none⟩ = some (.int .i64 (iN l i).d) ∧ w.cell? ⟨g, o + i * 4 + 1, none⟩ = some (.int .i64 (iN l i).i) ∧ w.cell? ⟨g, o + i * 4 + 2, none⟩ = some (.int .i64 (iN l i).p) ∧ w.cell? ⟨g, o + i * 4 + 3, none⟩ = some (.bool (iN l i).m)) := fun i hi => by
    obtain ⟨g, o, e, _, r⟩ := H i (by omega)
    exact ⟨g, o, e, r 0 _ rfl, r 1 _ rfl, r 2 _ rfl, r 3 _ rfl⟩
  have C2 : Hid (∀ i, i < L → ∃ g o, ao' = some ⟨g, o, none⟩ ∧ w.cell? ⟨g, o + i * 4, none⟩ = some (.int .i64 (iN l i).d) ∧ w.cell? ⟨g, o + i * 4 + 1, none⟩ = some (.int .i64 (iN l i).i) ∧ w.cell? ⟨g, o + i * 4 + 2, none⟩ = some (.int .i64 (iN l i).p) ∧ w.cell? ⟨g, o + i * 4 + 3, none⟩ = some (.bool (iN l i).m)) := fun i hi => by
    obtain ⟨g, o, e, _, r⟩ := H' i (by omega)
    exact ⟨g, o, e, r 0 _ rfl, r 1 _ rfl, r 2 _ rfl, r 3 _ rfl⟩
  rw [hL] at hc hc' hl ⊢
  clear H H' hL hn hn'
  have e0 : ((L : Int) != (L : Int)) = false := by simp
  go_enter Try.func9, Try.ntmps9
  go_wp2_with fail
  go_loopw [5] (fun vk wr => ∃ k n : Nat, vk = .int .i64 (k : Int) ∧ k ≤ L ∧ wr = w.drewN n) (fun vk _ => L - (intOf vk).toNat)
  case atStart => exact ⟨0, 0, rfl, by omega, rfl⟩
  case round =>
    obtain ⟨k, n, rfl, hk, rfl⟩ := hrel
    by_cases hlt : (k : Int) < (L : Int)
    · obtain ⟨g, o, rfl, a0, a1, a2, a3⟩ := C1.out k (by omega)
      obtain ⟨g', o', rfl, b0, b1, b2, b3⟩ := C2.out k (by omega)
      clear C1 C2
      generalize (iN l k).d = xd at *
      generalize (iN l k).i = xi at *
      generalize (iN l k).p = xp at *
      generalize (iN l k).m = xm at *
      have q0 : (xd == xd) = true := by simp
      have q1 : (xi == xi) = true := by simp
      have q2 : (xp == xp) = true := by simp
      have q3 : (xm == xm) = true := by simp
      go_wp2_with fail
      go_quiet (fail)
      go_wp2_with fail
      go_roundw
      case rel => exact ⟨k + 1, _, by go_num, by omega, rfl⟩
      case measure => simp [intOf]; omega
    · clear C1 C2
      go_wp2_with fail
      go_ret
      exact ⟨rfl, n, rfl⟩

set_option maxRecDepth 20000 in
set_option maxHeartbeats 2000000 in
theorem sameR_yes (l : List Int) (va vb : Value) (w : World) (hl : l.length ≤ 1000000000) (h : Reads w va l) (h' : Reads w vb l) : Calls Try.prog 12 #[va, vb] w fun e w' => e = .returned (.bool true) ∧ ∃ n, w' = w.drewN n := by
  obtain ⟨L, hL⟩ : ∃ L, l.length = L := ⟨_, rfl⟩
  have F : ∀ v, Reads w v l → ∃ a c, v = .slice a L c ∧ ∀ i, i < L → ∃ g o, a = some ⟨g, o, none⟩ ∧ w.cell? ⟨g, o + i, none⟩ = some (.int .i64 (l.getD i 0)) := fun v hr => by
    rcases hr with ⟨e, a, c, e'⟩ | ⟨_, g, o, c, e, _, _, hc⟩
    · rw [e] at hL; simp at hL; subst hL; exact ⟨a, c, e', fun i hi => by omega⟩
    · exact ⟨_, c, by rw [← hL]; exact e, fun i hi => ⟨g, o, rfl, hc i (by omega)⟩⟩
  obtain ⟨ao, cap, rfl, c1⟩ := F va h
  obtain ⟨ao', cap', rfl, c2⟩ := F vb h'
  have C1 : Hid _ := c1
  have C2 : Hid _ := c2
  rw [hL] at hl
  clear h h' hL F c1 c2
  have e0 : ((L : Int) != (L : Int)) = false := by simp
  go_enter Try.func12, Try.ntmps12
  go_wp2_with fail
  go_loopw [5] (fun vk wr => ∃ k n : Nat, vk = .int .i64 (k : Int) ∧ k ≤ L ∧ wr = w.drewN n) (fun vk _ => L - (intOf vk).toNat)
  case atStart => exact ⟨0, 0, rfl, by omega, rfl⟩
  case round =>
    obtain ⟨k, n, rfl, hk, rfl⟩ := hrel
    by_cases hlt : (k : Int) < (L : Int)
    · obtain ⟨g, o, rfl, a0⟩ := C1.out k (by omega)
      obtain ⟨g', o', rfl, b0⟩ := C2.out k (by omega)
      clear C1 C2
      generalize l.getD k 0 = x at *
      have q0 : (x != x) = false := by simp
      go_wp2_with fail
      go_quiet (fail)
      go_wp2_with fail
      go_roundw
      case rel => exact ⟨k + 1, _, by go_num, by omega, rfl⟩
      case measure => simp [intOf]; omega
    · clear C1 C2
      go_wp2_with fail
      go_ret
      exact ⟨rfl, n, rfl⟩
end Go.Proofs.Ytekejcpgoijoaab
