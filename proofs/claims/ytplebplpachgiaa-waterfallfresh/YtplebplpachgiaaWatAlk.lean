/-
  Ours: two lists of moves alike.
-/
import Derived.Test.YtplebplpachgiaaLedRev
namespace Go.Proofs.Ytplebplpachgiaa
open Go.RowKit LedM

set_option maxRecDepth 20000 in
set_option maxHeartbeats 2000000 in
theorem alike9_yes (es : List Ent) (va vb : Value) (w : World) (hl : es.length ≤ 1000000000) (h : RdE w va es) (h' : RdE w vb es) : Calls Try.prog 11 #[va, vb] w fun e w' => e = .returned (.bool true) ∧ ∃ n, w' = w.drewN n := by
  obtain ⟨ao, cap, rfl, hc, hn, H⟩ := h
  obtain ⟨ao', cap', rfl, hc', hn', H'⟩ := h'
  obtain ⟨L, hL⟩ : ∃ L, es.length = L := ⟨_, rfl⟩
  have C1 : Hid (∀ i, i < L → ∃ g o, ao = some ⟨g, o, none⟩ ∧ w.cell? ⟨g, o + i * 3, none⟩ = some (.int .i64 (eN es i).d) ∧ w.cell? ⟨g, o + i * 3 + 1, none⟩ = some (.int .i64 (eN es i).c) ∧ w.cell? ⟨g, o + i * 3 + 2, none⟩ = some (.int .i64 (eN es i).a)) := fun i hi => by
    obtain ⟨g, o, e, _, r⟩ := H i (by omega)
    exact ⟨g, o, e, r 0 _ rfl, r 1 _ rfl, r 2 _ rfl⟩
  have C2 : Hid (∀ i, i < L → ∃ g o, ao' = some ⟨g, o, none⟩ ∧ w.cell? ⟨g, o + i * 3, none⟩ = some (.int .i64 (eN es i).d) ∧ w.cell? ⟨g, o + i * 3 + 1, none⟩ = some (.int .i64 (eN es i).c) ∧ w.cell? ⟨g, o + i * 3 + 2, none⟩ = some (.int .i64 (eN es i).a)) := fun i hi => by
    obtain ⟨g, o, e, _, r⟩ := H' i (by omega)
    exact ⟨g, o, e, r 0 _ rfl, r 1 _ rfl, r 2 _ rfl⟩
  rw [hL] at hl ⊢
  clear H H' hL hc hc' hn hn'
  have e0 : ((L : Int) != (L : Int)) = false := by simp
  go_enter Try.func11, Try.ntmps11
  go_wp2_with fail
  go_loopw [5] (fun vk wr => ∃ (m k : Nat), wr = w.drewN m ∧ vk = .int .i64 (k : Int) ∧ k ≤ L) (fun vk _ => L - (intOf vk).toNat)
  case atStart => exact ⟨0, 0, rfl, rfl, by omega⟩
  case round =>
    obtain ⟨m, k, rfl, rfl, hk⟩ := hrel
    by_cases hlt : (k : Int) < (L : Int)
    · obtain ⟨g, o, rfl, c0, c1, c2⟩ := C1.out k (by omega)
      obtain ⟨g', o', rfl, c3, c4, c5⟩ := C2.out k (by omega)
      generalize (eN es k).d = xd at *
      generalize (eN es k).c = xc at *
      generalize (eN es k).a = xa at *
      have e1 : (xd != xd) = false := by simp
      have e2 : (xc != xc) = false := by simp
      have e3 : (xa != xa) = false := by simp
      go_wp2_with fail
      go_quiet (fail)
      go_wp2_with fail
      go_roundw
      case rel => exact ⟨m + nq, k + 1, by simp, by go_num, by omega⟩
      case measure => simp [intOf]; omega
    · obtain rfl : k = L := by omega
      go_wp2_with fail
      go_ret
      exact ⟨rfl, m, rfl⟩
end Go.Proofs.Ytplebplpachgiaa
