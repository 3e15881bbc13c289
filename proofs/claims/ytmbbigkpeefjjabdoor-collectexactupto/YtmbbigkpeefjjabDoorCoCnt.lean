/-
  Ours: the statements' count and sameActs.
-/
import Derived.Test.YtmbbigkpeefjjabDoorCoOpn
import Derived.Test.YtmbbigkpeefjjabDoorPolHol
namespace Go.Proofs.YtmbbigkpeefjjabDoor
open Go.RowKit LedM PolM CoM
namespace CoM
theorem cnt_b (a : Int) : ∀ l : List Int, 0 ≤ cnt a l ∧ cnt a l ≤ l.length
  | [] => by simp [cnt]
  | x :: r => by
    have := cnt_b a r
    unfold cnt
    simp only [List.length_cons, Int.natCast_add, Int.natCast_one]
    split <;> omega
theorem cnt_app (a : Int) : ∀ (l m : List Int), cnt a (l ++ m) = cnt a l + cnt a m
  | [], m => by simp [cnt]
  | x :: r, m => by
    rw [List.cons_append, cnt, cnt, cnt_app a r m]; omega
theorem cnt_take (a : Int) (l : List Int) (k : Nat) (hk : k < l.length) : cnt a (l.take (k + 1)) = cnt a (l.take k) + (if l.getD k 0 = a then 1 else 0) := by
  rw [List.take_add_one, cnt_app, List.getElem?_eq_getElem hk]
  simp [cnt, List.getD_eq_getElem?_getD, hk]
end CoM

set_option maxRecDepth 20000 in
set_option maxHeartbeats 1000000 in
theorem same_at (l : List Int) (v v' : Value) (w : World) (hr : Rd w v (bkL l)) (hr' : Rd w v' (bkL l)) (hb : l.length ≤ 1152921504606846976) :
    Calls Tryd.prog 18 #[v, v'] w fun e w' => e = .returned (.bool true) ∧ Below w.heap.size w w' := by
  obtain ⟨ao, cap, rfl, hcap, hno, H⟩ := hr
  obtain ⟨ao', cap', rfl, hcap', hno', H'⟩ := hr'
  rw [bkL_len] at hcap hcap' ⊢
  have CE : Hid (∀ k, k < l.length → ∃ g o, ao = some ⟨g, o, none⟩ ∧ g < w.heap.size ∧ w.cell? ⟨g, o + k, none⟩ = some (.int .i64 (l.getD k 0))) := rd_cells H
  have CE' : Hid (∀ k, k < l.length → ∃ g o, ao' = some ⟨g, o, none⟩ ∧ g < w.heap.size ∧ w.cell? ⟨g, o + k, none⟩ = some (.int .i64 (l.getD k 0))) := rd_cells H'
  clear H hno H' hno'
  generalize l.length = N at *
  go_enter Tryd.func18, Tryd.ntmps18
  go_wp2_with fail
  go_loopw [5] (fun v5 wr => ∃ k : Nat, v5 = .int .i64 (k : Int) ∧ k ≤ N ∧ ∃ n, wr = w.drewN n) (fun v5 _ => N - (intOf v5).toNat)
  case atStart => exact ⟨0, rfl, by omega, 0, rfl⟩
  case round =>
    obtain ⟨k, rfl, hk, n, rfl⟩ := hrel
    by_cases hlt : (k : Int) < (N : Int)
    · obtain ⟨g, o, rfl, lt, hc⟩ := CE.out k (by omega)
      obtain ⟨g', o', rfl, lt', hc'⟩ := CE'.out k (by omega)
      clear CE CE'
      generalize hd : l.getD k 0 = d at *
      clear hd
      go_wp2_with fail
      go_quiet (fail)
      go_wp2_with fail
      go_roundw
      case rel => exact ⟨k + 1, by go_num, by omega, n + nq, rfl⟩
      case measure => simp [intOf]; omega
    · obtain rfl : k = N := by omega
      go_wp2_with fail
      go_ret
      exact ⟨rfl, below_drewN (Below.refl _ _) n⟩
end Go.Proofs.YtmbbigkpeefjjabDoor
