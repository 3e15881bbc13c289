/-
  Ours: the statements' count and sameActs.
-/
import Derived.Test.YtmbbigkpeefjjaaCoOpn
import Derived.Test.YtmbbigkpeefjjaaPolHol
namespace Go.Proofs.Ytmbbigkpeefjjaa
open Go.RowKit LedM PolM CoM
namespace CoM
theorem cnt_b (a : Int) : ∀ l : List Int, 0 ≤ cnt a l ∧ cnt a l ≤ l.length
  | [] => by simp [cnt]
  | x :: r => by
    have := cnt_b a r
    unfold cnt
    simp only [List.length_cons, Int.natCast_add, Int.natCast_one]
    split <;> omega
theorem cnt_app (a : Int) : ∀ (l m : List Int), cnt a (l ++ m) = cnt a l + cnt a m
  | [], m => by simp [cnt]
  | x :: r, m => by
    rw [List.cons_append, cnt, cnt, cnt_app a r m]; omega
theorem cnt_take (a : Int) (l : List Int) (k : Nat) (hk : k < l.length) : cnt a (l.take (k + 1)) = cnt a (l.take k) + (if l.getD k 0 = a then 1 else 0) := by
  rw [List.take_add_one, cnt_app, List.getElem?_eq_getElem hk]
  simp [cnt, List.getD_eq_getElem?_getD, hk]
end CoM

set_option maxRecDepth 20000 in
set_option maxHeartbeats 1000000 in
theorem cnt_at (x : Int) (l : List Int) (v : Value) (w : World) (hr : Rd w v (bkL l)) (hb : l.length ≤ 1152921504606846976) :
    Calls Try.prog 17 #[v, .int .i64 x] w fun e w' => e = .returned (.int .i64 (cnt x l)) ∧ w' = w := by
  obtain ⟨ao, cap, rfl, hcap, hno, H⟩ := hr
  rw [bkL_len] at hcap ⊢
  have CE : Hid (∀ k, k < l.length → ∃ g o, ao = some ⟨g, o, none⟩ ∧ g < w.heap.size ∧ w.cell? ⟨g, o + k, none⟩ = some (.int .i64 (l.getD k 0))) := rd_cells H
  have CT : Hid (∀ k, k < l.length → cnt x (l.take (k + 1)) = cnt x (l.take k) + (if l.getD k 0 = x then 1 else 0)) := fun k hk => cnt_take x l k hk
  have CB : Hid (∀ k, k ≤ l.length → 0 ≤ cnt x (l.take k) ∧ cnt x (l.take k) ≤ k) := fun k hk => by
    have := cnt_b x (l.take k)
    rw [List.length_take] at this
    omega
  have CF : Hid (cnt x (l.take l.length) = cnt x l) := by show _ = _; rw [List.take_length]
  clear H hno
  generalize l.length = N at *
  go_enter Try.func17, Try.ntmps17
  go_wp2_with fail
  go_loopw [5, 6] (fun v5 v6 wr => ∃ k : Nat, v6 = .int .i64 (k : Int) ∧ k ≤ N ∧ v5 = .int .i64 (cnt x (l.take k)) ∧ wr = w) (fun _ v6 _ => N - (intOf v6).toNat)
  case atStart => exact ⟨0, rfl, by omega, rfl, rfl⟩
  case round =>
    obtain ⟨k, rfl, hk, rfl, rfl⟩ := hrel
    have cb := CB.out k hk
    by_cases hlt : (k : Int) < (N : Int)
    · obtain ⟨g, o, rfl, lt, hc⟩ := CE.out k (by omega)
      have NX := CT.out k (by omega)
      have HN : Hid (cnt x (l.take (k + 1)) = cnt x (l.take k) + (if l.getD k 0 = x then 1 else 0)) := NX
      clear NX CE CT CB CF
      generalize hd : l.getD k 0 = d at *
      generalize hy : cnt x (l.take k) = y at *
      have HY : Hid (cnt x (l.take k) = y) := hy
      clear hd hy
      by_cases hq : d = x
      · have dq : (d == x) = true := by simpa using hq
        rw [if_pos hq] at HN
        clear hq
        go_wp2_with fail
        go_roundw
        case rel => exact ⟨k + 1, by go_num, by omega, by rw [HN.out], trivial⟩
        case measure => simp [intOf]; omega
      · have dq : (d == x) = false := by simpa using hq
        rw [if_neg hq] at HN
        clear hq
        go_wp2_with fail
        go_roundw
        case rel => exact ⟨k + 1, by go_num, by omega, by rw [HN.out, Int.add_zero], trivial⟩
        case measure => simp [intOf]; omega
    · obtain rfl : k = N := by omega
      go_wp2_with fail
      go_ret
      exact ⟨by rw [CF.out]; rfl, rfl⟩

set_option maxRecDepth 20000 in
set_option maxHeartbeats 1000000 in
theorem same_at (l : List Int) (v v' : Value) (w : World) (hr : Rd w v (bkL l)) (hr' : Rd w v' (bkL l)) (hb : l.length ≤ 1152921504606846976) :
    Calls Try.prog 15 #[v, v'] w fun e w' => e = .returned (.bool true) ∧ Below w.heap.size w w' := by
  obtain ⟨ao, cap, rfl, hcap, hno, H⟩ := hr
  obtain ⟨ao', cap', rfl, hcap', hno', H'⟩ := hr'
  rw [bkL_len] at hcap hcap' ⊢
  have CE : Hid (∀ k, k < l.length → ∃ g o, ao = some ⟨g, o, none⟩ ∧ g < w.heap.size ∧ w.cell? ⟨g, o + k, none⟩ = some (.int .i64 (l.getD k 0))) := rd_cells H
  have CE' : Hid (∀ k, k < l.length → ∃ g o, ao' = some ⟨g, o, none⟩ ∧ g < w.heap.size ∧ w.cell? ⟨g, o + k, none⟩ = some (.int .i64 (l.getD k 0))) := rd_cells H'
  clear H hno H' hno'
  generalize l.length = N at *
  go_enter Try.func15, Try.ntmps15
  go_wp2_with fail
  go_loopw [5] (fun v5 wr => ∃ k : Nat, v5 = .int .i64 (k : Int) ∧ k ≤ N ∧ ∃ n, wr = w.drewN n) (fun v5 _ => N - (intOf v5).toNat)
  case atStart => exact ⟨0, rfl, by omega, 0, rfl⟩
  case round =>
    obtain ⟨k, rfl, hk, n, rfl⟩ := hrel
    by_cases hlt : (k : Int) < (N : Int)
    · obtain ⟨g, o, rfl, lt, hc⟩ := CE.out k (by omega)
      obtain ⟨g', o', rfl, lt', hc'⟩ := CE'.out k (by omega)
      clear CE CE'
      generalize hd : l.getD k 0 = d at *
      clear hd
      go_wp2_with fail
      go_quiet (fail)
      go_wp2_with fail
      go_roundw
      case rel => exact ⟨k + 1, by go_num, by omega, n + nq, rfl⟩
      case measure => simp [intOf]; omega
    · obtain rfl : k = N := by omega
      go_wp2_with fail
      go_ret
      exact ⟨rfl, below_drewN (Below.refl _ _) n⟩
end Go.Proofs.Ytmbbigkpeefjjaa
