/-
  Ours: the contracts of arrearsref1.over, arrearsref1.more.
-/
import Derived.Test.YtcjmjbhbdojeiabTimes
namespace Go.Proofs.Ytcjmjbhbdojeiab
open Go.RowKit

namespace Over
theorem start (D : List Int) (c : Int) (lD : D.length = 128) : val (D.drop 128) = val ((List.replicate 128 0).drop 128) * c + 0 := by
  rw [List.drop_of_length_le (by omega), List.drop_of_length_le (by rw [List.length_replicate]; omega), val]
  simp
theorem zeros (i : Nat) : (List.replicate 128 (0 : Int)).getD i 0 = 0 := by
  simp only [List.getD_eq_getElem?_getD, List.getElem?_replicate]
  split <;> simp
theorem yes {D S : List Int} {k : Nat} {c r : Int} (hk : k < 128) (lD : D.length = 128) (lS : S.length = 128) (uS : Upto 1 S) (zS : ∀ i, i < k + 1 → S.getD i 0 = 0) (v : val (D.drop (k + 1)) = val (S.drop (k + 1)) * c + r) :
    (S.set k 1).length = 128 ∧ Upto 1 (S.set k 1) ∧ (∀ i, i < k → (S.set k 1).getD i 0 = 0) ∧ val (D.drop k) = val ((S.set k 1).drop k) * c + (2 * r + D.getD k 0 - c) := by
  refine ⟨by simp [lS], uS.set _ (by omega) (by omega), ?_, ?_⟩
  · intro i hi
    have := zS i (by omega)
    simp only [List.getD_eq_getElem?_getD, List.getElem?_set] at *
    rw [if_neg (by omega)]
    exact this
  · rw [val_drop D k (by omega), val_drop (S.set k 1) k (by simp; omega), List.drop_set_of_lt (by omega), v, Int.add_mul, Int.mul_add, ← Int.mul_assoc]
    have e : (S.set k 1).getD k 0 = 1 := by
      simp only [List.getD_eq_getElem?_getD, List.getElem?_set]
      rw [if_pos trivial, if_pos (by omega)]
      rfl
    rw [e]
    generalize val (S.drop (k + 1)) = z at *
    have : 2 * z * c = 2 * (z * c) := Int.mul_assoc _ _ _
    omega
theorem no {D S : List Int} {k : Nat} {c r : Int} (hk : k < 128) (lD : D.length = 128) (lS : S.length = 128) (zS : ∀ i, i < k + 1 → S.getD i 0 = 0) (v : val (D.drop (k + 1)) = val (S.drop (k + 1)) * c + r) :
    val (D.drop k) = val (S.drop k) * c + (2 * r + D.getD k 0) := by
  rw [val_drop D k (by omega), val_drop S k (by omega), v, zS k (by omega), Int.add_mul, Int.mul_add]
  generalize val (S.drop (k + 1)) = z at *
  have : 2 * z * c = 2 * (z * c) := Int.mul_assoc _ _ _
  omega
end Over

set_option maxHeartbeats 2000000 in
theorem over_any (D : List Int) (gd od capd : Nat) (c : Int) (w : World) (lD : D.length = 128) (uD : Upto 1 D) (hgd : gd < w.heap.size) (c0 : 0 < c) (c1 : c ≤ 9223372036854775808)
    (hd : ∀ i, i < 128 → w.cell? ⟨gd, od + i, none⟩ = some (.int .i64 (D.getD i 0))) :
    Calls Try.prog 34 #[.slice (some ⟨gd, od, none⟩) 128 capd, .int .u64 c] w fun e w' =>
      ∃ v r, e = .returned (.tuple #[v, .int .u64 r]) ∧ ∃ S, Row 3 w.heap.size w' v S ∧ S.length = 128 ∧ Upto 1 S ∧ val D = val S * c + r ∧ 0 ≤ r ∧ r < c ∧ Below w.heap.size w w' := by
  obtain ⟨i0, hi, hz0, hz1, hz2⟩ := info_parts Try.info3
  go_enter Try.func34, Try.ntmps34
  go_wp2
  go_loopw [6, 7] (fun v i wr => ∃ k : Nat, k ≤ 128 ∧ i = .int .i64 (k : Int) ∧ Row 3 w.heap.size wr v (List.replicate k 0) ∧ Below w.heap.size w wr) (fun _ i _ => 128 - (intOf i).toNat)
  case atStart => exact ⟨0, by omega, rfl, Row.nil _ _ _, Below.refl _ _⟩
  case round =>
    obtain ⟨k, hk, rfl, hown, hnx⟩ := hrel
    by_cases hlt : (k : Int) < 128
    · have hsz := hnx.size
      have hl : (List.replicate k (0 : Int)).length < 1099511627776 := by rw [List.length_replicate]; omega
      go_wp2_with (at_builtin; refine wpList_push rfl (.tmp 16) (.tmp 17) 22 rfl 3 i0 Try.underlying22 hi hz0 hz1 hz2 w.heap.size w.heap.size w _ _ _ rfl hown hnx (Nat.le_refl _) hsz rfl hl ?_; intro v' w1 hown' hnx' hsz')
      go_roundw
      case rel =>
        refine ⟨k + 1, by omega, by go_num, ?_, hnx'⟩
        rw [List.replicate_succ']; exact hown'
      case measure => simp [intOf]; omega
    · obtain rfl : k = 128 := by omega
      obtain ⟨g, cap, hv, hg, hgl, hcap, hcm, -, -⟩ := hown.arr (by simp)
      rw [List.length_replicate] at hv hcap
      rw [hv] at hown ⊢
      go_wp2
      go_loopw [8, 9] (fun rr kk wr => ∃ (t : Nat) (r : Int) (S : List Int), t ≤ 128 ∧ rr = .int .u64 r ∧ kk = .int .i64 ((t : Int) - 1) ∧ 0 ≤ r ∧ r < c ∧ Row 3 w.heap.size wr (.slice (some ⟨g, 0, none⟩) 128 cap) S ∧ S.length = 128 ∧ Upto 1 S ∧ (∀ i, i < t → S.getD i 0 = 0) ∧ val (D.drop t) = val (S.drop t) * c + r ∧ Below w.heap.size w wr) (fun _ kk _ => (intOf kk + 1).toNat)
      case atStart => exact ⟨128, 0, List.replicate 128 0, by omega, rfl, rfl, by omega, by omega, hown, by simp, (upto_zero 128).mono (by omega), fun i _ => Over.zeros i, Over.start D c lD, hnx⟩
      case round =>
        clear hown hnx
        obtain ⟨t, r, S, ht, rfl, rfl, r0, r1, hown, hS, uS, zS, vS, hnx⟩ := hrel
        by_cases htl : 0 < t
        · obtain ⟨k, rfl⟩ : ∃ k, t = k + 1 := ⟨t - 1, by omega⟩
          have tt : (0 : Int) ≤ ((k + 1 : Nat) : Int) - 1 := by omega
          have ek : ((k + 1 : Nat) : Int) - 1 = (k : Int) := by omega
          rw [ek]
          have cx := (hnx.cell (p := ⟨gd, od + k, none⟩) hgd).trans (hd k (by omega))
          have bx := uD k
          obtain ⟨y1, y2, y3, y4⟩ := Over.yes (by omega) lD hS uS zS vS
          have y5 := Over.no (by omega) lD hS zS vS
          obtain ⟨_, _, hv2, _, hgl, _, _, hcell, hfr⟩ := hown.arr (by omega)
          simp only [Value.slice.injEq, Option.some.injEq, Addr.mk.injEq, and_true] at hv2
          obtain ⟨rfl, -, rfl⟩ := hv2
          have cz := hcell k (by omega)
          have fz := hfr k
          have st := hown.stored hS k 1
          generalize D.getD k 0 = x at *
          have HZ : Hid (∀ i, i < k → S.getD i 0 = 0) := fun i hi => zS i (by omega)
          generalize S.getD k 0 = z at *
          obtain ⟨bx0, bx1⟩ := bx
          have HS : Hid (Row 3 w.heap.size (wr.setCell ⟨g, k, none⟩ (.int .i64 1)) (.slice (some ⟨g, 0, none⟩) 128 cap) (S.set k 1)) := st
          have H3 : Hid (∀ i, i < k → (S.set k 1).getD i 0 = 0) := y3
          have H4 : Hid (val (D.drop k) = val ((S.set k 1).drop k) * c + (2 * r + x - c)) := y4
          have H5 : Hid (val (D.drop k) = val (S.drop k) * c + (2 * r + x)) := y5
          clear st y3 y4 y5 vS zS hcell hfr ek tt
          by_cases hge : c ≤ 2 * r + x
          · go_wp2
            go_roundw
            case rel => exact ⟨k, 2 * r + x - c, _, by omega, by go_num, by go_num, by omega, by omega, HS.out, y1, y2, H3.out, H4.out, hnx.setCell (p := ⟨g, k, none⟩) hg _⟩
            case measure => simp [intOf]
          · go_wp2
            go_roundw
            case rel => exact ⟨k, 2 * r + x, S, by omega, by go_num, by go_num, by omega, by omega, hown, hS, uS, HZ.out, H5.out, hnx⟩
            case measure => simp [intOf]
        · obtain rfl : t = 0 := by omega
          rw [List.drop_zero, List.drop_zero] at vS
          go_wp2
          go_ret2
          exact ⟨_, r, rfl, S, hown, hS, uS, vS, r0, r1, hnx⟩

namespace More
theorem step {D E : List Int} {k : Nat} {c : Int} (hk : k < D.length) (lE : E.length = k) (v : val E + c * 2 ^ k = val (D.take k) + 1) :
    val (E ++ [(D.getD k 0 + c) % 2]) + (D.getD k 0 + c) / 2 * 2 ^ (k + 1) = val (D.take (k + 1)) + 1 := by
  rw [val_push, val_take_succ D k hk, lE, Int.pow_succ]
  generalize D.getD k 0 = z at *
  generalize (2 : Int) ^ k = P at *
  have e : (z + c) % 2 = z + c - 2 * ((z + c) / 2) := by omega
  rw [e]
  generalize (z + c) / 2 = h at *
  have e2 : P * (z + c - 2 * h) = P * z + c * P - h * (P * 2) := by
    rw [Int.mul_sub, Int.mul_add, Int.mul_comm P c, Int.mul_left_comm P 2 h, ← Int.mul_assoc h P 2, Int.mul_comm h P, Int.mul_comm (P * h) 2]
  rw [e2]
  omega
theorem done {D E : List Int} {c : Int} (lD : D.length = 128) (uE : Upto 1 E) (c0 : 0 ≤ c) (v : val E + c * 2 ^ 128 = val (D.take 128) + 1) (top : val D + 1 < 2 ^ 128) : val E = val D + 1 := by
  rw [List.take_of_length_le (by omega)] at v
  have := val_nonneg uE
  have : c = 0 := by omega
  subst this
  omega
end More

set_option maxHeartbeats 2000000 in
theorem more_any (D : List Int) (gd od capd : Nat) (w : World) (lD : D.length = 128) (uD : Upto 1 D) (hgd : gd < w.heap.size) (top : val D + 1 < 2 ^ 128)
    (hd : ∀ i, i < 128 → w.cell? ⟨gd, od + i, none⟩ = some (.int .i64 (D.getD i 0))) :
    Calls Try.prog 37 #[.slice (some ⟨gd, od, none⟩) 128 capd] w fun e w' =>
      ∃ v, e = .returned v ∧ ∃ S, Row 3 w.heap.size w' v S ∧ S.length = 128 ∧ Upto 1 S ∧ val S = val D + 1 ∧ Below w.heap.size w w' := by
  obtain ⟨i0, hi, hz0, hz1, hz2⟩ := info_parts Try.info3
  have HT : Hid (val D + 1 < 2 ^ 128) := top
  clear top
  go_enter Try.func37, Try.ntmps37
  go_wp2
  go_loopw [3, 4, 5, 6] (fun v cc i _ wr => ∃ (k : Nat) (c : Int) (E : List Int), k ≤ 128 ∧ cc = .int .i64 c ∧ i = .int .i64 (k : Int) ∧ 0 ≤ c ∧ c ≤ 1 ∧ Row 3 w.heap.size wr v E ∧ E.length = k ∧ Upto 1 E ∧ val E + c * 2 ^ k = val (D.take k) + 1 ∧ Below w.heap.size w wr) (fun _ _ i _ _ => 128 - (intOf i).toNat)
  case atStart => exact ⟨0, 1, [], by omega, rfl, rfl, by omega, by omega, Row.nil _ _ _, rfl, Upto.nil (by omega), by simp [val], Below.refl _ _⟩
  case round =>
    obtain ⟨k, c, E, hk, rfl, rfl, c0, c1, hown, lE, uE, vE, hnx⟩ := hrel
    by_cases hlt : (k : Int) < 128
    · have hsz := hnx.size
      have hl : E.length < 1099511627776 := by omega
      have cx := (hnx.cell (p := ⟨gd, od + k, none⟩) hgd).trans (hd k (by omega))
      have bx := uD k
      have st := More.step (by omega) lE vE
      generalize D.getD k 0 = x at *
      obtain ⟨bx0, bx1⟩ := bx
      have H3 : Hid (val (E ++ [(x + c) % 2]) + (x + c) / 2 * 2 ^ (k + 1) = val (D.take (k + 1)) + 1) := st
      have H4 : Hid (E.length = k) := lE
      clear st vE lE
      go_wp2_with (at_builtin; refine wpList_push rfl (.tmp 19) (.tmp 22) 22 rfl 3 i0 Try.underlying22 hi hz0 hz1 hz2 w.heap.size w.heap.size w _ _ _ rfl hown hnx (Nat.le_refl _) hsz rfl hl ?_; intro v' w1 hown' hnx' hsz')
      go_roundw
      case rel => exact ⟨k + 1, (x + c) / 2, _, by omega, by go_num, by go_num, by omega, by omega, hown', by simp [H4.out], uE.push (by omega) (by omega), H3.out, hnx'⟩
      case measure => simp [intOf]; omega
    · obtain rfl : k = 128 := by omega
      have d := More.done lD uE c0 vE HT.out
      go_wp2
      go_ret
      exact ⟨_, rfl, E, hown, lE, uE, d, hnx⟩

end Go.Proofs.Ytcjmjbhbdojeiab
