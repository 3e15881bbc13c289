/-
  Ours: the contract of arrearsref1.times.
-/
import Derived.Test.YtcjmjbhbdojeiabDigits
import Derived.Test.YtcjmjbhbdojeiabBin
import Derived.Laws.OwnMore
import Derived.RegionTactic
import Derived.BigRegion
namespace Go.Proofs.Ytcjmjbhbdojeiab
open Go.RowKit

theorem Row.stored {e : TypeId} {base : Nat} {w : World} {g n cap : Nat} {xs : List Int} (h : Row e base w (.slice (some ⟨g, 0, none⟩) n cap) xs) (hn : xs.length = n) (j : Nat) (u : Int) :
    Row e base (w.setCell ⟨g, j, none⟩ (.int .i64 u)) (.slice (some ⟨g, 0, none⟩) n cap) (xs.set j u) := by
  subst hn
  have := (World.ownsRow.stored h j (.int .i64 u)).1
  unfold Row
  rw [List.length_set, List.map_set]
  exact this

namespace Times
theorem start (a b : List Int) : val (List.replicate 128 0) = val (a.take 0) * val b := by
  rw [val_zero, List.take_zero, val, Int.zero_mul]
theorem bit {a : List Int} (ua : Upto 1 a) {b : List Int} (ub : Upto 1 b) (p q : Nat) : 0 ≤ a.getD p 0 * b.getD q 0 ∧ a.getD p 0 * b.getD q 0 ≤ 1 := by
  have h1 := ua p
  have h2 := ub q
  generalize a.getD p 0 = x at *
  generalize b.getD q 0 = y at *
  have : x = 0 ∨ x = 1 := by omega
  rcases this with rfl | rfl
  · simp
  · simpa using h2
theorem step {a b S : List Int} {p q : Nat} (hp : p < 64) (hq : q < 64) (lb : b.length = 64) (lS : S.length = 128) (ua : Upto 1 a) (ub : Upto 1 b) (uS : Upto (64 * (p : Int) + q) S)
    (vS : val S = val (a.take p) * val b + a.getD p 0 * 2 ^ p * val (b.take q)) :
    (S.set (p + q) (S.getD (p + q) 0 + a.getD p 0 * b.getD q 0)).length = 128 ∧ Upto (64 * (p : Int) + (q + 1 : Nat)) (S.set (p + q) (S.getD (p + q) 0 + a.getD p 0 * b.getD q 0)) ∧
    val (S.set (p + q) (S.getD (p + q) 0 + a.getD p 0 * b.getD q 0)) = val (a.take p) * val b + a.getD p 0 * 2 ^ p * val (b.take (q + 1)) := by
  have hx := bit ua ub p q
  have hz := uS (p + q)
  refine ⟨by simp [lS], (uS.mono (by omega)).set _ (by omega) (by omega), ?_⟩
  rw [val_set _ _ _ (by omega), val_take_succ b q (by omega), vS, Int.pow_add]
  generalize a.getD p 0 = x at *
  generalize b.getD q 0 = y at *
  generalize S.getD (p + q) 0 = z at *
  have e1 : z + x * y - z = x * y := by omega
  have e2 : (2 : Int) ^ p * 2 ^ q * (x * y) = x * 2 ^ p * (2 ^ q * y) := by
    rw [Int.mul_comm x (2 ^ p), Int.mul_assoc, Int.mul_assoc, Int.mul_left_comm (2 ^ q) x y]
  rw [e1, e2, Int.mul_add]
  omega
theorem next {a b S : List Int} {p : Nat} (hp : p < 64) (la : a.length = 64) (lb : b.length = 64) (vS : val S = val (a.take p) * val b + a.getD p 0 * 2 ^ p * val (b.take 64)) :
    val S = val (a.take (p + 1)) * val b := by
  rw [vS, val_take_succ a p (by omega), Int.add_mul, Int.mul_comm (a.getD p 0), List.take_of_length_le (by omega : b.length ≤ 64)]
theorem zero (a b S : List Int) (p : Nat) (vS : val S = val (a.take p) * val b) : val S = val (a.take p) * val b + a.getD p 0 * 2 ^ p * val (b.take 0) := by
  rw [vS, List.take_zero, val, Int.mul_zero, Int.add_zero]
theorem carry {S : List Int} {k : Nat} {c T : Int} (hk : k < 128) (lS : S.length = 128) (uS : Upto 4096 S) (dS : ∀ i, i < k → S.getD i 0 ≤ 1) (_c0 : 0 ≤ c) (_c1 : c ≤ 4096) (vS : val S + c * 2 ^ k = T) :
    (S.set k ((S.getD k 0 + c) % 2)).length = 128 ∧ Upto 4096 (S.set k ((S.getD k 0 + c) % 2)) ∧ (∀ i, i < k + 1 → (S.set k ((S.getD k 0 + c) % 2)).getD i 0 ≤ 1) ∧ val (S.set k ((S.getD k 0 + c) % 2)) + ((S.getD k 0 + c) / 2) * 2 ^ (k + 1) = T := by
  have hz := uS k
  refine ⟨by simp [lS], uS.set _ (by omega) (by omega), ?_, ?_⟩
  · intro i hi
    by_cases e : i = k
    · subst e
      simp only [List.getD_eq_getElem?_getD, List.getElem?_set]
      rw [if_pos trivial, if_pos (by omega)]
      simp; omega
    · have := dS i (by omega)
      simp only [List.getD_eq_getElem?_getD, List.getElem?_set] at *
      rw [if_neg (by omega)]
      exact this
  · rw [val_set _ _ _ (by omega), Int.pow_succ, ← vS]
    generalize S.getD k 0 = z at *
    generalize (2 : Int) ^ k = P at *
    have e : (z + c) % 2 = z + c - 2 * ((z + c) / 2) := by omega
    rw [e]
    generalize (z + c) / 2 = h at *
    have e2 : P * (z + c - 2 * h - z) = c * P - h * (P * 2) := by
      rw [show z + c - 2 * h - z = c - 2 * h from by omega, Int.mul_sub, Int.mul_comm P c, ← Int.mul_assoc h, Int.mul_left_comm P 2 h, Int.mul_comm h P, Int.mul_comm (P * h) 2]
    rw [e2]
    omega
theorem done {a b S : List Int} {c : Int} (la : a.length = 64) (lb : b.length = 64) (ua : Upto 1 a) (ub : Upto 1 b) (lS : S.length = 128) (uS : Upto 4096 S) (dS : ∀ i, i < 128 → S.getD i 0 ≤ 1) (c0 : 0 ≤ c) (vS : val S + c * 2 ^ 128 = val a * val b) :
    Upto 1 S ∧ val S = val a * val b := by
  have u1 : Upto 1 S := fun i => by
    refine ⟨(uS i).1, ?_⟩
    by_cases h : i < 128
    · exact dS i h
    · simp [List.getD_eq_getElem?_getD, List.getElem?_eq_none (by omega : S.length ≤ i)]
  refine ⟨u1, ?_⟩
  have n0 := val_nonneg u1
  have a0 := val_nonneg ua
  have a1 := val_lt ua
  have b0 := val_nonneg ub
  have b1 := val_lt ub
  rw [la] at a1
  rw [lb] at b1
  have h : val a * val b < 2 ^ 64 * 2 ^ 64 := by
    have h1 : val a * val b ≤ 2 ^ 64 * val b := Int.mul_le_mul_of_nonneg_right (Int.le_of_lt a1) b0
    have h2 : (2 : Int) ^ 64 * val b < 2 ^ 64 * 2 ^ 64 := Int.mul_lt_mul_of_pos_left b1 (by decide)
    exact Int.lt_of_le_of_lt h1 h2
  generalize val a * val b = T at *
  have : c = 0 := by omega
  subst this
  omega
end Times

set_option maxHeartbeats 2000000 in
theorem times_any (a b : List Int) (ga oa capa gb ob capb : Nat) (w : World) (la : a.length = 64) (lb : b.length = 64) (ua : Upto 1 a) (ub : Upto 1 b)
    (hga : ga < w.heap.size) (hgb : gb < w.heap.size) (_hca : 64 ≤ capa) (_hcb : 64 ≤ capb)
    (ha : ∀ i, i < 64 → w.cell? ⟨ga, oa + i, none⟩ = some (.int .i64 (a.getD i 0))) (hb : ∀ i, i < 64 → w.cell? ⟨gb, ob + i, none⟩ = some (.int .i64 (b.getD i 0))) :
    Calls Try.prog 35 #[.slice (some ⟨ga, oa, none⟩) 64 capa, .slice (some ⟨gb, ob, none⟩) 64 capb] w fun e w' =>
      ∃ v, e = .returned v ∧ ∃ S, Row 3 w.heap.size w' v S ∧ S.length = 128 ∧ Upto 1 S ∧ val S = val a * val b ∧ Below w.heap.size w w' := by
  obtain ⟨i0, hi, hz0, hz1, hz2⟩ := info_parts Try.info3
  go_enter Try.func35, Try.ntmps35
  go_wp2
  go_loopw [5, 6] (fun v i wr => ∃ k : Nat, k ≤ 128 ∧ i = .int .i64 (k : Int) ∧ Row 3 w.heap.size wr v (List.replicate k 0) ∧ Below w.heap.size w wr) (fun _ i _ => 128 - (intOf i).toNat)
  case atStart => exact ⟨0, by omega, rfl, Row.nil _ _ _, Below.refl _ _⟩
  case round =>
    obtain ⟨k, hk, rfl, hown, hnx⟩ := hrel
    by_cases hlt : (k : Int) < 128
    · have hsz := hnx.size
      have hl : (List.replicate k (0 : Int)).length < 1099511627776 := by rw [List.length_replicate]; omega
      go_wp2_with (at_builtin; refine wpList_push rfl (.tmp 16) (.tmp 17) 22 rfl 3 i0 Try.underlying22 hi hz0 hz1 hz2 w.heap.size w.heap.size w _ _ _ rfl hown hnx (Nat.le_refl _) hsz rfl hl ?_; intro v' w1 hown' hnx' hsz')
      go_roundw
      case rel =>
        refine ⟨k + 1, by omega, by go_num, ?_, hnx'⟩
        rw [List.replicate_succ']; exact hown'
      case measure => simp [intOf]; omega
    · obtain rfl : k = 128 := by omega
      obtain ⟨g, cap, hv, hg, hgl, hcap, hcm, -, -⟩ := hown.arr (by simp)
      rw [List.length_replicate] at hv hcap
      rw [hv] at hown ⊢
      go_wp2
      go_loopw [7, 8] (fun i j wr => ∃ (p : Nat) (S : List Int), p ≤ 64 ∧ i = .int .i64 (p : Int) ∧ Row 3 w.heap.size wr (.slice (some ⟨g, 0, none⟩) 128 cap) S ∧ S.length = 128 ∧ Upto (64 * (p : Int)) S ∧ val S = val (a.take p) * val b ∧ Below w.heap.size w wr) (fun i _ _ => 64 - (intOf i).toNat)
      case atStart => exact ⟨0, _, by omega, rfl, hown, by simp, by simpa using upto_zero 128, Times.start a b, hnx⟩
      case round =>
        clear hown hnx
        obtain ⟨p, S, hp, rfl, hown, hS, uS, vS, hnx⟩ := hrel
        by_cases hpl : (p : Int) < 64
        · go_wp2
          go_loopw [8] (fun j wr => ∃ (q : Nat) (S : List Int), q ≤ 64 ∧ j = .int .i64 (q : Int) ∧ Row 3 w.heap.size wr (.slice (some ⟨g, 0, none⟩) 128 cap) S ∧ S.length = 128 ∧ Upto (64 * (p : Int) + (q : Int)) S ∧ val S = val (a.take p) * val b + a.getD p 0 * 2 ^ p * val (b.take q) ∧ Below w.heap.size w wr) (fun j _ => 64 - (intOf j).toNat)
          case atStart => exact ⟨0, S, by omega, rfl, hown, hS, by simpa using uS, Times.zero a b S p vS, hnx⟩
          case round =>
            clear hown hnx hS uS vS
            clear S
            obtain ⟨q, S, hq, rfl, hown, hS, uS, vS, hnx⟩ := hrel
            by_cases hql : (q : Int) < 64
            · have cx := (hnx.cell (p := ⟨ga, oa + p, none⟩) hga).trans (ha p (by omega))
              have cy := (hnx.cell (p := ⟨gb, ob + q, none⟩) hgb).trans (hb q (by omega))
              have bx := ua p
              have by' := ub q
              have bt := Times.bit ua ub p q
              have bz := uS (p + q)
              obtain ⟨n1, n2, n3⟩ := Times.step (by omega) (by omega) lb hS ua ub uS vS
              obtain ⟨_, _, hv2, _, hgl, _, _, hcell, hfr⟩ := hown.arr (by omega)
              simp only [Value.slice.injEq, Option.some.injEq, Addr.mk.injEq, and_true] at hv2
              obtain ⟨rfl, -, rfl⟩ := hv2
              have cz := hcell (p + q) (by omega)
              have fz := hfr (p + q)
              have st := hown.stored hS (p + q) (S.getD (p + q) 0 + a.getD p 0 * b.getD q 0)
              clear hcell hfr uS vS ha hb
              generalize a.getD p 0 = x at *
              generalize b.getD q 0 = y at *
              generalize S.getD (p + q) 0 = z at *
              obtain ⟨bx0, bx1⟩ := bx
              obtain ⟨by0, by1⟩ := by'
              obtain ⟨bt0, bt1⟩ := bt
              obtain ⟨bz0, bz1⟩ := bz
              have p0 : (p : Int) + (q : Int) < 128 := by omega
              have HS : Hid (Row 3 w.heap.size (wr.setCell ⟨g, p + q, none⟩ (.int .i64 (z + x * y))) (.slice (some ⟨g, 0, none⟩) 128 cap) (S.set (p + q) (z + x * y))) := st
              have H3 : Hid (val (S.set (p + q) (z + x * y)) = val (a.take p) * val b + x * 2 ^ p * val (b.take (q + 1))) := n3
              clear st n3
              go_wp2
              go_region
              go_wp2
              go_roundw
              case rel => exact ⟨q + 1, _, by omega, by go_num, HS.out, n1, n2, H3.out, (hnx.setCell (p := ⟨g, p + q, none⟩) hg _).drew⟩
              case measure => simp [intOf]; omega
            · obtain rfl : q = 64 := by omega
              go_wp2
              go_roundw
              case rel => exact ⟨p + 1, S, by omega, by go_num, hown, hS, uS.mono (by omega), Times.next (by omega) la lb vS, hnx⟩
              case measure => simp [intOf]; omega
        · obtain rfl : p = 64 := by omega
          have vS' : val S = val a * val b := by rw [vS, List.take_of_length_le (by omega)]
          clear vS
          go_wp2
          go_loopw [9, 10, 11] (fun cc kk _ wr => ∃ (k : Nat) (c : Int) (S : List Int), k ≤ 128 ∧ cc = .int .i64 c ∧ kk = .int .i64 (k : Int) ∧ 0 ≤ c ∧ c ≤ 4096 ∧ Row 3 w.heap.size wr (.slice (some ⟨g, 0, none⟩) 128 cap) S ∧ S.length = 128 ∧ Upto 4096 S ∧ (∀ i, i < k → S.getD i 0 ≤ 1) ∧ val S + c * 2 ^ k = val a * val b ∧ Below w.heap.size w wr) (fun _ kk _ _ => 128 - (intOf kk).toNat)
          case atStart => exact ⟨0, 0, S, by omega, rfl, rfl, by omega, by omega, hown, hS, uS.mono (by omega), fun i hi => by omega, by rw [vS', Int.zero_mul, Int.add_zero], hnx⟩
          case round =>
            clear hown hnx hS uS vS'
            clear S
            obtain ⟨k, c, S, hk, rfl, rfl, c0, c1, hown, hS, uS, dS, vS, hnx⟩ := hrel
            by_cases hkl : (k : Int) < 128
            · obtain ⟨n1, n2, n3, n4⟩ := Times.carry (by omega) hS uS dS c0 c1 vS
              obtain ⟨_, _, hv2, _, hgl, _, _, hcell, hfr⟩ := hown.arr (by omega)
              simp only [Value.slice.injEq, Option.some.injEq, Addr.mk.injEq, and_true] at hv2
              obtain ⟨rfl, -, rfl⟩ := hv2
              have cz := hcell k (by omega)
              have fz := hfr k
              have bz := uS k
              have st := hown.stored hS k ((S.getD k 0 + c) % 2)
              clear hcell hfr uS vS ha hb dS
              generalize S.getD k 0 = z at *
              obtain ⟨bz0, bz1⟩ := bz
              have HS : Hid (Row 3 w.heap.size (wr.setCell ⟨g, k, none⟩ (.int .i64 ((z + c) % 2))) (.slice (some ⟨g, 0, none⟩) 128 cap) (S.set k ((z + c) % 2))) := st
              have H3 : Hid (∀ i, i < k + 1 → (S.set k ((z + c) % 2)).getD i 0 ≤ 1) := n3
              have H4 : Hid (val (S.set k ((z + c) % 2)) + (z + c) / 2 * 2 ^ (k + 1) = val a * val b) := n4
              clear st n3 n4
              go_wp2
              go_roundw
              case rel => exact ⟨k + 1, (z + c) / 2, _, by omega, by go_num, by go_num, by omega, by omega, HS.out, n1, n2, H3.out, H4.out, hnx.setCell (p := ⟨g, k, none⟩) hg _⟩
              case measure => simp [intOf]; omega
            · obtain rfl : k = 128 := by omega
              obtain ⟨d1, d2⟩ := Times.done la lb ua ub hS uS dS c0 vS
              go_wp2
              go_ret
              exact ⟨_, rfl, S, hown, hS, d1, d2, hnx⟩

end Go.Proofs.Ytcjmjbhbdojeiab
