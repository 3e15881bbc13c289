/-
  Ours: slices.swapRangeCmpFunc, slices.rotateCmpFunc walked.
-/
import Derived.Test.YtfdahdloihgjeacDoorSortGo
import Derived.Test.YtfdahdloihgjeacDoorStable2
namespace Go.Proofs.YtfdahdloihgjeacDoor
open Go.RowKit Stable

set_option maxHeartbeats 2000000 in
theorem swapRange_any {g n cap0 a b c : Nat} {f : Nat → Nat} {w : World} (cl : Value) (hC : Cells g n w f) (hab : a + c ≤ b) (hbn : b + c ≤ n) (hn : n ≤ 1048576) :
    Calls Tryd.prog 97 #[.slice (some ⟨g, 0, none⟩) n cap0, .int .i64 (a : Int), .int .i64 (b : Int), .int .i64 (c : Int), cl] w fun e w' =>
      e = .returned (.tuple #[]) ∧ Only g w w' ∧ Cells g n w' (swapR f a b c) := by
  go_enter Tryd.func97, Tryd.ntmps97
  go_wp2
  go_loopw [10] (fun i wr => ∃ k : Nat, i = .int .i64 (k : Int) ∧ k ≤ c ∧ Only g w wr ∧ Cells g n wr (swapR f a b k)) (fun i _ => c - (intOf i).toNat)
  case atStart => exact ⟨0, rfl, by omega, Only.refl _ _, hC.congr (swapR_zero f a b).symm⟩
  case round =>
    obtain ⟨k, rfl, hk, hO, hCk⟩ := hrel
    by_cases hlt : (k : Int) < (c : Int)
    · have c1 := hCk.cell (i := a + k) (by omega)
      have c2 := hCk.cell (i := b + k) (by omega)
      have f1 := hCk.frozen (a + k)
      have f2 := hCk.frozen (b + k)
      have HC : Hid (Cells g n ((wr.setCell ⟨g, a + k, none⟩ (.int .i64 (swapR f a b k (b + k) : Int))).setCell ⟨g, b + k, none⟩ (.int .i64 (swapR f a b k (a + k) : Int))) (swapR f a b (k + 1))) :=
        ((hCk.set (i := a + k) (by omega) (swapR f a b k (b + k))).set (i := b + k) (by omega) (swapR f a b k (a + k))).congr ((swap_eq _ _ _).trans (swapR_succ f a b k (by omega)))
      have HO : Hid (∀ v v' : Value, Only g w ((wr.setCell ⟨g, a + k, none⟩ v).setCell ⟨g, b + k, none⟩ v')) := fun v v' => (hO.setCell _).setCell _
      generalize swapR f a b k (a + k) = x at *
      generalize swapR f a b k (b + k) = y at *
      have i1 : (a : Int) + (k : Int) < (n : Int) := by omega
      have i2 : (b : Int) + (k : Int) < (n : Int) := by omega
      clear hCk hO hC
      go_wp2
      go_region
      go_wp2
      go_roundw
      case rel => exact ⟨k + 1, by go_num, by omega, (HO.out _ _).drew, HC.out⟩
      case measure => simp [intOf]; omega
    · obtain rfl : k = c := by omega
      go_wp2
      go_end0
      exact ⟨rfl, hO, hCk⟩

theorem swapRange_at {g n cap0 a b c : Nat} {f : Nat → Nat} {w : World} (A B C : Int) (cl : Value) (hC : Cells g n w f) (hA : A = (a : Int)) (hB : B = (b : Int)) (hCc : C = (c : Int)) (hab : a + c ≤ b) (hbn : b + c ≤ n) (hn : n ≤ 1048576) :
    Calls Tryd.prog 97 #[.slice (some ⟨g, 0, none⟩) n cap0, .int .i64 A, .int .i64 B, .int .i64 C, cl] w fun e w' =>
      e = .returned (.tuple #[]) ∧ Only g w w' ∧ Cells g n w' (swapR f a b c) := by
  subst hA hB hCc; exact swapRange_any cl hC hab hbn hn

set_option maxHeartbeats 2000000 in
theorem rotate_any {g n cap0 a m b : Nat} {f : Nat → Nat} {w : World} (bx : Nat) (hC : Cells g n w f) (ham : a < m) (hmb : m < b) (hbn : b ≤ n) (hn : n ≤ 1048576) :
    Calls Tryd.prog 93 #[.slice (some ⟨g, 0, none⟩) n cap0, .int .i64 (a : Int), .int .i64 (m : Int), .int .i64 (b : Int), clo bx] w fun e w' =>
      e = .returned (.tuple #[]) ∧ Only g w w' ∧ Cells g n w' (rot f a m b) := by
  unfold clo
  go_enter Tryd.func93, Tryd.ntmps93
  go_wp2
  go_loopw [10, 11] (fun i j wr => ∃ (p q : Nat) (fc : Nat → Nat), i = .int .i64 (p : Int) ∧ j = .int .i64 (q : Int) ∧ 0 < p ∧ p ≤ m - a ∧ 0 < q ∧ q ≤ b - m ∧ Only g w wr ∧ Cells g n wr fc ∧ rot fc (m - p) m (m + q) = rot f a m b) (fun i j _ => (intOf i).toNat + (intOf j).toNat)
  case atStart =>
    refine ⟨m - a, b - m, f, by go_num, by go_num, by omega, by omega, by omega, by omega, Only.refl _ _, hC, ?_⟩
    rw [show m - (m - a) = a from by omega, show m + (b - m) = b from by omega]
  case round =>
    obtain ⟨p, q, fc, rfl, rfl, p0, p1, q0, q1, hO, hCc, he⟩ := hrel
    have HE : Hid (rot fc (m - p) m (m + q) = rot f a m b) := he
    have HC : Hid (Cells g n wr fc) := hCc
    have HO : Hid (Only g w wr) := hO
    clear he hCc hO hC
    by_cases hne : p = q
    · subst hne
      have e0 : ((p : Int) != (p : Int)) = false := by simp
      go_wp2_with fail
      refine (swapRange_at (a := m - p) (b := m) (c := p) _ _ _ _ HC.out (by omega) (by omega) (by omega) (by omega) (by omega) hn).mono ?_
      rintro e w1 ⟨rfl, o1, c1⟩
      have o2 := HO.out.trans o1
      have c2 := c1.congr ((rot_even fc m p (by omega) p0).trans HE.out)
      clear HE HC HO o1 c1
      go_wp2_with fail
      go_end0
      exact ⟨rfl, o2, c2⟩
    · have e0 : ((p : Int) != (q : Int)) = true := by rw [bne_iff_ne]; omega
      by_cases hgt : (q : Int) < (p : Int)
      · go_wp2_with fail
        refine (swapRange_at (a := m - p) (b := m) (c := q) _ _ _ _ HC.out (by omega) (by omega) (by omega) (by omega) (by omega) hn).mono ?_
        rintro e w1 ⟨rfl, o1, c1⟩
        have o2 : Hid (Only g w w1) := HO.out.trans o1
        have c2 : Hid (Cells g n w1 (swapR fc (m - p) m q)) := c1
        have HE2 : Hid (rot (swapR fc (m - p) m q) (m - (p - q)) m (m + q) = rot f a m b) := (rot_left fc m p q (by omega) (by omega) q0).trans HE.out
        clear HE HC HO o1 c1
        go_wp2_with fail
        go_roundw
        case rel => exact ⟨p - q, q, _, by go_num, rfl, by omega, by omega, q0, q1, o2.out, c2.out, HE2.out⟩
        case measure => simp [intOf]; omega
      · go_wp2_with fail
        refine (swapRange_at (a := m - p) (b := m + q - p) (c := p) _ _ _ _ HC.out (by omega) (by omega) (by omega) (by omega) (by omega) hn).mono ?_
        rintro e w1 ⟨rfl, o1, c1⟩
        have o2 : Hid (Only g w w1) := HO.out.trans o1
        have c2 : Hid (Cells g n w1 (swapR fc (m - p) (m + q - p) p)) := c1
        have HE2 : Hid (rot (swapR fc (m - p) (m + q - p) p) (m - p) m (m + (q - p)) = rot f a m b) := (rot_right fc m p q (by omega) (by omega) p0).trans HE.out
        clear HE HC HO o1 c1
        go_wp2_with fail
        go_roundw
        case rel => exact ⟨p, q - p, _, rfl, by go_num, p0, p1, by omega, by omega, o2.out, c2.out, HE2.out⟩
        case measure => simp [intOf]; omega

end Go.Proofs.YtfdahdloihgjeacDoor
