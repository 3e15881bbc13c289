/-
  Ours: the contract of the reference's Plan.
-/
import Derived.Test.YtgdmkcbbomfmdaaGreatDoorIntRefP
import Derived.Test.YtgdmkcbbomfmdaaGreatDoorIntPlan
namespace Go.Proofs.YtgdmkcbbomfmdaaGreatDoor
open Go.RowKit IntM

set_option maxHeartbeats 2000000 in
theorem refPays_at (b r p : Int) (n : Nat) (b0 : 0 ≤ b) (b1 : b ≤ 9223372036854775807) (r0 : 0 ≤ r) (r1 : r ≤ 100000) (p0 : 0 ≤ p) (p1 : p ≤ 9223372036854775807) (n1 : n ≤ 120) (w : World) :
    Calls Tryz.prog 51 #[.int .i64 p, .int .i64 b, .int .i64 r, .int .i64 (n : Int)] w fun e w' => e = .returned (.bool (pays r p n b)) ∧ w' = w := by
  go_enter Tryz.func51, Tryz.ntmps51
  go_wp2_with fail
  go_loopw [1, 9] (fun vb vk wr => wr = w ∧ ∃ (k : Nat) (b' : Int), vb = .int .i64 b' ∧ vk = .int .i64 (k : Int) ∧ k ≤ n ∧ 0 ≤ b' ∧ b' ≤ 9223372036854775807 ∧ Hid (pays r p n b = pays r p (n - k) b')) (fun _ vk _ => n - (intOf vk).toNat)
  case atStart => exact ⟨rfl, 0, b, rfl, rfl, by omega, b0, b1, rfl⟩
  case round =>
    obtain ⟨rfl, k, b', rfl, rfl, hk, c0, c1, hP⟩ := hrel
    by_cases hlt : (k : Int) < (n : Int)
    · obtain ⟨j, hj⟩ : ∃ j, n - k = j + 1 := ⟨n - k - 1, by omega⟩
      have hP' := hP.out
      rw [hj] at hP'
      clear hP
      have m0 := mon_nonneg c0 r0
      have m1 := mon_le c0 r1
      have hN := pays_never (r := r) (p := p) (b := b') j
      have hD := pays_done (r := r) (p := p) (b := b') j
      have hO := pays_on (r := r) (p := p) (b := b') j
      have MM : Hid (∀ w, Calls Tryz.prog 37 #[.int .i64 b', .int .i64 r] w fun e w' => e = .returned (.int .i64 (mon b' r)) ∧ w' = w) := fun w => refmonth_at b' r c0 c1 r0 r1 w
      generalize mon b' r = i at *
      by_cases h1 : p - i ≤ 0
      · have hv := hP'.trans (hN h1)
        clear hN hD hO hP'
        have h1' : p ≤ i := by omega
        go_wp2_with fail
        refine (MM.out _).mono ?_
        rintro e w1 ⟨rfl, hw⟩; rw [hw]; clear hw w1
        go_wp2_with fail
        go_ret
        exact ⟨ret_boolI hv.symm, rfl⟩
      · have h1' : i < p := by omega
        by_cases h2 : b' ≤ p - i
        · have hv := hP'.trans (hD h1 h2)
          clear hN hD hO hP'
          go_wp2_with fail
          refine (MM.out _).mono ?_
          rintro e w1 ⟨rfl, hw⟩; rw [hw]; clear hw w1
          go_wp2_with fail
          go_ret
          exact ⟨ret_boolI hv.symm, rfl⟩
        · have HH : Hid (pays r p n b = pays r p (n - (k + 1)) (b' - (p - i))) := by
            show pays r p n b = pays r p (n - (k + 1)) (b' - (p - i))
            rw [hP', hO h1 h2, show n - (k + 1) = j by omega]
          clear hN hD hO hP'
          go_wp2_with fail
          refine (MM.out _).mono ?_
          rintro e w1 ⟨rfl, hw⟩; rw [hw]; clear hw w1
          go_wp2_with fail
          go_roundw
          case rel => exact ⟨trivial, k + 1, b' - (p - i), by go_num, by go_num, by omega, by omega, by omega, HH⟩
          case measure => simp [intOf]; omega
    · obtain rfl : k = n := by omega
      have hP' := hP.out
      rw [Nat.sub_self, pays_zero] at hP'
      clear hP
      go_wp2_with fail
      go_ret
      first
        | exact ⟨ret_boolI hP'.symm, rfl⟩
        | exact ⟨rfl, rfl⟩

/-- The reference's descent: how far above the least payment it may still be. -/
def Near2 (p q s : Int) : Prop := p ≤ q ∧ q ≤ 9223372036854775807 ∧ ((s = 0 ∧ q = p) ∨ ∃ j : Nat, j ≤ 62 ∧ s = ((2 ^ j : Nat) : Int) ∧ q < p + 2 * s)
theorem near2_next {p q s : Int} (h : Near2 p q s) (hs : 0 < s) : ∃ j : Nat, 1 ≤ s ∧ s ≤ 4611686018427387904 ∧ (j = 0 ∧ s / 2 = 0 ∧ s = 1 ∨ ∃ i : Nat, j = i + 1 ∧ i ≤ 62 ∧ s / 2 = ((2 ^ i : Nat) : Int) ∧ s = 2 * ((2 ^ i : Nat) : Int)) := by
  obtain ⟨_, _, h | ⟨j, hj, e, _⟩⟩ := h
  · omega
  · refine ⟨j, by omega, ?_, ?_⟩
    · have : 2 ^ j ≤ 2 ^ 62 := Nat.pow_le_pow_right (by omega) hj
      omega
    · cases j with
      | zero => left; rw [e]; decide
      | succ i =>
        right
        have : (2 : Nat) ^ (i + 1) = 2 * 2 ^ i := by rw [Nat.pow_succ, Nat.mul_comm]
        exact ⟨i, rfl, by omega, by omega, by omega⟩
theorem near2_take {p q s : Int} (h : Near2 p q s) (hs : 0 < s) (hq : p ≤ q - s) : Near2 p (q - s) (s / 2) := by
  obtain ⟨j, s1, s2, hj⟩ := near2_next h hs
  obtain ⟨a, b, hc | ⟨k, hk, e, f⟩⟩ := h
  · omega
  · refine ⟨hq, by omega, ?_⟩
    rcases hj with ⟨_, h2, h3⟩ | ⟨i, _, h1, h2, h3⟩
    · left; omega
    · right; exact ⟨i, h1, h2, by omega⟩
theorem near2_leave {p q s : Int} (h : Near2 p q s) (hs : 0 < s) (hq : q - s < p) : Near2 p q (s / 2) := by
  obtain ⟨j, s1, s2, hj⟩ := near2_next h hs
  obtain ⟨a, b, hc | ⟨k, hk, e, f⟩⟩ := h
  · omega
  · refine ⟨a, b, ?_⟩
    rcases hj with ⟨_, h2, h3⟩ | ⟨i, _, h1, h2, h3⟩
    · left; omega
    · right; exact ⟨i, h1, h2, by omega⟩

set_option maxHeartbeats 2000000 in
theorem refLevel_at (P r p : Int) (n : Nat) (P0 : 1 ≤ P) (P1 : P ≤ 9223372036854775807) (r0 : 0 ≤ r) (r1 : r ≤ 100000) (n0 : 1 ≤ n) (n1 : n ≤ 120) (hp : Lv P r n p) (w : World) :
    Calls Tryz.prog 36 #[.int .i64 P, .int .i64 r, .int .i64 (n : Int)] w fun e w' => e = .returned (.tuple #[.int .i64 p, .bool true]) ∧ w' = w := by
  have IR : Hid (∀ w, Calls Tryz.prog 50 #[.int .i64 r] w fun e w' => e = .returned (.bool true) ∧ w' = w) := fun w => refRate_at r true (decide_eq_true ⟨r0, r1⟩) w
  have hn : (1 : Int) ≤ (n : Int) := by omega
  have hn2 : (n : Int) ≤ 120 := by omega
  obtain ⟨p0, p1, hq⟩ := hp
  have CL : Hid (∀ (q : Int) (w : World), 0 ≤ q → q ≤ 9223372036854775807 → Calls Tryz.prog 51 #[.int .i64 q, .int .i64 P, .int .i64 r, .int .i64 (n : Int)] w fun e w' => e = .returned (.bool (decide (p ≤ q))) ∧ w' = w) := fun q w h0 h1 => by
    have := refPays_at P r q n (by omega) P1 r0 r1 h0 h1 n1 w
    rw [hq] at this
    exact this
  clear hq
  generalize (n : Int) = c at *
  go_enter Tryz.func36, Tryz.ntmps36
  go_wp2_with fail
  refine (IR.out _).mono ?_
  rintro e w1 ⟨rfl, hw⟩; rw [hw]; clear hw w1
  go_wp2_with fail
  refine (CL.out 9223372036854775807 w (by omega) (by omega)).mono ?_
  rintro e w1 ⟨rfl, hw⟩; rw [hw, decide_eq_true p1]; clear hw w1
  go_wp2_with fail
  go_loopw [8, 9] (fun vq vs wr => wr = w ∧ ∃ q s : Int, vq = .int .i64 q ∧ vs = .int .i64 s ∧ Near2 p q s) (fun _ vs _ => (intOf vs).toNat)
  case atStart => exact ⟨rfl, 9223372036854775807, 4611686018427387904, rfl, rfl, by omega, by omega, Or.inr ⟨62, by omega, by decide, by omega⟩⟩
  case round =>
    obtain ⟨rfl, q, s, rfl, rfl, hN⟩ := hrel
    by_cases hs : 0 < s
    · obtain ⟨_, s1, s2, _⟩ := near2_next hN hs
      have q0 := hN.1
      have q1 := hN.2.1
      by_cases hc : p ≤ q - s
      · have NN : Hid (Near2 p (q - s) (s / 2)) := near2_take hN hs hc
        clear hN
        have hqs : s < q := by omega
        go_wp2_with fail
        refine (CL.out (q - s) _ (by omega) (by omega)).mono ?_
        rintro e w1 ⟨rfl, hw⟩; rw [hw, decide_eq_true hc]; clear hw w1
        go_wp2_with fail
        go_roundw
        case rel => exact ⟨trivial, q - s, s / 2, rfl, rfl, NN.out⟩
        case measure => simp [intOf]; omega
      · have NN : Hid (Near2 p q (s / 2)) := near2_leave hN hs (by omega)
        clear hN
        by_cases hqs : s < q
        · go_wp2_with fail
          refine (CL.out (q - s) _ (by omega) (by omega)).mono ?_
          rintro e w1 ⟨rfl, hw⟩; rw [hw, decide_eq_false (by omega)]; clear hw w1
          go_wp2_with fail
          go_roundw
          case rel => exact ⟨trivial, q, s / 2, rfl, rfl, NN.out⟩
          case measure => simp [intOf]; omega
        · go_wp2_with fail
          go_roundw
          case rel => exact ⟨trivial, q, s / 2, rfl, rfl, NN.out⟩
          case measure => simp [intOf]; omega
    · have hq : q = p := by
        obtain ⟨_, _, h | ⟨j, _, e, _⟩⟩ := hN
        · exact h.2
        · have : 0 < 2 ^ j := Nat.pow_pos (by omega)
          omega
      subst hq
      clear hN
      go_wp2_with fail
      go_ret2
      exact ⟨rfl, rfl⟩

end Go.Proofs.YtgdmkcbbomfmdaaGreatDoor

namespace Go.Proofs.YtgdmkcbbomfmdaaGreatDoor
open Go.RowKit IntM CalM

set_option maxRecDepth 20000 in
set_option maxHeartbeats 8000000 in
theorem refPlan_go (kind P r start rule pay : Int) (n : Nat) (y m k0 : Int) (hk : Ok y m k0) (hd : dA y m + k0 = start) (hv : validB kind P r n start rule = true)
    (hp : Lv P r n pay) (hI : Inv kind P r n pay 0 P) (a : Option Addr) (cap : Nat) (xs : List Int) (lx : xs.length ≤ 64) (w : World) (hS : SlOk w a xs) :
    Calls Tryz.prog 16 #[termsV kind P r n start rule, .slice a xs.length cap] w fun e w' =>
      Up w w' ∧ PlanEnd w.heap.size (planF r (partI kind P n pay) (fun k => dueO ((y - 1) * 12 + m - 1 + (k : Int)) k0 xs rule) n 0 P) e w' := by
  obtain ⟨i0, hi, hz0, hz1, hz2⟩ := info_parts infoInst
  have VA : Hid (∀ w, Calls Tryz.prog 35 #[termsV kind P r n start rule] w fun e w' => e = .returned (.bool true) ∧ Up w w') := fun w => by
    have := refValid_at kind P r n start rule w
    rw [hv] at this
    exact this
  obtain ⟨_, ⟨kd0, kd1⟩, ⟨P0, P1⟩, ⟨r0, r1⟩, ⟨n0, n1⟩, _⟩ := of_decide_eq_true hv
  have LV : Hid (∀ w, Calls Tryz.prog 36 #[.int .i64 P, .int .i64 r, .int .i64 (n : Int)] w fun e w' => e = .returned (.tuple #[.int .i64 pay, .bool true]) ∧ w' = w) := fun w => refLevel_at P r pay n P0 (by omega) r0 r1 (by omega) (by omega) hp w
  have HP : Hid (1 ≤ pay ∧ pay ≤ 9223372036854775807) := ⟨hp.1, hp.2.1⟩
  have HS : Hid (SlOk w a xs) := hS
  have HI : Hid (Inv kind P r n pay 0 P) := hI
  have lx' : (xs.length : Int) ≤ 64 := by omega
  have DU : Hid (∀ (k : Nat) (w : World), k ≤ 120 → SlOk w a xs → Calls Tryz.prog 39 #[termsV kind P r n start rule, .slice a xs.length cap, .int .i64 (k : Int)] w fun e w' => e = .returned (.tuple #[.int .i64 (optN (dueO ((y - 1) * 12 + m - 1 + k) k0 xs rule)), .bool (dueO ((y - 1) * 12 + m - 1 + k) k0 xs rule).isSome]) ∧ Up w w') :=
    fun k w hk' hS => refDue_at kind P r n start rule y m k0 hk hd k _ (by omega) (by omega) rfl a cap xs _ rfl w hS
  clear hS hI hv hk hd hp
  generalize hdue : (fun k : Nat => dueO ((y - 1) * 12 + m - 1 + (k : Int)) k0 xs rule) = due at *
  have DD : Hid (∀ (k : Nat) (w : World), k ≤ 120 → SlOk w a xs → Calls Tryz.prog 39 #[termsV kind P r n start rule, .slice a xs.length cap, .int .i64 (k : Int)] w fun e w' => e = .returned (.tuple #[.int .i64 (optN (due k)), .bool (due k).isSome]) ∧ Up w w') := by rw [← hdue]; exact DU
  clear DU hdue
  have PT : Hid (∀ (w : World) (k : Nat) (b i : Int), 0 ≤ i → i ≤ 10000000000000 → Calls Tryz.prog 38 #[termsV kind P r n start rule, .int .i64 pay, .int .i64 (k : Int), .int .i64 b, .int .i64 i] w fun e w' => e = .returned (.int .i64 (partI kind P n pay k b i)) ∧ Up w w') :=
    fun w k b i h0 h1 => refPart_at kind P r start rule pay n k b i (by omega) P0 P1 (by omega) (by omega) (by have := HP.out; omega) HP.out.2 h0 h1 w
  generalize hxl : xs.length = L at *
  unfold termsV at *
  go_enter Tryz.func16, Tryz.ntmps16
  go_wp2_with fail
  refine (VA.out _).mono ?_
  rintro e W ⟨rfl, U1⟩
  have U0 := (Up.refl w).alloc (.cells #[.int .i64 kind, .int .i64 P, .int .i64 r, .int .i64 (n : Int), .int .i64 start, .int .i64 rule] 26)
  have TA1 : TermsAt kind P r n start rule w.heap.size W := ⟨cell_in U1 0 _ rfl, cell_in U1 1 _ rfl, cell_in U1 2 _ rfl, cell_in U1 3 _ rfl, cell_in U1 4 _ rfl, cell_in U1 5 _ rfl⟩
  have TA : Hid (TermsAt kind P r n start rule w.heap.size W) := TA1
  obtain ⟨c0, c1, c2, c3, c4, c5⟩ := TA1
  have UW : Hid (Up w W) := U0.trans U1
  clear U0 U1
  generalize hbb : w.heap.size = bb at *
  have HB : Hid (w.heap.size = bb) := hbb
  clear hbb
  go_wp2_with fail
  refine (LV.out _).mono ?_
  rintro e w1 ⟨rfl, hw⟩; rw [hw]; clear hw w1
  go_wp2_with fail
  go_loopw [9, 8, 10] (fun vb vp vk wr => ∃ (k : Nat) (b : Int) (rs : List (Int × Int × Int)), vb = .int .i64 b ∧ vk = .int .i64 ((k + 1 : Nat) : Int) ∧ k ≤ n ∧ 0 ≤ b ∧ b ≤ P ∧ rs.length ≤ k ∧ Hid (b = 0 ∨ Inv kind P r n pay k b) ∧ RowI W.heap.size wr vp rs ∧ Below W.heap.size W wr ∧ Hid (planF r (partI kind P n pay) due n 0 P = (planF r (partI kind P n pay) due (n - k) k b).map (rs ++ ·))) (fun _ _ vk _ => n + 1 - (intOf vk).toNat)
  case atStart => exact ⟨0, P, [], rfl, rfl, by omega, by omega, by omega, by simp, Or.inr HI.out, RowI.nil _ _, Below.refl _ _, by show _ = _; simp⟩
  case round =>
    obtain ⟨k, b, rs, rfl, rfl, hk, b0, b1, hlr, hinv, hown, hnx, hpl⟩ := hrel
    have hO : Up W wr := hnx
    obtain ⟨c0', c1', c2', c3', c4', c5'⟩ := TA.out.up hO
    clear c0 c1 c2 c3 c4 c5
    by_cases hlt : ((k + 1 : Nat) : Int) ≤ (n : Int)
    · obtain ⟨j, hj⟩ : ∃ j, n - k = j + 1 := ⟨n - k - 1, by omega⟩
      have hpl' := hpl.out
      rw [hj] at hpl'
      have m0 := mon_nonneg b0 r0
      have m1 := mon_le b0 r1
      have MM : Hid (∀ w, Calls Tryz.prog 37 #[.int .i64 b, .int .i64 r] w fun e w' => e = .returned (.int .i64 (mon b r)) ∧ w' = w) := fun w => refmonth_at b r b0 (by omega) r0 r1 w
      have PC : Hid (∀ w, Calls Tryz.prog 38 #[.agg #[.int .i64 kind, .int .i64 P, .int .i64 r, .int .i64 (n : Int), .int .i64 start, .int .i64 rule], .int .i64 pay, .int .i64 ((k + 1 : Nat) : Int), .int .i64 b, .int .i64 (mon b r)] w fun e w' => e = .returned (.int .i64 (partI kind P n pay (k + 1) b (mon b r))) ∧ Up w w') := fun w => PT.out w (k + 1) b (mon b r) m0 (by omega)
      by_cases hb : b = 0
      · subst hb
        have NP : Hid (planF r (partI kind P n pay) due n 0 P = (planF r (partI kind P n pay) due (n - (k + 1)) (k + 1) 0).map (rs ++ ·)) := by
          show _ = _
          rw [hpl', planF_zero, planF_zero]
        rw [mon_zero] at MM PC
        generalize partI kind P n pay (k + 1) 0 0 = p at *
        clear hpl' hpl hinv DD m0 m1
        go_wp2_with fail
        refine (MM.out _).mono ?_
        rintro e w3 ⟨rfl, hw⟩; rw [hw]; clear hw w3
        go_wp2_with fail
        refine (PC.out _).mono ?_
        rintro e w4 ⟨rfl, U4⟩
        go_wp2_with fail
        go_roundw
        case rel => exact ⟨k + 1, 0, rs, rfl, by go_num, by omega, by omega, by omega, by omega, Or.inl rfl, hown.later U4, hO.trans U4, NP⟩
        case measure => simp [intOf]; omega
      · have hinv' : Inv kind P r n pay k b := hinv.out.resolve_left hb
        have hbp : 0 < b := by omega
        obtain ⟨p0, p1, hin, _⟩ := inv_step (by omega) (by omega) r0 hinv' hb (by omega)
        have sk := @planF_skip r (partI kind P n pay) due j k b hb
        have sn := @planF_no r (partI kind P n pay) due j k b hb
        have sr := fun d => @planF_row r (partI kind P n pay) due j k b d hb
        have hin' : Hid (b - partI kind P n pay (k + 1) b (mon b r) = 0 ∨ Inv kind P r n pay (k + 1) (b - partI kind P n pay (k + 1) b (mon b r))) := Or.inr hin
        have hks : Hid (partI kind P n pay (k + 1) b (mon b r) = 0 → (b = 0 ∨ Inv kind P r n pay (k + 1) b)) := fun h => by have := hin; rw [h, Int.sub_zero] at this; exact Or.inr this
        clear hin hinv hinv'
        generalize hp : partI kind P n pay (k + 1) b (mon b r) = p at *
        generalize hmi : mon b r = i at *
        clear hp hmi
        have hlr' : rs.length < 1048576 := by omega
        by_cases hz : i = 0 ∧ p = 0
        · obtain ⟨rfl, rfl⟩ := hz
          have NP : Hid (planF r (partI kind P n pay) due n 0 P = (planF r (partI kind P n pay) due (n - (k + 1)) (k + 1) b).map (rs ++ ·)) := by
            show _ = _
            rw [hpl', sk ⟨rfl, rfl⟩, show n - (k + 1) = j by omega]
          have NI : Hid (b = 0 ∨ Inv kind P r n pay (k + 1) b) := hks.out rfl
          clear sk sn sr hpl' hpl DD hks hin'
          go_wp2_with fail
          refine (MM.out _).mono ?_
          rintro e w3 ⟨rfl, hw⟩; rw [hw]; clear hw w3
          go_wp2_with fail
          refine (PC.out _).mono ?_
          rintro e w4 ⟨rfl, U4⟩
          go_wp2_with fail
          go_roundw
          case rel => exact ⟨k + 1, b, rs, rfl, by go_num, by omega, b0, b1, by omega, NI, hown.later U4, hO.trans U4, NP⟩
          case measure => simp [intOf]; omega
        · have sn' := sn hz
          have sr' := fun d => sr d hz
          clear sk sn sr hks hpl
          have DC : Hid (∀ w, SlOk w a xs → Calls Tryz.prog 39 #[.agg #[.int .i64 kind, .int .i64 P, .int .i64 r, .int .i64 (n : Int), .int .i64 start, .int .i64 rule], .slice a L cap, .int .i64 ((k + 1 : Nat) : Int)] w fun e w' => e = .returned (.tuple #[.int .i64 (optN (due (k + 1))), .bool (due (k + 1)).isSome]) ∧ Up w w') := fun w => DD.out (k + 1) w (by omega)
          have hcase : (i = 0 ∧ 0 < p) ∨ 0 < i := by omega
          clear hz DD
          cases hdu : due (k + 1) with
          | none =>
            have NP : Hid (planF r (partI kind P n pay) due n 0 P = none) := by
              show _ = _
              rw [hpl', sn' hdu]; rfl
            rw [hdu] at DC
            clear sn' sr' hpl' hin' hdu
            rcases hcase with ⟨rfl, hp0⟩ | hi0
            all_goals
              go_wp2_with fail
              refine (MM.out _).mono ?_
              rintro e w3 ⟨rfl, hw⟩; rw [hw]; clear hw w3
              go_wp2_with fail
              refine (PC.out _).mono ?_
              rintro e w4 ⟨rfl, U4⟩
              obtain ⟨e0, e1, e2, e3, e4, e5⟩ := TA.out.up (hO.trans U4)
              have UX := UW.out.trans (hO.trans U4)
              go_wp2_with fail
              refine (DC.out _ (HS.out.up UX)).mono ?_
              rintro e w5 ⟨rfl, U5⟩
              go_wp2_with fail
              go_ret2
              refine ⟨UX.trans U5, ?_⟩
              rw [NP.out]
              exact ⟨_, rfl, rfl⟩
          | some d =>
            have hsr := sr' d hdu
            rw [hdu] at DC
            clear sn' sr' hdu
            have NB : Hid (planF r (partI kind P n pay) due n 0 P = (planF r (partI kind P n pay) due (n - (k + 1)) (k + 1) (b - p)).map ((rs ++ [(d, i, p)]) ++ ·)) := by
              show _ = _
              rw [hpl', hsr, map_pre, show n - (k + 1) = j by omega]
            have ln : (rs ++ [(d, i, p)]).length ≤ k + 1 := by simp; omega
            clear hpl' hsr
            rcases hcase with ⟨rfl, hp0⟩ | hi0
            all_goals
              go_wp2_with fail
              refine (MM.out _).mono ?_
              rintro e w3 ⟨rfl, hw⟩; rw [hw]; clear hw w3
              go_wp2_with fail
              refine (PC.out _).mono ?_
              rintro e w4 ⟨rfl, U4⟩
              obtain ⟨e0, e1, e2, e3, e4, e5⟩ := TA.out.up (hO.trans U4)
              have UX := UW.out.trans (hO.trans U4)
              go_wp2_with fail
              refine (DC.out _ (HS.out.up UX)).mono ?_
              rintro e w5 ⟨rfl, U5⟩
              have hown5 : RowI W.heap.size w5 u8 rs := (hown.later U4).later U5
              have hnx5 : Below W.heap.size W w5 := (hO.trans U4).trans U5
              have hsz5 := hnx5.size
              go_wp2_with (at_builtin; refine wpList_pushI rfl (.tmp 70) (.tmp 75) 28 rfl i0 Tryz.underlying28 hi _ hz0 rfl hz1 hz2 W.heap.size W.heap.size W _ _ _ _ _ rfl hown5 hnx5 (Nat.le_refl _) hsz5 rfl hlr' ?_; intro v' w6 hown' hnx' hsz')
              go_roundw
              case rel => exact ⟨k + 1, b - p, _, by go_num, by go_num, by omega, by omega, by omega, ln, hin', hown', hnx', NB⟩
              case measure => simp [intOf]; omega
    · obtain rfl : k = n := by omega
      have hpl' := hpl.out
      rw [Nat.sub_self, planF_none] at hpl'
      simp only [Option.map_some, List.append_nil] at hpl'
      clear hpl
      go_wp2_with fail
      go_ret2
      refine ⟨UW.out.trans hnx, ?_⟩
      try rw [hpl']
      exact ⟨_, rfl, hown.mono UW.out.size⟩
end Go.Proofs.YtgdmkcbbomfmdaaGreatDoor
