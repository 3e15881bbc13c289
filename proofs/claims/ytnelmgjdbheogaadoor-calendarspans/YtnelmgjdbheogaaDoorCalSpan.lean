/-
  Ours: the walk of CalendarSpans.
-/
import Derived.Test.YtnelmgjdbheogaaDoorCalBet
import Derived.Test.YtnelmgjdbheogaaDoorCalGreg2
namespace Go.Proofs.YtnelmgjdbheogaaDoor
open Go.RowKit CalM

theorem betB_sym (f t b : Int) : betB t f b = betB f t b := by
  unfold betB; rw [decide_eq_decide]; exact ⟨fun h => ⟨h.2.1, h.1, h.2.2⟩, fun h => ⟨h.2.1, h.1, h.2.2⟩⟩
theorem th_self (y m k : Int) : th y m k y m k = 0 := by unfold th; omega
theorem betN_sym (f t b : Int) : betN f t b = -betN t f b := by
  unfold betN
  rw [betB_sym f t b]
  cases betB f t b
  · simp
  · simp only [if_true]
    by_cases c : b = 0
    · simp only [c, if_true]; omega
    · simp only [c, if_false]
      by_cases g : f > t
      · rw [if_pos g, if_neg (by omega)]
      · rw [if_neg g]
        by_cases g' : t > f
        · rw [if_pos g']; omega
        · rw [if_neg g']
          obtain rfl : f = t := by omega
          have : thN f f = 0 := th_self _ _ _
          omega
theorem betB_01 (f t b : Int) (h : b = 0 ∨ b = 1) : betB f t b = decide ((1 ≤ f ∧ f ≤ 3652059) ∧ (1 ≤ t ∧ t ≤ 3652059)) := by
  unfold betB; rw [decide_eq_decide]; exact ⟨fun g => ⟨g.1, g.2.1⟩, fun g => ⟨g.1, g.2, h⟩⟩
theorem betN_0 {f t : Int} (h : betB f t 0 = true) : betN f t 0 = t - f := by unfold betN; rw [h]; simp
theorem betN_bound (f t b : Int) : -10000000 ≤ betN f t b ∧ betN f t b ≤ 10000000 := by
  unfold betN
  by_cases h : betB f t b = true
  · rw [h]
    unfold betB at h
    have h' := of_decide_eq_true h
    have b1 := th_bound h'.1.1 h'.1.2 h'.2.1.1 h'.2.1.2
    have b2 := th_bound h'.2.1.1 h'.2.1.2 h'.1.1 h'.1.2
    simp only [if_true]
    split
    · omega
    · split <;> omega
  · simp [h]

theorem months_thirty {y m k a n q : Int} (h : Ok y m k) (hd : dA y m + k = a) (k28 : k ≤ 28) (hq : (y - 1) * 12 + m - 1 + n = q) (q1 : 0 ≤ q) (q2 : q ≤ 119987) : betB a (stepN q k) 1 = true ∧ betN a (stepN q k) 1 = 30 * n := by
  have l1 := len_low (q / 12 + 1) (q % 12 + 1)
  have ld : landI q k = k := by unfold landI; omega
  have e : stepN q k = dA (q / 12 + 1) (q % 12 + 1) + k := by unfold stepN; rw [if_pos ⟨q1, q2⟩, ld]
  obtain ⟨y1, y2, m1, m2, k1, k2⟩ := h
  have ok2 : Ok (q / 12 + 1) (q % 12 + 1) k := ⟨by omega, by omega, by omega, by omega, k1, by omega⟩
  have ok1 : Ok y m k := ⟨y1, y2, m1, m2, k1, k2⟩
  have r1 := day_range ok1
  have r2 := day_range ok2
  have d1 := date_is ok1 hd
  have d2 := date_is ok2 e.symm
  rw [hd] at r1
  rw [← e] at r2
  have b : betB a (stepN q k) 1 = true := decide_eq_true ⟨r1, r2, Or.inr rfl⟩
  refine ⟨b, ?_⟩
  unfold betN thN
  rw [b, d1.1, d1.2.1, d1.2.2, d2.1, d2.2.1, d2.2.2]
  unfold th
  have mk : min k 30 = k := by omega
  have nk : ¬ k = 30 := by omega
  have n0 : ¬ (1 : Int) = 0 := by omega
  simp only [if_true, mk, nk, n0, if_false]
  split <;> omega

set_option maxRecDepth 100000 in
set_option maxHeartbeats 4000000 in
theorem spans_walk (a : Int) (_ : -9223372036854775808 ≤ a) (_ : a ≤ 9223372036854775807) (b : Int) (_ : -9223372036854775808 ≤ b) (_ : b ≤ 9223372036854775807) (c : Int) (_ : -9223372036854775808 ≤ c) (_ : c ≤ 9223372036854775807) (n : Int) (_ : -9223372036854775808 ≤ n) (_ : n ≤ 9223372036854775807) (w : World) (hL : TabL w) (hA : TabA w) :
    Calls Tryd.prog 7 #[.int .i64 a, .int .i64 b, .int .i64 c, .int .i64 n] w fun e w' => e = .returned (.bool true) ∧ Up w w' := by
  have HA : Hid (TabA w) := hA
  have HL : Hid (TabL w) := hL
  clear hA hL
  have BT : Hid (∀ (f t b n : Int) (g : Bool) (w : World), betN f t b = n → betB f t b = g → TabA w → Calls Tryd.prog 16 #[.int .i64 f, .int .i64 t, .int .i64 b] w fun e w' => e = .returned (.tuple #[.int .i64 n, .bool g]) ∧ Up w w') := fun f t b n g w hn hg hA => between_up f t b n g hn hg w hA
  have T1 : Hid (betN 1 32 1 = 30) := by
    have e1 : betB 1 32 1 = true := by decide
    have x := date_is (d := 1) ok_first (by decide)
    have y := date_is (y := 1) (m := 2) (k := 1) (d := 32) ⟨by decide, by decide, by decide, by decide, by decide, by decide⟩ (by decide)
    show betN 1 32 1 = 30
    unfold betN thN
    rw [e1, x.1, x.2.1, x.2.2, y.1, y.2.1, y.2.2]
    decide
  go_enter Tryd.func7, Tryd.ntmps7
  go_wp2_with fail
  refine (BT.out 1 2 0 1 true _ (by rw [betN_0 (by decide)]; rfl) (by decide) HA.out).mono ?_
  rintro e w1 ⟨rfl, U1⟩
  have HA1 : Hid (TabA w1) := HA.out.up U1
  go_wp2_with fail
  refine (BT.out 1 32 1 30 true _ T1.out (by decide) HA1.out).mono ?_
  rintro e w2 ⟨rfl, U2⟩
  have U3 : Hid (Up w w2) := U1.trans U2
  clear HA1 U1 U2
  go_wp2_with fail
  go_loopw [13] (fun bb w' => Up w w' ∧ ∃ i : Int, 0 ≤ i ∧ i ≤ 2 ∧ bb = .int .i64 i) (fun bb _ => (2 - intOf bb).toNat)
  case atStart => exact ⟨U3.out, 0, by omega, by omega, rfl⟩
  case round =>
    obtain ⟨U4, i, i1, i2, rfl⟩ := hrel
    have U5 : Hid (Up w wr) := U4
    have HA5 : Hid (TabA wr) := HA.out.up U4
    have HL5 : Hid (TabL wr) := HL.out.up U4
    clear U4 U3
    by_cases hi : i < 2
    · have h01 : i = 0 ∨ i = 1 := by omega
      have s1 := betB_sym a b i
      have s2 := betN_sym a b i
      have s3 := betB_01 a b i h01
      have bb := betN_bound b a i
      rcases h01 with rfl | rfl
      · by_cases hr : (1 ≤ a ∧ a ≤ 3652059) ∧ (1 ≤ b ∧ b ≤ 3652059)
        · rw [decide_eq_true hr] at s3
          have x1 : betN a b 0 = b - a := betN_0 s3
          have x2 : betN b a 0 = a - b := betN_0 (s1.trans s3)
          obtain ⟨⟨r1, r2⟩, r3, r4⟩ := hr
          have X : Hid (∀ w, TabA w → Calls Tryd.prog 16 #[.int .i64 a, .int .i64 b, .int .i64 0] w fun e w' => e = .returned (.tuple #[.int .i64 (b - a), .bool true]) ∧ Up w w') := fun w hA => BT.out _ _ _ _ _ w x1 s3 hA
          have Y : Hid (∀ w, TabA w → Calls Tryd.prog 16 #[.int .i64 b, .int .i64 a, .int .i64 0] w fun e w' => e = .returned (.tuple #[.int .i64 (a - b), .bool true]) ∧ Up w w') := fun w hA => BT.out _ _ _ _ _ w x2 (s1.trans s3) hA
          by_cases hc : 1 ≤ c ∧ c ≤ 3652059
          · have z1 : betB b c 0 = true := (betB_01 b c 0 (Or.inl rfl)).trans (decide_eq_true ⟨⟨r3, r4⟩, hc⟩)
            have v1 : betB a c 0 = true := (betB_01 a c 0 (Or.inl rfl)).trans (decide_eq_true ⟨⟨r1, r2⟩, hc⟩)
            have Z : Hid (∀ w, TabA w → Calls Tryd.prog 16 #[.int .i64 b, .int .i64 c, .int .i64 0] w fun e w' => e = .returned (.tuple #[.int .i64 (c - b), .bool true]) ∧ Up w w') := fun w hA => BT.out _ _ _ _ _ w (betN_0 z1) z1 hA
            have V : Hid (∀ w, TabA w → Calls Tryd.prog 16 #[.int .i64 a, .int .i64 c, .int .i64 0] w fun e w' => e = .returned (.tuple #[.int .i64 (c - a), .bool true]) ∧ Up w w') := fun w hA => BT.out _ _ _ _ _ w (betN_0 v1) v1 hA
            obtain ⟨r5, r6⟩ := hc
            have q : (c - a != b - a + (c - b)) = false := by rw [bne_eq_false_iff_eq]; omega
            clear s1 s2 s3 x1 x2 z1 v1 BT bb
            go_wp2_with fail
            refine (X.out _ HA5.out).mono ?_
            rintro e w6 ⟨rfl, U6⟩
            have HA6 : Hid (TabA w6) := HA5.out.up U6
            have U7 : Hid (Up w w6) := U5.out.trans U6
            clear U6
            go_wp2_with fail
            refine (Y.out _ HA6.out).mono ?_
            rintro e w8 ⟨rfl, U8⟩
            have HA8 : Hid (TabA w8) := HA6.out.up U8
            have U9 : Hid (Up w w8) := U7.out.trans U8
            clear U8
            go_wp2_with fail
            refine (Z.out _ HA8.out).mono ?_
            rintro e w10 ⟨rfl, U10⟩
            have HA10 : Hid (TabA w10) := HA8.out.up U10
            have U11 : Hid (Up w w10) := U9.out.trans U10
            clear U10
            go_wp2_with fail
            refine (V.out _ HA10.out).mono ?_
            rintro e w12 ⟨rfl, U12⟩
            have U13 : Hid (Up w w12) := U11.out.trans U12
            clear U12
            go_wp2_with fail
            all_goals
              go_roundw
              case rel => exact ⟨U13.out, _, by omega, by omega, rfl⟩
              case measure => simp [intOf]
          · have z1 : betB b c 0 = false := (betB_01 b c 0 (Or.inl rfl)).trans (decide_eq_false fun g => hc g.2)
            have Z : Hid (∀ w, TabA w → Calls Tryd.prog 16 #[.int .i64 b, .int .i64 c, .int .i64 0] w fun e w' => e = .returned (.tuple #[.int .i64 (betN b c 0), .bool false]) ∧ Up w w') := fun w hA => BT.out _ _ _ _ _ w rfl z1 hA
            have V : Hid (∀ w, TabA w → Calls Tryd.prog 16 #[.int .i64 a, .int .i64 c, .int .i64 0] w fun e w' => e = .returned (.tuple #[.int .i64 (betN a c 0), .bool (betB a c 0)]) ∧ Up w w') := fun w hA => BT.out _ _ _ _ _ w rfl rfl hA
            have bc := betN_bound b c 0
            have ba := betN_bound a c 0
            clear s1 s2 s3 x1 x2 z1 BT bb hc
            generalize betN b c 0 = C at *
            generalize betN a c 0 = D at *
            generalize betB a c 0 = db at *
            go_wp2_with fail
            refine (X.out _ HA5.out).mono ?_
            rintro e w6 ⟨rfl, U6⟩
            have HA6 : Hid (TabA w6) := HA5.out.up U6
            have U7 : Hid (Up w w6) := U5.out.trans U6
            clear U6
            go_wp2_with fail
            refine (Y.out _ HA6.out).mono ?_
            rintro e w8 ⟨rfl, U8⟩
            have HA8 : Hid (TabA w8) := HA6.out.up U8
            have U9 : Hid (Up w w8) := U7.out.trans U8
            clear U8
            go_wp2_with fail
            refine (Z.out _ HA8.out).mono ?_
            rintro e w10 ⟨rfl, U10⟩
            have HA10 : Hid (TabA w10) := HA8.out.up U10
            have U11 : Hid (Up w w10) := U9.out.trans U10
            clear U10
            go_wp2_with fail
            refine (V.out _ HA10.out).mono ?_
            rintro e w12 ⟨rfl, U12⟩
            have U13 : Hid (Up w w12) := U11.out.trans U12
            clear U12
            go_wp2_with fail
            all_goals
              go_roundw
              case rel => exact ⟨U13.out, _, by omega, by omega, rfl⟩
              case measure => simp [intOf]
        · rw [decide_eq_false hr] at s3
          have HR : Hid (¬ ((1 ≤ a ∧ a ≤ 3652059) ∧ (1 ≤ b ∧ b ≤ 3652059))) := hr
          clear hr
          have X : Hid (∀ w, TabA w → Calls Tryd.prog 16 #[.int .i64 a, .int .i64 b, .int .i64 0] w fun e w' => e = .returned (.tuple #[.int .i64 (-betN b a 0), .bool false]) ∧ Up w w') := fun w hA => BT.out _ _ _ _ _ w s2 s3 hA
          have Y : Hid (∀ w, TabA w → Calls Tryd.prog 16 #[.int .i64 b, .int .i64 a, .int .i64 0] w fun e w' => e = .returned (.tuple #[.int .i64 (betN b a 0), .bool false]) ∧ Up w w') := fun w hA => BT.out _ _ _ _ _ w rfl (s1.trans s3) hA
          have Z : Hid (∀ w, TabA w → Calls Tryd.prog 16 #[.int .i64 b, .int .i64 c, .int .i64 0] w fun e w' => e = .returned (.tuple #[.int .i64 (betN b c 0), .bool (betB b c 0)]) ∧ Up w w') := fun w hA => BT.out _ _ _ _ _ w rfl rfl hA
          have V : Hid (∀ w, TabA w → Calls Tryd.prog 16 #[.int .i64 a, .int .i64 c, .int .i64 0] w fun e w' => e = .returned (.tuple #[.int .i64 (betN a c 0), .bool (betB a c 0)]) ∧ Up w w') := fun w hA => BT.out _ _ _ _ _ w rfl rfl hA
          have bc := betN_bound b c 0
          have ba := betN_bound a c 0
          clear s1 s2 s3 BT
          generalize betN b a 0 = B at *
          generalize betN b c 0 = C at *
          generalize betB b c 0 = cb at *
          generalize betN a c 0 = D at *
          generalize betB a c 0 = db at *
          go_wp2_with fail
          refine (X.out _ HA5.out).mono ?_
          rintro e w6 ⟨rfl, U6⟩
          have HA6 : Hid (TabA w6) := HA5.out.up U6
          have U7 : Hid (Up w w6) := U5.out.trans U6
          clear U6
          go_wp2_with fail
          refine (Y.out _ HA6.out).mono ?_
          rintro e w8 ⟨rfl, U8⟩
          have HA8 : Hid (TabA w8) := HA6.out.up U8
          have U9 : Hid (Up w w8) := U7.out.trans U8
          clear U8
          go_wp2_with fail
          all_goals first
            | (exfalso
               exact HR.out (by omega))
            | (refine (Z.out _ HA8.out).mono ?_
               rintro e w10 ⟨rfl, U10⟩
               have HA10 : Hid (TabA w10) := HA8.out.up U10
               have U11 : Hid (Up w w10) := U9.out.trans U10
               clear U10
               go_wp2_with fail
               refine (V.out _ HA10.out).mono ?_
               rintro e w12 ⟨rfl, U12⟩
               have U13 : Hid (Up w w12) := U11.out.trans U12
               clear U12
               go_wp2_with fail
               all_goals
                 go_roundw
                 case rel => exact ⟨U13.out, _, by omega, by omega, rfl⟩
                 case measure => simp [intOf])
      · by_cases hr : (1 ≤ a ∧ a ≤ 3652059) ∧ (1 ≤ b ∧ b ≤ 3652059)
        · rw [decide_eq_true hr] at s3
          obtain ⟨⟨r1, r2⟩, r3, r4⟩ := hr
          have X : Hid (∀ w, TabA w → Calls Tryd.prog 16 #[.int .i64 a, .int .i64 b, .int .i64 1] w fun e w' => e = .returned (.tuple #[.int .i64 (-betN b a 1), .bool true]) ∧ Up w w') := fun w hA => BT.out _ _ _ _ _ w s2 s3 hA
          have Y : Hid (∀ w, TabA w → Calls Tryd.prog 16 #[.int .i64 b, .int .i64 a, .int .i64 1] w fun e w' => e = .returned (.tuple #[.int .i64 (betN b a 1), .bool true]) ∧ Up w w') := fun w hA => BT.out _ _ _ _ _ w rfl (s1.trans s3) hA
          have Z : Hid (∀ w, TabA w → Calls Tryd.prog 16 #[.int .i64 b, .int .i64 c, .int .i64 1] w fun e w' => e = .returned (.tuple #[.int .i64 (betN b c 1), .bool (betB b c 1)]) ∧ Up w w') := fun w hA => BT.out _ _ _ _ _ w rfl rfl hA
          have V : Hid (∀ w, TabA w → Calls Tryd.prog 16 #[.int .i64 a, .int .i64 c, .int .i64 1] w fun e w' => e = .returned (.tuple #[.int .i64 (betN a c 1), .bool (betB a c 1)]) ∧ Up w w') := fun w hA => BT.out _ _ _ _ _ w rfl rfl hA
          have bc := betN_bound b c 1
          have ba := betN_bound a c 1
          clear s1 s2 s3 BT
          generalize betN b a 1 = B at *
          generalize betN b c 1 = C at *
          generalize betB b c 1 = cb at *
          generalize betN a c 1 = D at *
          generalize betB a c 1 = db at *
          go_wp2_with fail
          refine (X.out _ HA5.out).mono ?_
          rintro e w6 ⟨rfl, U6⟩
          have HA6 : Hid (TabA w6) := HA5.out.up U6
          have U7 : Hid (Up w w6) := U5.out.trans U6
          clear U6
          go_wp2_with fail
          refine (Y.out _ HA6.out).mono ?_
          rintro e w8 ⟨rfl, U8⟩
          have HA8 : Hid (TabA w8) := HA6.out.up U8
          have U9 : Hid (Up w w8) := U7.out.trans U8
          clear U8
          go_wp2_with fail
          refine (Z.out _ HA8.out).mono ?_
          rintro e w10 ⟨rfl, U10⟩
          have HA10 : Hid (TabA w10) := HA8.out.up U10
          have U11 : Hid (Up w w10) := U9.out.trans U10
          clear U10
          go_wp2_with fail
          refine (V.out _ HA10.out).mono ?_
          rintro e w12 ⟨rfl, U12⟩
          have U13 : Hid (Up w w12) := U11.out.trans U12
          clear U12
          go_wp2_with fail
          all_goals
            go_roundw
            case rel => exact ⟨U13.out, _, by omega, by omega, rfl⟩
            case measure => simp [intOf]
        · rw [decide_eq_false hr] at s3
          have HR : Hid (¬ ((1 ≤ a ∧ a ≤ 3652059) ∧ (1 ≤ b ∧ b ≤ 3652059))) := hr
          clear hr
          have X : Hid (∀ w, TabA w → Calls Tryd.prog 16 #[.int .i64 a, .int .i64 b, .int .i64 1] w fun e w' => e = .returned (.tuple #[.int .i64 (-betN b a 1), .bool false]) ∧ Up w w') := fun w hA => BT.out _ _ _ _ _ w s2 s3 hA
          have Y : Hid (∀ w, TabA w → Calls Tryd.prog 16 #[.int .i64 b, .int .i64 a, .int .i64 1] w fun e w' => e = .returned (.tuple #[.int .i64 (betN b a 1), .bool false]) ∧ Up w w') := fun w hA => BT.out _ _ _ _ _ w rfl (s1.trans s3) hA
          have Z : Hid (∀ w, TabA w → Calls Tryd.prog 16 #[.int .i64 b, .int .i64 c, .int .i64 1] w fun e w' => e = .returned (.tuple #[.int .i64 (betN b c 1), .bool (betB b c 1)]) ∧ Up w w') := fun w hA => BT.out _ _ _ _ _ w rfl rfl hA
          have V : Hid (∀ w, TabA w → Calls Tryd.prog 16 #[.int .i64 a, .int .i64 c, .int .i64 1] w fun e w' => e = .returned (.tuple #[.int .i64 (betN a c 1), .bool (betB a c 1)]) ∧ Up w w') := fun w hA => BT.out _ _ _ _ _ w rfl rfl hA
          have bc := betN_bound b c 1
          have ba := betN_bound a c 1
          clear s1 s2 s3 BT
          generalize betN b a 1 = B at *
          generalize betN b c 1 = C at *
          generalize betB b c 1 = cb at *
          generalize betN a c 1 = D at *
          generalize betB a c 1 = db at *
          go_wp2_with fail
          refine (X.out _ HA5.out).mono ?_
          rintro e w6 ⟨rfl, U6⟩
          have HA6 : Hid (TabA w6) := HA5.out.up U6
          have U7 : Hid (Up w w6) := U5.out.trans U6
          clear U6
          go_wp2_with fail
          refine (Y.out _ HA6.out).mono ?_
          rintro e w8 ⟨rfl, U8⟩
          have HA8 : Hid (TabA w8) := HA6.out.up U8
          have U9 : Hid (Up w w8) := U7.out.trans U8
          clear U8
          go_wp2_with fail
          all_goals first
            | (exfalso
               exact HR.out (by omega))
            | (refine (Z.out _ HA8.out).mono ?_
               rintro e w10 ⟨rfl, U10⟩
               have HA10 : Hid (TabA w10) := HA8.out.up U10
               have U11 : Hid (Up w w10) := U9.out.trans U10
               clear U10
               go_wp2_with fail
               refine (V.out _ HA10.out).mono ?_
               rintro e w12 ⟨rfl, U12⟩
               have U13 : Hid (Up w w12) := U11.out.trans U12
               clear U12
               go_wp2_with fail
               all_goals
                 go_roundw
                 case rel => exact ⟨U13.out, _, by omega, by omega, rfl⟩
                 case measure => simp [intOf])
    · obtain rfl : i = 2 := by omega
      clear T1 HA HL
      by_cases hr : 1 ≤ a ∧ a ≤ 3652059
      · obtain ⟨y, m, k, hk, hd⟩ := civil_exists a hr.1 hr.2
        have CA : Hid (∀ w : World, TabA w → Calls Tryd.prog 9 #[.int .i64 a] w fun e w' => e = .returned (.tuple #[.agg #[.int .i64 y, .int .i64 m, .int .i64 k], .bool true]) ∧ ∃ o, w' = w.alloc o) := fun w hA => civil_at y m k a hk hd w hA
        by_cases k28 : k ≤ 28
        · obtain ⟨q, hq⟩ : ∃ q, (y - 1) * 12 + m - 1 + n = q := ⟨_, rfl⟩
          have k1 := hk.2.2.2.2.1
          have AM : Hid (∀ w : World, TabA w → TabL w → Calls Tryd.prog 15 #[.int .i64 a, .int .i64 n, .int .i64 k] w fun e w' => e = .returned (.tuple #[.int .i64 (stepN q k), .bool (stepB q)]) ∧ Up w w') := fun w hA hL => addMonths_up y m k a n k q hk hd k1 (by omega) hq w hA hL
          by_cases g : 0 ≤ q ∧ q ≤ 119987
          · have e1 : stepB q = true := decide_eq_true g
            rw [e1] at AM
            obtain ⟨z1, z2⟩ := months_thirty hk hd k28 hq g.1 g.2
            have nb : -119987 ≤ n ∧ n ≤ 119987 := by obtain ⟨y1, y2, m1, m2, _, _⟩ := hk; omega
            have BX : Hid (∀ w : World, TabA w → Calls Tryd.prog 16 #[.int .i64 a, .int .i64 (stepN q k), .int .i64 1] w fun e w' => e = .returned (.tuple #[.int .i64 (30 * n), .bool true]) ∧ Up w w') := fun w hA => BT.out _ _ _ _ _ w z2 z1 hA
            clear hk hd hq z1 z2 e1 g BT
            generalize stepN q k = X at *
            go_wp2_with fail
            refine (CA.out _ HA5.out).mono ?_
            rintro e w6 ⟨rfl, o1, hw⟩; rw [hw]; clear hw w6
            go_wp2_with fail
            refine (AM.out _ (HA5.out.al _ |>.al _) (HL5.out.al _ |>.al _)).mono ?_
            rintro e w7 ⟨rfl, U7⟩
            have HA7 : Hid (TabA w7) := TabA.up (HA5.out.al _ |>.al _) U7
            have U8 : Hid (Up w w7) := U5.out.trans (Up.trans (by repeat (first | exact Up.refl _ | refine Up.alloc ?_ _)) U7)
            clear U7
            go_wp2_with fail
            refine (BX.out _ HA7.out).mono ?_
            rintro e w9 ⟨rfl, U9⟩
            have U10 : Hid (Up w w9) := U8.out.trans U9
            clear U9
            go_wp2_with fail
            go_ret
            exact ⟨ret_bool (by simp), U10.out⟩
          · have e1 : stepB q = false := decide_eq_false g
            rw [e1] at AM
            clear hk hd hq e1 g BT
            generalize stepN q k = X at *
            go_wp2_with fail
            refine (CA.out _ HA5.out).mono ?_
            rintro e w6 ⟨rfl, o1, hw⟩; rw [hw]; clear hw w6
            go_wp2_with fail
            refine (AM.out _ (HA5.out.al _ |>.al _) (HL5.out.al _ |>.al _)).mono ?_
            rintro e w7 ⟨rfl, U7⟩
            have U8 : Hid (Up w w7) := U5.out.trans (Up.trans (by repeat (first | exact Up.refl _ | refine Up.alloc ?_ _)) U7)
            clear U7
            go_wp2_with fail
            go_ret
            exact ⟨rfl, U8.out⟩
        · clear hk hd BT
          go_wp2_with fail
          refine (CA.out _ HA5.out).mono ?_
          rintro e w6 ⟨rfl, o1, hw⟩; rw [hw]; clear hw w6
          go_wp2_with fail
          go_ret
          exact ⟨rfl, U5.out.trans (by repeat (first | exact Up.refl _ | refine Up.alloc ?_ _))⟩
      · have CN : Hid (∀ w : World, Calls Tryd.prog 9 #[.int .i64 a] w fun e w' => e = .returned (.tuple #[.agg #[.int .i64 0, .int .i64 0, .int .i64 0], .bool false]) ∧ ∃ o, w' = w.alloc o) := fun w => civil_no a hr w
        clear hr BT
        go_wp2_with fail
        refine (CN.out _).mono ?_
        rintro e w6 ⟨rfl, o1, hw⟩; rw [hw]; clear hw w6
        go_wp2_with fail
        go_ret
        exact ⟨rfl, U5.out.trans (by repeat (first | exact Up.refl _ | refine Up.alloc ?_ _))⟩
end Go.Proofs.YtnelmgjdbheogaaDoor
