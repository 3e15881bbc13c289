/-
  Ours: contracts of the document's own Business, sought, Adjust.
-/
import Derived.Test.YtgdmkcbbomfmdaaGreatDoorCalAdj
namespace Go.Proofs.YtgdmkcbbomfmdaaGreatDoor
open Go.RowKit CalM

set_option maxHeartbeats 1000000 in
theorem refBusiness_at (a : Option Addr) (cap : Nat) (xs : List Int) (d : Int) (w : World) (h : SlOk w a xs) (b : Bool) (hb : workB d xs = b) :
    Calls Tryz.prog 119 #[.int .i64 d, .slice a xs.length cap] w fun e w' => e = .returned (.bool b) ∧ w' = w := by
  by_cases hd : (1 ≤ d ∧ d ≤ 3652059) ∧ (d - 1) % 7 < 5
  · have WD : Hid (∀ w, Calls Tryz.prog 135 #[.int .i64 d] w fun e w' => e = .returned (.tuple #[.int .i64 ((d - 1) % 7 + 1), .bool true]) ∧ w' = w) := fun w => refWeekday_at d _ hd.1.1 hd.1.2 rfl w
    obtain ⟨L, hL⟩ : ∃ L, xs.length = L := ⟨_, rfl⟩
    have h1 := h.1
    have HC : Hid (SlOk w a xs) := h
    have HL : Hid (xs.length = L) := hL
    have HB : Hid ((!decide (d ∈ xs)) = b) := by
      show (!decide (d ∈ xs)) = b
      rw [← hb]; unfold workB; rw [Bool.eq_iff_iff]; simp [hd]
    have t1 : ¬ 5 < (d - 1) % 7 + 1 := by omega
    rw [hL] at h1
    rw [hL]
    clear h hL hb hd
    generalize (d - 1) % 7 + 1 = wd at *
    go_enter Tryz.func119, Tryz.ntmps119
    go_wp2_with fail
    refine (WD.out _).mono ?_
    rintro e w1 ⟨rfl, hw⟩; rw [hw]; clear hw w1
    go_wp2_with fail
    go_loopw [7] (fun kk w' => w' = w ∧ ∃ k : Nat, k ≤ L ∧ kk = .int .i64 (k : Int) ∧ Hid (∀ i, i < k → xs.getD i 0 ≠ d)) (fun kk _ => L - (intOf kk).toNat)
    case atStart => exact ⟨rfl, 0, by omega, rfl, fun i hi => by omega⟩
    case round =>
      obtain ⟨rfl, k, hk, rfl, hne⟩ := hrel
      by_cases hlt : (k : Int) < (L : Int)
      · obtain ⟨g, off, rfl, cx⟩ := HC.out.at (k := k) (by rw [HL.out]; omega)
        by_cases he : xs.getD k 0 = d
        · have MEM : Hid (d ∈ xs) := by rw [← he]; exact getD_mem (by rw [HL.out]; omega)
          rw [he] at cx
          go_wp2_with fail
          go_ret
          exact ⟨ret_bool (by rw [← HB.out, decide_eq_true MEM.out]; rfl), rfl⟩
        · have HE : Hid (xs.getD k 0 ≠ d) := he
          have NE : Hid (∀ i, i < k + 1 → xs.getD i 0 ≠ d) := fun i hi => by
            rcases Nat.lt_or_ge i k with g | g
            · exact hne.out i g
            · obtain rfl : i = k := by omega
              exact HE.out
          generalize xs.getD k 0 = x at *
          have hb : (x == d) = false := by rw [beq_eq_false_iff_ne]; exact he
          go_wp2_with fail
          go_roundw
          case rel => exact ⟨trivial, k + 1, by omega, by go_num, NE.out⟩
          case measure => simp [intOf]; omega
      · obtain rfl : k = L := by omega
        go_wp2_with fail
        go_ret
        exact ⟨ret_bool (by rw [← HB.out, decide_eq_false (not_mem_of (fun i hi => hne.out i (by rw [← HL.out]; exact hi)))]; rfl), rfl⟩
  · have hb' : b = false := by rw [← hb]; exact decide_eq_false (fun g => hd ⟨g.1, g.2.1⟩)
    subst hb'
    by_cases hr : 1 ≤ d ∧ d ≤ 3652059
    · have WD : Hid (∀ w, Calls Tryz.prog 135 #[.int .i64 d] w fun e w' => e = .returned (.tuple #[.int .i64 ((d - 1) % 7 + 1), .bool true]) ∧ w' = w) := fun w => refWeekday_at d _ hr.1 hr.2 rfl w
      have t1 : 5 < (d - 1) % 7 + 1 := by omega
      clear h hb hd
      generalize xs.length = L at *
      generalize (d - 1) % 7 + 1 = wd at *
      go_enter Tryz.func119, Tryz.ntmps119
      go_wp2_with fail
      refine (WD.out _).mono ?_
      rintro e w1 ⟨rfl, hw⟩; rw [hw]; clear hw w1
      go_wp2_with fail
      go_ret
      exact ⟨rfl, rfl⟩
    · have WN : Hid (∀ w, Calls Tryz.prog 135 #[.int .i64 d] w fun e w' => e = .returned (.tuple #[.int .i64 0, .bool false]) ∧ w' = w) := fun w => refWeekday_no d hr w
      clear h hb hd hr
      generalize xs.length = L at *
      go_enter Tryz.func119, Tryz.ntmps119
      go_wp2_with fail
      refine (WN.out _).mono ?_
      rintro e w1 ⟨rfl, hw⟩; rw [hw]; clear hw w1
      go_wp2_with fail
      go_ret
      exact ⟨rfl, rfl⟩

set_option maxHeartbeats 1000000 in
theorem sought_at (a : Option Addr) (cap : Nat) (xs : List Int) (day step : Int) (r : Option Int) (hr : near day step xs = r) (d1 : 1 ≤ day) (d2 : day ≤ 3652059) (s1 : step = 1 ∨ step = -1) (w : World) (h : SlOk w a xs) :
    Calls Tryz.prog 96 #[.int .i64 day, .slice a xs.length cap, .int .i64 step] w fun e w' => e = .returned (.tuple #[.int .i64 (optN r), .bool r.isSome]) ∧ w' = w := by
  have BU : Hid (∀ (d : Int) (b : Bool), workB d xs = b → Calls Tryz.prog 119 #[.int .i64 d, .slice a xs.length cap] w fun e w' => e = .returned (.bool b) ∧ w' = w) := fun d b hb => refBusiness_at a cap xs d w h b hb
  have HR : Hid (near day step xs = r) := hr
  clear h hr
  generalize hL : xs.length = L at *
  clear hL
  rcases s1 with rfl | rfl
  · go_enter Tryz.func96, Tryz.ntmps96
    go_wp2_with fail
    go_loopw [8] (fun kk w' => w' = w ∧ ∃ k : Nat, k ≤ 11 ∧ kk = .int .i64 (k : Int) ∧ Hid (nearFrom day 1 xs (11 - k) = r)) (fun kk _ => 11 - (intOf kk).toNat)
    case atStart => exact ⟨rfl, 0, by omega, rfl, HR.out⟩
    case round =>
      obtain ⟨rfl, k, hk, rfl, hne⟩ := hrel
      by_cases hlt : (k : Int) < 11
      · obtain ⟨b, hb⟩ : ∃ b, workB (day + (k : Int) * 1) xs = b := ⟨_, rfl⟩
        have ev : day + (k : Int) * 1 = day + (k : Int) := by omega
        have B1 : Hid (Calls Tryz.prog 119 #[.int .i64 (day + (k : Int)), .slice a L cap] wr fun e w' => e = .returned (.bool b) ∧ w' = wr) := BU.out _ b (by rw [← ev]; exact hb)
        cases b
        · have NX : Hid (nearFrom day 1 xs (11 - (k + 1)) = r) := (near_no (by omega) hb).symm.trans hne.out
          clear hb ev
          go_wp2_with fail
          refine (B1.out).mono ?_
          rintro e w1 ⟨rfl, hw⟩; rw [hw]; clear hw w1
          go_wp2_with fail
          go_roundw
          case rel => exact ⟨trivial, k + 1, by omega, by go_num, NX.out⟩
          case measure => simp [intOf]; omega
        · have FD : Hid (some (day + (k : Int)) = r) := by rw [← ev]; exact (near_yes (by omega) hb).symm.trans hne.out
          clear hb ev
          go_wp2_with fail
          refine (B1.out).mono ?_
          rintro e w1 ⟨rfl, hw⟩; rw [hw]; clear hw w1
          go_wp2_with fail
          go_ret2
          rw [← FD.out]
          exact ⟨rfl, rfl⟩
      · obtain rfl : k = 11 := by omega
        have NO : Hid (none = r) := hne.out
        go_wp2_with fail
        go_ret2
        rw [← NO.out]
        exact ⟨rfl, rfl⟩
  · go_enter Tryz.func96, Tryz.ntmps96
    go_wp2_with fail
    go_loopw [8] (fun kk w' => w' = w ∧ ∃ k : Nat, k ≤ 11 ∧ kk = .int .i64 (k : Int) ∧ Hid (nearFrom day (-1) xs (11 - k) = r)) (fun kk _ => 11 - (intOf kk).toNat)
    case atStart => exact ⟨rfl, 0, by omega, rfl, HR.out⟩
    case round =>
      obtain ⟨rfl, k, hk, rfl, hne⟩ := hrel
      by_cases hlt : (k : Int) < 11
      · obtain ⟨b, hb⟩ : ∃ b, workB (day + (k : Int) * (-1)) xs = b := ⟨_, rfl⟩
        have ev : day + (k : Int) * (-1) = day + -(k : Int) := by omega
        have B1 : Hid (Calls Tryz.prog 119 #[.int .i64 (day + -(k : Int)), .slice a L cap] wr fun e w' => e = .returned (.bool b) ∧ w' = wr) := BU.out _ b (by rw [← ev]; exact hb)
        cases b
        · have NX : Hid (nearFrom day (-1) xs (11 - (k + 1)) = r) := (near_no (by omega) hb).symm.trans hne.out
          clear hb ev
          go_wp2_with fail
          refine (B1.out).mono ?_
          rintro e w1 ⟨rfl, hw⟩; rw [hw]; clear hw w1
          go_wp2_with fail
          go_roundw
          case rel => exact ⟨trivial, k + 1, by omega, by go_num, NX.out⟩
          case measure => simp [intOf]; omega
        · have FD : Hid (some (day + -(k : Int)) = r) := by rw [← ev]; exact (near_yes (by omega) hb).symm.trans hne.out
          clear hb ev
          go_wp2_with fail
          refine (B1.out).mono ?_
          rintro e w1 ⟨rfl, hw⟩; rw [hw]; clear hw w1
          go_wp2_with fail
          go_ret2
          rw [← FD.out]
          exact ⟨rfl, rfl⟩
      · obtain rfl : k = 11 := by omega
        have NO : Hid (none = r) := hne.out
        go_wp2_with fail
        go_ret2
        rw [← NO.out]
        exact ⟨rfl, rfl⟩

/-- Within ten days the month's number tells the month. -/
theorem month_tells {a b k : Int} (a1 : 1 ≤ a) (a2 : a ≤ 3652059) (b1 : 1 ≤ b) (b2 : b ≤ 3652059) (k1 : 0 ≤ k) (k2 : k ≤ 10) (h : b = a + k) : smB a b = decide (dM b = dM a) := by
  obtain ⟨oka, ea⟩ := date_spec a a1 a2
  obtain ⟨okb, eb⟩ := date_spec b b1 b2
  unfold smB
  rw [decide_eq_decide]
  refine ⟨fun g => g.2.symm, fun g => ⟨?_, g.symm⟩⟩
  obtain ⟨y1, y2, m1, m2, c1, c2⟩ := oka
  obtain ⟨y3, y4, m3, m4, c3, c4⟩ := okb
  rw [g] at eb c4 m3 m4
  generalize dM a = m at *
  generalize dY a = y at *
  generalize dY b = z at *
  have l1 := dA_high y m m1 m2
  have l2 := dA_low z m m1 m2
  have l3 := dA_low y m m1 m2
  have l4 := dA_high z m m1 m2
  have hl := len_high y m
  have step : ∀ u : Int, dA u m + 365 ≤ dA (u + 1) m := fun u => by
    unfold dA; rw [yA_succ]
    have := lp_01 u
    have := lp_01 (u + 1)
    split <;> omega
  rcases Int.lt_trichotomy y z with g | g | g
  · exfalso
    have s := step y
    have m1' : dA (y + 1) m ≤ dA z m := by
      rcases Int.lt_or_le (y + 1) z with g' | g'
      · have t1 := dA_high (y + 1) m m1 m2
        have t2 := yA_mono (a := y + 1 + 1) (b := z) (by omega)
        have t3 := len_low (y + 1) m
        omega
      · obtain rfl : z = y + 1 := by omega
        omega
    omega
  · exact g
  · exfalso
    have t2 := yA_mono (a := z + 1) (b := y) (by omega)
    omega

set_option maxHeartbeats 2000000 in
theorem refAdjust_at (a : Option Addr) (cap : Nat) (xs : List Int) (day rule : Int) (r : Option Int) (hr : adjO day xs rule = r) (w : World) (h : SlOk w a xs) :
    Calls Tryz.prog 54 #[.int .i64 day, .slice a xs.length cap, .int .i64 rule] w fun e w' => e = .returned (.tuple #[.int .i64 (optN r), .bool r.isSome]) ∧ Up w w' := by
  unfold adjO at hr
  by_cases hd : 1 ≤ day ∧ day ≤ 3652059
  · have ID : Hid (∀ w, Calls Tryz.prog 92 #[.int .i64 day] w fun e w' => e = .returned (.bool true) ∧ w' = w) := fun w => refIsDay_at day true (decide_eq_true hd) w
    have NR : Hid (∀ (step : Int) (r : Option Int) (w : World), SlOk w a xs → (step = 1 ∨ step = -1) → near day step xs = r → Calls Tryz.prog 96 #[.int .i64 day, .slice a xs.length cap, .int .i64 step] w fun e w' => e = .returned (.tuple #[.int .i64 (optN r), .bool r.isSome]) ∧ w' = w) := fun step r w h hs hr => sought_at a cap xs day step r hr hd.1 hd.2 hs w h
    rw [if_neg (fun g => g hd)] at hr
    have HS : Hid (SlOk w a xs) := h
    clear h
    generalize hL : xs.length = L at *
    clear hL
    by_cases r0 : rule = 0
    · subst r0
      simp at hr
      subst hr
      clear NR hd
      go_enter Tryz.func54, Tryz.ntmps54
      go_wp2_with fail
      refine (ID.out _).mono ?_
      rintro e w1 ⟨rfl, hw⟩; rw [hw]; clear hw w1
      go_wp2_with fail
      go_ret2
      exact ⟨rfl, Up.refl _⟩
    rw [if_neg r0] at hr
    by_cases r1 : rule = 1
    · subst r1
      rw [if_pos rfl] at hr
      have N1 : Hid (∀ w : World, SlOk w a xs → Calls Tryz.prog 96 #[.int .i64 day, .slice a L cap, .int .i64 1] w fun e w' => e = .returned (.tuple #[.int .i64 (optN r), .bool r.isSome]) ∧ w' = w) := fun w h => NR.out 1 r w h (Or.inl rfl) hr
      clear NR hd hr
      go_enter Tryz.func54, Tryz.ntmps54
      go_wp2_with fail
      refine (ID.out _).mono ?_
      rintro e w1 ⟨rfl, hw⟩; rw [hw]; clear hw w1
      go_wp2_with fail
      refine (N1.out _ HS.out).mono ?_
      rintro e w1 ⟨rfl, hw⟩; rw [hw]; clear hw w1
      go_wp2_with fail
      go_ret2
      exact ⟨rfl, Up.refl _⟩
    rw [if_neg r1] at hr
    by_cases r2 : rule = 2
    · subst r2
      rw [if_pos rfl] at hr
      have N1 : Hid (∀ w : World, SlOk w a xs → Calls Tryz.prog 96 #[.int .i64 day, .slice a L cap, .int .i64 (-1)] w fun e w' => e = .returned (.tuple #[.int .i64 (optN r), .bool r.isSome]) ∧ w' = w) := fun w h => NR.out (-1) r w h (Or.inr rfl) hr
      clear NR hd hr
      go_enter Tryz.func54, Tryz.ntmps54
      go_wp2_with fail
      refine (ID.out _).mono ?_
      rintro e w1 ⟨rfl, hw⟩; rw [hw]; clear hw w1
      go_wp2_with fail
      refine (N1.out _ HS.out).mono ?_
      rintro e w1 ⟨rfl, hw⟩; rw [hw]; clear hw w1
      go_wp2_with fail
      go_ret2
      exact ⟨rfl, Up.refl _⟩
    rw [if_neg r2] at hr
    by_cases r3 : rule = 3
    · subst r3
      rw [if_pos rfl] at hr
      obtain ⟨q, hq⟩ : ∃ q, near day 1 xs = q := ⟨_, rfl⟩
      rw [hq] at hr
      have N1 : Hid (∀ w : World, SlOk w a xs → Calls Tryz.prog 96 #[.int .i64 day, .slice a L cap, .int .i64 1] w fun e w' => e = .returned (.tuple #[.int .i64 (optN q), .bool q.isSome]) ∧ w' = w) := fun w h => NR.out 1 q w h (Or.inl rfl) hq
      cases q with
      | none =>
        simp only at hr
        have N2 : Hid (∀ w : World, SlOk w a xs → Calls Tryz.prog 96 #[.int .i64 day, .slice a L cap, .int .i64 (-1)] w fun e w' => e = .returned (.tuple #[.int .i64 (optN r), .bool r.isSome]) ∧ w' = w) := fun w h => NR.out (-1) r w h (Or.inr rfl) hr
        clear NR hd hr hq
        simp only [optN, Option.isSome] at N1
        go_enter Tryz.func54, Tryz.ntmps54
        go_wp2_with fail
        refine (ID.out _).mono ?_
        rintro e w1 ⟨rfl, hw⟩; rw [hw]; clear hw w1
        go_wp2_with fail
        refine (N1.out _ HS.out).mono ?_
        rintro e w1 ⟨rfl, hw⟩; rw [hw]; clear hw w1
        go_wp2_with fail
        refine (N2.out _ HS.out).mono ?_
        rintro e w1 ⟨rfl, hw⟩; rw [hw]; clear hw w1
        go_wp2_with fail
        go_ret2
        exact ⟨rfl, Up.refl _⟩
      | some n =>
        simp only at hr
        obtain ⟨nr, _⟩ := near_works hq
        obtain ⟨g, hg⟩ : ∃ g, smB day n = g := ⟨_, rfl⟩
        rw [hg] at hr
        obtain ⟨c, c1, c2, c3⟩ := (near_works hq).2
        have mt := month_tells hd.1 hd.2 nr.1 nr.2 c1 c2 (by omega)
        rw [hg] at mt
        obtain ⟨okd, ed⟩ := date_spec day hd.1 hd.2
        obtain ⟨okn, en⟩ := date_spec n nr.1 nr.2
        have CD : Hid (∀ w : World, Calls Tryz.prog 52 #[.int .i64 day] w fun e w' => e = .returned (.tuple #[.agg #[.int .i64 (dY day), .int .i64 (dM day), .int .i64 (dK day)], .bool true]) ∧ ∃ o, w' = w.alloc o) := fun w => refCivil_at _ _ _ day okd ed w
        have CN : Hid (∀ w : World, Calls Tryz.prog 52 #[.int .i64 n] w fun e w' => e = .returned (.tuple #[.agg #[.int .i64 (dY n), .int .i64 (dM n), .int .i64 (dK n)], .bool true]) ∧ ∃ o, w' = w.alloc o) := fun w => refCivil_at _ _ _ n okn en w
        clear okd ed okn en c1 c2 c3
        generalize dY day = y at *
        generalize dM day = m at *
        generalize dK day = k at *
        generalize dY n = y' at *
        generalize dM n = m' at *
        generalize dK n = k' at *
        simp only [optN, Option.isSome] at N1
        cases g
        · rw [if_neg (by simp)] at hr
          have N2 : Hid (∀ w : World, SlOk w a xs → Calls Tryz.prog 96 #[.int .i64 day, .slice a L cap, .int .i64 (-1)] w fun e w' => e = .returned (.tuple #[.int .i64 (optN r), .bool r.isSome]) ∧ w' = w) := fun w h => NR.out (-1) r w h (Or.inr rfl) hr
          have mb : (m == m') = false := by rw [beq_eq_false_iff_ne]; exact fun g => of_decide_eq_false mt.symm g.symm
          clear NR hd hr hq hg nr mt
          go_enter Tryz.func54, Tryz.ntmps54
          go_wp2_with fail
          refine (ID.out _).mono ?_
          rintro e w1 ⟨rfl, hw⟩; rw [hw]; clear hw w1
          go_wp2_with fail
          refine (N1.out _ HS.out).mono ?_
          rintro e w1 ⟨rfl, hw⟩; rw [hw]; clear hw w1
          go_wp2_with fail
          refine (CD.out _).mono ?_
          rintro e w2 ⟨rfl, o1, hw⟩; rw [hw]; clear hw w2
          go_wp2_with fail
          refine (CN.out _).mono ?_
          rintro e w2 ⟨rfl, o2, hw⟩; rw [hw]; clear hw w2
          go_wp2_with fail
          refine (N2.out _ (HS.out.up (by repeat (first | exact Up.refl _ | refine up_drewN ?_ _ | refine Up.alloc ?_ _)))).mono ?_
          rintro e w1 ⟨rfl, hw⟩; rw [hw]; clear hw w1
          go_wp2_with fail
          go_ret2
          exact ⟨rfl, by repeat (first | exact Up.refl _ | refine up_drewN ?_ _ | refine Up.alloc ?_ _)⟩
        · rw [if_pos rfl] at hr
          subst hr
          have mb : (m == m') = true := by rw [beq_iff_eq]; exact (of_decide_eq_true mt.symm).symm
          clear NR hd hq hg nr mt
          go_enter Tryz.func54, Tryz.ntmps54
          go_wp2_with fail
          refine (ID.out _).mono ?_
          rintro e w1 ⟨rfl, hw⟩; rw [hw]; clear hw w1
          go_wp2_with fail
          refine (N1.out _ HS.out).mono ?_
          rintro e w1 ⟨rfl, hw⟩; rw [hw]; clear hw w1
          go_wp2_with fail
          refine (CD.out _).mono ?_
          rintro e w2 ⟨rfl, o1, hw⟩; rw [hw]; clear hw w2
          go_wp2_with fail
          refine (CN.out _).mono ?_
          rintro e w2 ⟨rfl, o2, hw⟩; rw [hw]; clear hw w2
          go_wp2_with fail
          go_ret2
          exact ⟨rfl, by repeat (first | exact Up.refl _ | refine up_drewN ?_ _ | refine Up.alloc ?_ _)⟩
    rw [if_neg r3] at hr
    subst hr
    clear NR hd
    go_enter Tryz.func54, Tryz.ntmps54
    go_wp2_with fail
    refine (ID.out _).mono ?_
    rintro e w1 ⟨rfl, hw⟩; rw [hw]; clear hw w1
    go_wp2_with fail
    go_ret2
    exact ⟨rfl, Up.refl _⟩
  · have ID : Hid (∀ w, Calls Tryz.prog 92 #[.int .i64 day] w fun e w' => e = .returned (.bool false) ∧ w' = w) := fun w => refIsDay_at day false (decide_eq_false hd) w
    rw [if_pos hd] at hr
    subst hr
    clear h hd
    generalize xs.length = L at *
    go_enter Tryz.func54, Tryz.ntmps54
    go_wp2_with fail
    refine (ID.out _).mono ?_
    rintro e w1 ⟨rfl, hw⟩; rw [hw]; clear hw w1
    go_wp2_with fail
    go_ret2
    exact ⟨rfl, Up.refl _⟩
end Go.Proofs.YtgdmkcbbomfmdaaGreatDoor
