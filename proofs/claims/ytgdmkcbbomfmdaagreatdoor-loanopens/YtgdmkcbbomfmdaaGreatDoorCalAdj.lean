/-
  Ours: contracts of calendar.sameMonth, calendar.Adjust.
-/
import Derived.Test.YtgdmkcbbomfmdaaGreatDoorCalHol
import Derived.Test.YtgdmkcbbomfmdaaGreatDoorCalMon3
namespace Go.Proofs.YtgdmkcbbomfmdaaGreatDoor
open Go.RowKit CalM

theorem contains_at (a : Option Addr) (cap : Nat) (xs : List Int) (d : Int) (w : World) (h : SlOk w a xs) (b : Bool) (hb : decide (d ∈ xs) = b) :
    Calls Tryz.prog 143 #[.slice a xs.length cap, .int .i64 d] w fun e w' => e = .returned (.bool b) ∧ w' = w := by
  have IX : Hid (Calls Tryz.prog 145 #[.slice a xs.length cap, .int .i64 d] w fun e w' => (∃ n : Int, e = .returned (.int .i64 n) ∧ Hid (0 ≤ n ↔ d ∈ xs)) ∧ w' = w) := index_at a cap xs d w h
  have HB : Hid (decide (d ∈ xs) = b) := hb
  clear h hb
  generalize xs.length = L at *
  go_enter Tryz.func143, Tryz.ntmps143
  go_wp2_with fail
  refine (IX.out).mono ?_
  rintro e w1 ⟨⟨n, rfl, hn⟩, hw⟩; rw [hw]; clear hw w1
  go_wp2_with fail
  go_ret
  exact ⟨ret_bool (by rw [← HB.out, decide_eq_decide]; exact hn.out), rfl⟩

/-- Is the day a business day? -/
def workB (d : Int) (xs : List Int) : Bool := decide ((1 ≤ d ∧ d ≤ 3652059) ∧ (d - 1) % 7 < 5 ∧ d ∉ xs)

theorem business_at (a : Option Addr) (cap : Nat) (xs : List Int) (d : Int) (w : World) (h : SlOk w a xs) (b : Bool) (hb : workB d xs = b) :
    Calls Tryz.prog 140 #[.int .i64 d, .slice a xs.length cap] w fun e w' => e = .returned (.bool b) ∧ w' = w := by
  by_cases hd : 1 ≤ d ∧ d ≤ 3652059
  · have WD : Hid (∀ w, Calls Tryz.prog 142 #[.int .i64 d] w fun e w' => e = .returned (.tuple #[.int .i64 ((d - 1) % 7 + 1), .bool true]) ∧ w' = w) := fun w => weekday_at d _ hd.1 hd.2 rfl w
    obtain ⟨c, hc⟩ : ∃ c, decide (d ∈ xs) = c := ⟨_, rfl⟩
    have CO : Hid (Calls Tryz.prog 143 #[.slice a xs.length cap, .int .i64 d] w fun e w' => e = .returned (.bool c) ∧ w' = w) := contains_at a cap xs d w h c hc
    have HB : Hid ((decide ((d - 1) % 7 < 5) && !c) = b) := by
      show (decide ((d - 1) % 7 < 5) && !c) = b
      rw [← hb, ← hc]; unfold workB
      rw [Bool.eq_iff_iff]; simp [hd]
    clear h hb hc
    generalize xs.length = L at *
    by_cases hw : (d - 1) % 7 < 5
    · generalize (d - 1) % 7 = r at *
      have t1 : r + 1 ≤ 5 := by omega
      go_enter Tryz.func140, Tryz.ntmps140
      go_wp2_with fail
      refine (WD.out _).mono ?_
      rintro e w1 ⟨rfl, hw⟩; rw [hw]; clear hw w1
      go_wp2_with fail
      refine (CO.out).mono ?_
      rintro e w1 ⟨rfl, hw⟩; rw [hw]; clear hw w1
      go_wp2_with fail
      go_ret
      exact ⟨ret_bool (by rw [← HB.out, decide_eq_true hw]; simp), rfl⟩
    · generalize (d - 1) % 7 = r at *
      have t1 : ¬ r + 1 ≤ 5 := by omega
      go_enter Tryz.func140, Tryz.ntmps140
      go_wp2_with fail
      refine (WD.out _).mono ?_
      rintro e w1 ⟨rfl, hw⟩; rw [hw]; clear hw w1
      go_wp2_with fail
      go_ret
      exact ⟨ret_bool (by rw [← HB.out, decide_eq_false (by omega)]; simp), rfl⟩
  · have WN : Hid (∀ w, Calls Tryz.prog 142 #[.int .i64 d] w fun e w' => e = .returned (.tuple #[.int .i64 0, .bool false]) ∧ w' = w) := fun w => weekday_no d hd w
    have hb' : b = false := by rw [← hb]; exact decide_eq_false (fun g => hd g.1)
    subst hb'
    clear h hb hd
    generalize xs.length = L at *
    go_enter Tryz.func140, Tryz.ntmps140
    go_wp2_with fail
    refine (WN.out _).mono ?_
    rintro e w1 ⟨rfl, hw⟩; rw [hw]; clear hw w1
    go_wp2_with fail
    go_ret
    exact ⟨rfl, rfl⟩

/-- The first business day from a day on, in so many steps. -/
def nearFrom (day step : Int) (xs : List Int) : Nat → Option Int
  | 0 => none
  | j + 1 => if workB (day + (10 - (j : Int)) * step) xs then some (day + (10 - (j : Int)) * step) else nearFrom day step xs j
def near (day step : Int) (xs : List Int) : Option Int := nearFrom day step xs 11
def optN : Option Int → Int
  | some x => x
  | none => 0

theorem near_yes {day step : Int} {xs : List Int} {k : Nat} (hk : k < 11) (h : workB (day + (k : Int) * step) xs = true) : nearFrom day step xs (11 - k) = some (day + (k : Int) * step) := by
  obtain ⟨j, hj⟩ : ∃ j, 11 - k = j + 1 := ⟨10 - k, by omega⟩
  have e : (10 : Int) - (j : Int) = (k : Int) := by omega
  rw [hj]; unfold nearFrom; rw [e, if_pos h]
theorem near_no {day step : Int} {xs : List Int} {k : Nat} (hk : k < 11) (h : workB (day + (k : Int) * step) xs = false) : nearFrom day step xs (11 - k) = nearFrom day step xs (11 - (k + 1)) := by
  obtain ⟨j, hj⟩ : ∃ j, 11 - k = j + 1 := ⟨10 - k, by omega⟩
  have e : (10 : Int) - (j : Int) = (k : Int) := by omega
  have e2 : 11 - (k + 1) = j := by omega
  rw [hj, e2]
  conv => lhs; unfold nearFrom
  rw [e, if_neg (by rw [h]; simp)]

set_option maxHeartbeats 1000000 in
theorem nearest_at (a : Option Addr) (cap : Nat) (xs : List Int) (day step : Int) (r : Option Int) (hr : near day step xs = r) (d1 : 1 ≤ day) (d2 : day ≤ 3652059) (s1 : step = 1 ∨ step = -1) (w : World) (h : SlOk w a xs) :
    Calls Tryz.prog 131 #[.int .i64 day, .int .i64 step, .slice a xs.length cap] w fun e w' => e = .returned (.tuple #[.int .i64 (optN r), .bool r.isSome]) ∧ w' = w := by
  have BU : Hid (∀ (d : Int) (b : Bool), workB d xs = b → Calls Tryz.prog 140 #[.int .i64 d, .slice a xs.length cap] w fun e w' => e = .returned (.bool b) ∧ w' = w) := fun d b hb => business_at a cap xs d w h b hb
  have HR : Hid (near day step xs = r) := hr
  clear h hr
  generalize hL : xs.length = L at *
  clear hL
  rcases s1 with rfl | rfl
  · go_enter Tryz.func131, Tryz.ntmps131
    go_wp2_with fail
    go_loopw [10] (fun kk w' => w' = w ∧ ∃ k : Nat, k ≤ 11 ∧ kk = .int .i64 (k : Int) ∧ Hid (nearFrom day 1 xs (11 - k) = r)) (fun kk _ => 11 - (intOf kk).toNat)
    case atStart => exact ⟨rfl, 0, by omega, rfl, HR.out⟩
    case round =>
      obtain ⟨rfl, k, hk, rfl, hne⟩ := hrel
      by_cases hlt : (k : Int) < 11
      · obtain ⟨b, hb⟩ : ∃ b, workB (day + (k : Int) * 1) xs = b := ⟨_, rfl⟩
        have ev : day + (k : Int) * 1 = day + (k : Int) := by omega
        have B1 : Hid (Calls Tryz.prog 140 #[.int .i64 (day + (k : Int)), .slice a L cap] wr fun e w' => e = .returned (.bool b) ∧ w' = wr) := BU.out _ b (by rw [← ev]; exact hb)
        cases b
        · have NX : Hid (nearFrom day 1 xs (11 - (k + 1)) = r) := (near_no (by omega) hb).symm.trans hne.out
          clear hb ev
          go_wp2_with fail
          refine (B1.out).mono ?_
          rintro e w1 ⟨rfl, hw⟩; rw [hw]; clear hw w1
          go_wp2_with fail
          go_roundw
          case rel => exact ⟨trivial, k + 1, by omega, by go_num, NX.out⟩
          case measure => simp [intOf]; omega
        · have FD : Hid (some (day + (k : Int)) = r) := by rw [← ev]; exact (near_yes (by omega) hb).symm.trans hne.out
          clear hb ev
          go_wp2_with fail
          refine (B1.out).mono ?_
          rintro e w1 ⟨rfl, hw⟩; rw [hw]; clear hw w1
          go_wp2_with fail
          go_ret2
          rw [← FD.out]
          exact ⟨rfl, rfl⟩
      · obtain rfl : k = 11 := by omega
        have NO : Hid (none = r) := hne.out
        go_wp2_with fail
        go_ret2
        rw [← NO.out]
        exact ⟨rfl, rfl⟩
  · go_enter Tryz.func131, Tryz.ntmps131
    go_wp2_with fail
    go_loopw [10] (fun kk w' => w' = w ∧ ∃ k : Nat, k ≤ 11 ∧ kk = .int .i64 (k : Int) ∧ Hid (nearFrom day (-1) xs (11 - k) = r)) (fun kk _ => 11 - (intOf kk).toNat)
    case atStart => exact ⟨rfl, 0, by omega, rfl, HR.out⟩
    case round =>
      obtain ⟨rfl, k, hk, rfl, hne⟩ := hrel
      by_cases hlt : (k : Int) < 11
      · obtain ⟨b, hb⟩ : ∃ b, workB (day + (k : Int) * (-1)) xs = b := ⟨_, rfl⟩
        have ev : day + (k : Int) * (-1) = day + -(k : Int) := by omega
        have B1 : Hid (Calls Tryz.prog 140 #[.int .i64 (day + -(k : Int)), .slice a L cap] wr fun e w' => e = .returned (.bool b) ∧ w' = wr) := BU.out _ b (by rw [← ev]; exact hb)
        cases b
        · have NX : Hid (nearFrom day (-1) xs (11 - (k + 1)) = r) := (near_no (by omega) hb).symm.trans hne.out
          clear hb ev
          go_wp2_with fail
          refine (B1.out).mono ?_
          rintro e w1 ⟨rfl, hw⟩; rw [hw]; clear hw w1
          go_wp2_with fail
          go_roundw
          case rel => exact ⟨trivial, k + 1, by omega, by go_num, NX.out⟩
          case measure => simp [intOf]; omega
        · have FD : Hid (some (day + -(k : Int)) = r) := by rw [← ev]; exact (near_yes (by omega) hb).symm.trans hne.out
          clear hb ev
          go_wp2_with fail
          refine (B1.out).mono ?_
          rintro e w1 ⟨rfl, hw⟩; rw [hw]; clear hw w1
          go_wp2_with fail
          go_ret2
          rw [← FD.out]
          exact ⟨rfl, rfl⟩
      · obtain rfl : k = 11 := by omega
        have NO : Hid (none = r) := hne.out
        go_wp2_with fail
        go_ret2
        rw [← NO.out]
        exact ⟨rfl, rfl⟩
end Go.Proofs.YtgdmkcbbomfmdaaGreatDoor

namespace Go.Proofs.YtgdmkcbbomfmdaaGreatDoor
open Go.RowKit CalM

theorem near_from {day step : Int} {xs : List Int} : ∀ (j : Nat) (x : Int), j ≤ 11 → nearFrom day step xs j = some x → workB x xs = true ∧ ∃ k : Int, 0 ≤ k ∧ k ≤ 10 ∧ x = day + k * step
  | 0, x, _, h => by cases h
  | j + 1, x, hj, h => by
    unfold nearFrom at h
    by_cases g : workB (day + (10 - (j : Int)) * step) xs = true
    · rw [if_pos g] at h
      obtain rfl := Option.some.inj h
      exact ⟨g, 10 - (j : Int), by omega, by omega, rfl⟩
    · rw [if_neg g] at h
      exact near_from j x (by omega) h
theorem near_works {day step : Int} {xs : List Int} {x : Int} (h : near day step xs = some x) : (1 ≤ x ∧ x ≤ 3652059) ∧ ∃ k : Int, 0 ≤ k ∧ k ≤ 10 ∧ x = day + k * step := by
  obtain ⟨a, b⟩ := near_from 11 x (by omega) h
  exact ⟨(of_decide_eq_true a).1, b⟩

/-- The same month of the same year. -/
noncomputable def smB (a b : Int) : Bool := decide (dY a = dY b ∧ dM a = dM b)

set_option maxHeartbeats 1000000 in
theorem sameMonth_at (a b : Int) (a1 : 1 ≤ a) (a2 : a ≤ 3652059) (b1 : 1 ≤ b) (b2 : b ≤ 3652059) (g : Bool) (hg : smB a b = g) (w : World) (hA : TabA w) :
    Calls Tryz.prog 132 #[.int .i64 a, .int .i64 b] w fun e w' => e = .returned (.bool g) ∧ Up w w' := by
  obtain ⟨oka, ea⟩ := date_spec a a1 a2
  obtain ⟨okb, eb⟩ := date_spec b b1 b2
  unfold smB at hg
  generalize dY a = y at *
  generalize dM a = m at *
  generalize dK a = k at *
  generalize dY b = y' at *
  generalize dM b = m' at *
  generalize dK b = k' at *
  have CF : Hid (∀ w : World, TabA w → Calls Tryz.prog 103 #[.int .i64 a] w fun e w' => e = .returned (.tuple #[.agg #[.int .i64 y, .int .i64 m, .int .i64 k], .bool true]) ∧ ∃ o, w' = w.alloc o) := fun w hA => civil_at y m k a oka ea w hA
  have CT : Hid (∀ w : World, TabA w → Calls Tryz.prog 103 #[.int .i64 b] w fun e w' => e = .returned (.tuple #[.agg #[.int .i64 y', .int .i64 m', .int .i64 k'], .bool true]) ∧ ∃ o, w' = w.alloc o) := fun w hA => civil_at y' m' k' b okb eb w hA
  have HA : Hid (TabA w) := hA
  have HG : Hid (decide (y = y' ∧ m = m') = g) := hg
  clear hA hg ea eb oka okb a1 a2 b1 b2
  by_cases h : y = y'
  · go_enter Tryz.func132, Tryz.ntmps132
    go_wp2_with fail
    refine (CF.out _ (by repeat (first | exact HA.out | refine TabA.al ?_ _))).mono ?_
    rintro e w1 ⟨rfl, o1, hw⟩; rw [hw]; clear hw w1
    go_wp2_with fail
    refine (CT.out _ (by repeat (first | exact HA.out | refine TabA.al ?_ _))).mono ?_
    rintro e w1 ⟨rfl, o2, hw⟩; rw [hw]; clear hw w1
    go_wp2_with fail
    go_ret
    exact ⟨ret_bool (by rw [← HG.out, Bool.eq_iff_iff]; simp [h]), by repeat (first | exact Up.refl _ | refine up_drewN ?_ _ | refine Up.alloc ?_ _)⟩
  · go_enter Tryz.func132, Tryz.ntmps132
    go_wp2_with fail
    refine (CF.out _ (by repeat (first | exact HA.out | refine TabA.al ?_ _))).mono ?_
    rintro e w1 ⟨rfl, o1, hw⟩; rw [hw]; clear hw w1
    go_wp2_with fail
    refine (CT.out _ (by repeat (first | exact HA.out | refine TabA.al ?_ _))).mono ?_
    rintro e w1 ⟨rfl, o2, hw⟩; rw [hw]; clear hw w1
    go_wp2_with fail
    go_ret
    exact ⟨ret_bool (by rw [← HG.out, Bool.eq_iff_iff]; simp [h]), by repeat (first | exact Up.refl _ | refine up_drewN ?_ _ | refine Up.alloc ?_ _)⟩

/-- What Adjust answers. -/
noncomputable def adjO (day : Int) (xs : List Int) (rule : Int) : Option Int :=
  if ¬(1 ≤ day ∧ day ≤ 3652059) then none
  else if rule = 0 then some day
  else if rule = 1 then near day 1 xs
  else if rule = 2 then near day (-1) xs
  else if rule = 3 then (match near day 1 xs with | some n => if smB day n then some n else near day (-1) xs | none => near day (-1) xs)
  else none

set_option maxHeartbeats 2000000 in
theorem adjust_at (a : Option Addr) (cap : Nat) (xs : List Int) (day rule : Int) (r : Option Int) (hr : adjO day xs rule = r) (w : World) (hA : TabA w) (h : SlOk w a xs) :
    Calls Tryz.prog 112 #[.int .i64 day, .slice a xs.length cap, .int .i64 rule] w fun e w' => e = .returned (.tuple #[.int .i64 (optN r), .bool r.isSome]) ∧ Up w w' := by
  unfold adjO at hr
  by_cases hd : 1 ≤ day ∧ day ≤ 3652059
  · have ID : Hid (∀ w, Calls Tryz.prog 120 #[.int .i64 day] w fun e w' => e = .returned (.bool true) ∧ w' = w) := fun w => isDay_at day true (decide_eq_true hd) w
    have NR : Hid (∀ (step : Int) (r : Option Int) (w : World), SlOk w a xs → (step = 1 ∨ step = -1) → near day step xs = r → Calls Tryz.prog 131 #[.int .i64 day, .int .i64 step, .slice a xs.length cap] w fun e w' => e = .returned (.tuple #[.int .i64 (optN r), .bool r.isSome]) ∧ w' = w) := fun step r w h hs hr => nearest_at a cap xs day step r hr hd.1 hd.2 hs w h
    rw [if_neg (fun g => g hd)] at hr
    have HS : Hid (SlOk w a xs) := h
    have HA : Hid (TabA w) := hA
    clear h hA
    generalize hL : xs.length = L at *
    clear hL
    by_cases r0 : rule = 0
    · subst r0
      simp at hr
      subst hr
      clear NR hd
      go_enter Tryz.func112, Tryz.ntmps112
      go_wp2_with fail
      refine (ID.out _).mono ?_
      rintro e w1 ⟨rfl, hw⟩; rw [hw]; clear hw w1
      go_wp2_with fail
      go_ret2
      exact ⟨rfl, Up.refl _⟩
    rw [if_neg r0] at hr
    by_cases r1 : rule = 1
    · subst r1
      rw [if_pos rfl] at hr
      have N1 : Hid (∀ w : World, SlOk w a xs → Calls Tryz.prog 131 #[.int .i64 day, .int .i64 1, .slice a L cap] w fun e w' => e = .returned (.tuple #[.int .i64 (optN r), .bool r.isSome]) ∧ w' = w) := fun w h => NR.out 1 r w h (Or.inl rfl) hr
      clear NR hd hr
      go_enter Tryz.func112, Tryz.ntmps112
      go_wp2_with fail
      refine (ID.out _).mono ?_
      rintro e w1 ⟨rfl, hw⟩; rw [hw]; clear hw w1
      go_wp2_with fail
      refine (N1.out _ HS.out).mono ?_
      rintro e w1 ⟨rfl, hw⟩; rw [hw]; clear hw w1
      go_wp2_with fail
      go_ret2
      exact ⟨rfl, Up.refl _⟩
    rw [if_neg r1] at hr
    by_cases r2 : rule = 2
    · subst r2
      rw [if_pos rfl] at hr
      have N1 : Hid (∀ w : World, SlOk w a xs → Calls Tryz.prog 131 #[.int .i64 day, .int .i64 (-1), .slice a L cap] w fun e w' => e = .returned (.tuple #[.int .i64 (optN r), .bool r.isSome]) ∧ w' = w) := fun w h => NR.out (-1) r w h (Or.inr rfl) hr
      clear NR hd hr
      go_enter Tryz.func112, Tryz.ntmps112
      go_wp2_with fail
      refine (ID.out _).mono ?_
      rintro e w1 ⟨rfl, hw⟩; rw [hw]; clear hw w1
      go_wp2_with fail
      refine (N1.out _ HS.out).mono ?_
      rintro e w1 ⟨rfl, hw⟩; rw [hw]; clear hw w1
      go_wp2_with fail
      go_ret2
      exact ⟨rfl, Up.refl _⟩
    rw [if_neg r2] at hr
    by_cases r3 : rule = 3
    · subst r3
      rw [if_pos rfl] at hr
      obtain ⟨q, hq⟩ : ∃ q, near day 1 xs = q := ⟨_, rfl⟩
      rw [hq] at hr
      have N1 : Hid (∀ w : World, SlOk w a xs → Calls Tryz.prog 131 #[.int .i64 day, .int .i64 1, .slice a L cap] w fun e w' => e = .returned (.tuple #[.int .i64 (optN q), .bool q.isSome]) ∧ w' = w) := fun w h => NR.out 1 q w h (Or.inl rfl) hq
      cases q with
      | none =>
        simp only at hr
        have N2 : Hid (∀ w : World, SlOk w a xs → Calls Tryz.prog 131 #[.int .i64 day, .int .i64 (-1), .slice a L cap] w fun e w' => e = .returned (.tuple #[.int .i64 (optN r), .bool r.isSome]) ∧ w' = w) := fun w h => NR.out (-1) r w h (Or.inr rfl) hr
        clear NR hd hr hq
        simp only [optN, Option.isSome] at N1
        go_enter Tryz.func112, Tryz.ntmps112
        go_wp2_with fail
        refine (ID.out _).mono ?_
        rintro e w1 ⟨rfl, hw⟩; rw [hw]; clear hw w1
        go_wp2_with fail
        refine (N1.out _ HS.out).mono ?_
        rintro e w1 ⟨rfl, hw⟩; rw [hw]; clear hw w1
        go_wp2_with fail
        refine (N2.out _ HS.out).mono ?_
        rintro e w1 ⟨rfl, hw⟩; rw [hw]; clear hw w1
        go_wp2_with fail
        go_ret2
        exact ⟨rfl, Up.refl _⟩
      | some n =>
        simp only at hr
        obtain ⟨nr, _⟩ := near_works hq
        obtain ⟨g, hg⟩ : ∃ g, smB day n = g := ⟨_, rfl⟩
        rw [hg] at hr
        have SM : Hid (∀ w : World, TabA w → Calls Tryz.prog 132 #[.int .i64 day, .int .i64 n] w fun e w' => e = .returned (.bool g) ∧ Up w w') := fun w hA => sameMonth_at day n hd.1 hd.2 nr.1 nr.2 g hg w hA
        simp only [optN, Option.isSome] at N1
        cases g
        · rw [if_neg (by simp)] at hr
          have N2 : Hid (∀ w : World, SlOk w a xs → Calls Tryz.prog 131 #[.int .i64 day, .int .i64 (-1), .slice a L cap] w fun e w' => e = .returned (.tuple #[.int .i64 (optN r), .bool r.isSome]) ∧ w' = w) := fun w h => NR.out (-1) r w h (Or.inr rfl) hr
          clear NR hd hr hq hg nr
          go_enter Tryz.func112, Tryz.ntmps112
          go_wp2_with fail
          refine (ID.out _).mono ?_
          rintro e w1 ⟨rfl, hw⟩; rw [hw]; clear hw w1
          go_wp2_with fail
          refine (N1.out _ HS.out).mono ?_
          rintro e w1 ⟨rfl, hw⟩; rw [hw]; clear hw w1
          go_wp2_with fail
          refine (SM.out _ HA.out).mono ?_
          rintro e w2 ⟨rfl, U2⟩
          go_wp2_with fail
          refine (N2.out _ (HS.out.up U2)).mono ?_
          rintro e w1 ⟨rfl, hw⟩; rw [hw]; clear hw w1
          go_wp2_with fail
          go_ret2
          exact ⟨rfl, U2⟩
        · rw [if_pos rfl] at hr
          subst hr
          clear NR hd hq hg nr
          go_enter Tryz.func112, Tryz.ntmps112
          go_wp2_with fail
          refine (ID.out _).mono ?_
          rintro e w1 ⟨rfl, hw⟩; rw [hw]; clear hw w1
          go_wp2_with fail
          refine (N1.out _ HS.out).mono ?_
          rintro e w1 ⟨rfl, hw⟩; rw [hw]; clear hw w1
          go_wp2_with fail
          refine (SM.out _ HA.out).mono ?_
          rintro e w2 ⟨rfl, U2⟩
          go_wp2_with fail
          go_ret2
          exact ⟨rfl, U2⟩
    rw [if_neg r3] at hr
    subst hr
    clear NR hd
    go_enter Tryz.func112, Tryz.ntmps112
    go_wp2_with fail
    refine (ID.out _).mono ?_
    rintro e w1 ⟨rfl, hw⟩; rw [hw]; clear hw w1
    go_wp2_with fail
    go_ret2
    exact ⟨rfl, Up.refl _⟩
  · have ID : Hid (∀ w, Calls Tryz.prog 120 #[.int .i64 day] w fun e w' => e = .returned (.bool false) ∧ w' = w) := fun w => isDay_at day false (decide_eq_false hd) w
    rw [if_pos hd] at hr
    subst hr
    clear h hA hd
    generalize xs.length = L at *
    go_enter Tryz.func112, Tryz.ntmps112
    go_wp2_with fail
    refine (ID.out _).mono ?_
    rintro e w1 ⟨rfl, hw⟩; rw [hw]; clear hw w1
    go_wp2_with fail
    go_ret2
    exact ⟨rfl, Up.refl _⟩
end Go.Proofs.YtgdmkcbbomfmdaaGreatDoor
