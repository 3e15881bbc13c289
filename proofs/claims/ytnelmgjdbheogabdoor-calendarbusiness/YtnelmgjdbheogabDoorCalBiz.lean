/-
  Ours: contracts of the statements' own look at holidays and business days; the walk of CalendarBusiness.
-/
import Derived.Test.YtnelmgjdbheogabDoorCalAdj
namespace Go.Proofs.YtnelmgjdbheogabDoor
open Go.RowKit CalM

set_option maxHeartbeats 1000000 in
theorem holiday_at (a : Option Addr) (cap : Nat) (xs : List Int) (d : Int) (w : World) (h : SlOk w a xs) (b : Bool) (hb : decide (d ∈ xs) = b) :
    Calls Tryd.prog 39 #[.int .i64 d, .slice a xs.length cap] w fun e w' => e = .returned (.bool b) ∧ w' = w := by
  obtain ⟨L, hL⟩ : ∃ L, xs.length = L := ⟨_, rfl⟩
  have h1 := h.1
  have HC : Hid (SlOk w a xs) := h
  have HL : Hid (xs.length = L) := hL
  have HB : Hid (decide (d ∈ xs) = b) := hb
  rw [hL] at h1
  rw [hL]
  clear h hL hb
  go_enter Tryd.func39, Tryd.ntmps39
  go_wp2_with fail
  go_loopw [5] (fun kk w' => w' = w ∧ ∃ k : Nat, k ≤ L ∧ kk = .int .i64 (k : Int) ∧ Hid (∀ i, i < k → xs.getD i 0 ≠ d)) (fun kk _ => L - (intOf kk).toNat)
  case atStart => exact ⟨rfl, 0, by omega, rfl, fun i hi => by omega⟩
  case round =>
    obtain ⟨rfl, k, hk, rfl, hne⟩ := hrel
    by_cases hlt : (k : Int) < (L : Int)
    · obtain ⟨g, off, rfl, cx⟩ := HC.out.at (k := k) (by rw [HL.out]; omega)
      by_cases he : xs.getD k 0 = d
      · have MEM : Hid (d ∈ xs) := by rw [← he]; exact getD_mem (by rw [HL.out]; omega)
        rw [he] at cx
        go_wp2_with fail
        go_ret
        exact ⟨ret_bool (by rw [← HB.out, decide_eq_true MEM.out]), rfl⟩
      · have HE : Hid (xs.getD k 0 ≠ d) := he
        have NE : Hid (∀ i, i < k + 1 → xs.getD i 0 ≠ d) := fun i hi => by
          rcases Nat.lt_or_ge i k with g | g
          · exact hne.out i g
          · obtain rfl : i = k := by omega
            exact HE.out
        generalize xs.getD k 0 = x at *
        have hb : (x == d) = false := by rw [beq_eq_false_iff_ne]; exact he
        go_wp2_with fail
        go_roundw
        case rel => exact ⟨trivial, k + 1, by omega, by go_num, NE.out⟩
        case measure => simp [intOf]; omega
    · obtain rfl : k = L := by omega
      go_wp2_with fail
      go_ret
      exact ⟨ret_bool (by rw [← HB.out, decide_eq_false (not_mem_of (fun i hi => hne.out i (by rw [← HL.out]; exact hi)))]), rfl⟩

theorem works_at (a : Option Addr) (cap : Nat) (xs : List Int) (d : Int) (w : World) (h : SlOk w a xs) (b : Bool) (hb : workB d xs = b) :
    Calls Tryd.prog 18 #[.int .i64 d, .slice a xs.length cap] w fun e w' => e = .returned (.bool b) ∧ w' = w := by
  obtain ⟨c, hc⟩ : ∃ c, decide (d ∈ xs) = c := ⟨_, rfl⟩
  have CO : Hid (Calls Tryd.prog 39 #[.int .i64 d, .slice a xs.length cap] w fun e w' => e = .returned (.bool c) ∧ w' = w) := holiday_at a cap xs d w h c hc
  have HB : Hid ((decide ((1 ≤ d ∧ d ≤ 3652059) ∧ (d - 1) % 7 < 5) && !c) = b) := by
    show (decide ((1 ≤ d ∧ d ≤ 3652059) ∧ (d - 1) % 7 < 5) && !c) = b
    rw [← hb, ← hc]; unfold workB
    rw [Bool.eq_iff_iff]; simp [and_assoc]
  clear h hb hc
  generalize xs.length = L at *
  by_cases d1 : 1 ≤ d
  · by_cases d2 : d ≤ 3652059
    · by_cases d3 : (d - 1) % 7 < 5
      · go_enter Tryd.func18, Tryd.ntmps18
        go_wp2_with fail
        refine (CO.out).mono ?_
        rintro e w1 ⟨rfl, hw⟩; rw [hw]; clear hw w1
        go_wp2_with fail
        go_ret
        exact ⟨ret_bool (by rw [← HB.out, decide_eq_true ⟨⟨d1, d2⟩, d3⟩]; simp), rfl⟩
      · go_enter Tryd.func18, Tryd.ntmps18
        go_wp2_with fail
        go_ret
        exact ⟨ret_bool (by rw [← HB.out, decide_eq_false (by omega)]; simp), rfl⟩
    · go_enter Tryd.func18, Tryd.ntmps18
      go_wp2_with fail
      go_ret
      exact ⟨ret_bool (by rw [← HB.out, decide_eq_false (by omega)]; simp), rfl⟩
  · go_enter Tryd.func18, Tryd.ntmps18
    go_wp2_with fail
    go_ret
    exact ⟨ret_bool (by rw [← HB.out, decide_eq_false (by omega)]; simp), rfl⟩

set_option maxHeartbeats 1000000 in
theorem lawNearest_at (a : Option Addr) (cap : Nat) (xs : List Int) (day step : Int) (r : Option Int) (hr : near day step xs = r) (d1 : 1 ≤ day) (d2 : day ≤ 3652059) (s1 : step = 1 ∨ step = -1) (w : World) (h : SlOk w a xs) :
    Calls Tryd.prog 20 #[.int .i64 day, .slice a xs.length cap, .int .i64 step] w fun e w' => e = .returned (.int .i64 (optN r)) ∧ w' = w := by
  have BU : Hid (∀ (d : Int) (b : Bool), workB d xs = b → Calls Tryd.prog 18 #[.int .i64 d, .slice a xs.length cap] w fun e w' => e = .returned (.bool b) ∧ w' = w) := fun d b hb => works_at a cap xs d w h b hb
  have HR : Hid (near day step xs = r) := hr
  clear h hr
  generalize hL : xs.length = L at *
  clear hL
  rcases s1 with rfl | rfl
  · go_enter Tryd.func20, Tryd.ntmps20
    go_wp2_with fail
    go_loopw [7] (fun kk w' => w' = w ∧ ∃ k : Nat, k ≤ 11 ∧ kk = .int .i64 (k : Int) ∧ Hid (nearFrom day 1 xs (11 - k) = r)) (fun kk _ => 11 - (intOf kk).toNat)
    case atStart => exact ⟨rfl, 0, by omega, rfl, HR.out⟩
    case round =>
      obtain ⟨rfl, k, hk, rfl, hne⟩ := hrel
      by_cases hlt : (k : Int) < 11
      · obtain ⟨b, hb⟩ : ∃ b, workB (day + (k : Int) * 1) xs = b := ⟨_, rfl⟩
        have ev : day + (k : Int) * 1 = day + (k : Int) := by omega
        have B1 : Hid (Calls Tryd.prog 18 #[.int .i64 (day + (k : Int)), .slice a L cap] wr fun e w' => e = .returned (.bool b) ∧ w' = wr) := BU.out _ b (by rw [← ev]; exact hb)
        cases b
        · have NX : Hid (nearFrom day 1 xs (11 - (k + 1)) = r) := (near_no (by omega) hb).symm.trans hne.out
          clear hb ev
          go_wp2_with fail
          refine (B1.out).mono ?_
          rintro e w1 ⟨rfl, hw⟩; rw [hw]; clear hw w1
          go_wp2_with fail
          go_roundw
          case rel => exact ⟨trivial, k + 1, by omega, by go_num, NX.out⟩
          case measure => simp [intOf]; omega
        · have FD : Hid (some (day + (k : Int)) = r) := by rw [← ev]; exact (near_yes (by omega) hb).symm.trans hne.out
          clear hb ev
          go_wp2_with fail
          refine (B1.out).mono ?_
          rintro e w1 ⟨rfl, hw⟩; rw [hw]; clear hw w1
          go_wp2_with fail
          go_ret
          rw [← FD.out]
          exact ⟨rfl, rfl⟩
      · obtain rfl : k = 11 := by omega
        have NO : Hid (none = r) := hne.out
        go_wp2_with fail
        go_ret
        rw [← NO.out]
        exact ⟨rfl, rfl⟩
  · go_enter Tryd.func20, Tryd.ntmps20
    go_wp2_with fail
    go_loopw [7] (fun kk w' => w' = w ∧ ∃ k : Nat, k ≤ 11 ∧ kk = .int .i64 (k : Int) ∧ Hid (nearFrom day (-1) xs (11 - k) = r)) (fun kk _ => 11 - (intOf kk).toNat)
    case atStart => exact ⟨rfl, 0, by omega, rfl, HR.out⟩
    case round =>
      obtain ⟨rfl, k, hk, rfl, hne⟩ := hrel
      by_cases hlt : (k : Int) < 11
      · obtain ⟨b, hb⟩ : ∃ b, workB (day + (k : Int) * (-1)) xs = b := ⟨_, rfl⟩
        have ev : day + (k : Int) * (-1) = day + -(k : Int) := by omega
        have B1 : Hid (Calls Tryd.prog 18 #[.int .i64 (day + -(k : Int)), .slice a L cap] wr fun e w' => e = .returned (.bool b) ∧ w' = wr) := BU.out _ b (by rw [← ev]; exact hb)
        cases b
        · have NX : Hid (nearFrom day (-1) xs (11 - (k + 1)) = r) := (near_no (by omega) hb).symm.trans hne.out
          clear hb ev
          go_wp2_with fail
          refine (B1.out).mono ?_
          rintro e w1 ⟨rfl, hw⟩; rw [hw]; clear hw w1
          go_wp2_with fail
          go_roundw
          case rel => exact ⟨trivial, k + 1, by omega, by go_num, NX.out⟩
          case measure => simp [intOf]; omega
        · have FD : Hid (some (day + -(k : Int)) = r) := by rw [← ev]; exact (near_yes (by omega) hb).symm.trans hne.out
          clear hb ev
          go_wp2_with fail
          refine (B1.out).mono ?_
          rintro e w1 ⟨rfl, hw⟩; rw [hw]; clear hw w1
          go_wp2_with fail
          go_ret
          rw [← FD.out]
          exact ⟨rfl, rfl⟩
      · obtain rfl : k = 11 := by omega
        have NO : Hid (none = r) := hne.out
        go_wp2_with fail
        go_ret
        rw [← NO.out]
        exact ⟨rfl, rfl⟩
end Go.Proofs.YtnelmgjdbheogabDoor
