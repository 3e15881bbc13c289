/-
  Ours: contracts of slices.Contains, calendar.Business, calendar.nearest.
-/
import Derived.Test.YtgdmkcbbomfmdaaGreatDoorCalRef2
namespace Go.Proofs.YtgdmkcbbomfmdaaGreatDoor
open Go.RowKit CalM

/-- A slice whose first cells hold the numbers xs. -/
def SlOk (w : World) (a : Option Addr) (xs : List Int) : Prop :=
  xs.length ≤ 9223372036854775807 ∧ (xs = [] ∨ ∃ b off : Nat, a = some ⟨b, off, none⟩ ∧ ∀ i, i < xs.length → w.cell? ⟨b, off + i, none⟩ = some (.int .i64 (xs.getD i 0)))
theorem SlOk.up {w w' : World} {a : Option Addr} {xs : List Int} (h : SlOk w a xs) (u : Up w w') : SlOk w' a xs := by
  obtain ⟨h1, h2⟩ := h
  refine ⟨h1, ?_⟩
  rcases h2 with h2 | ⟨b, off, h2, h3⟩
  · exact .inl h2
  · exact .inr ⟨b, off, h2, fun i hi => u.cell (h3 i hi)⟩
theorem slOk_nil (w : World) : SlOk w none [] := ⟨by simp, .inl rfl⟩

theorem getD_mem {xs : List Int} {i : Nat} (h : i < xs.length) : xs.getD i 0 ∈ xs := by
  rw [List.getD_eq_getElem?_getD, List.getElem?_eq_getElem h]; exact List.getElem_mem h
theorem not_mem_of {xs : List Int} {d : Int} (h : ∀ i, i < xs.length → xs.getD i 0 ≠ d) : d ∉ xs := by
  intro g
  obtain ⟨i, hi, e⟩ := List.mem_iff_getElem.1 g
  have := h i hi
  rw [List.getD_eq_getElem?_getD, List.getElem?_eq_getElem hi] at this
  exact this e

/-- What such a slice tells while its cells are looked through. -/
theorem SlOk.at {w : World} {a : Option Addr} {xs : List Int} (h : SlOk w a xs) {k : Nat} (hk : k < xs.length) : ∃ b off : Nat, a = some ⟨b, off, none⟩ ∧ w.cell? ⟨b, off + k, none⟩ = some (.int .i64 (xs.getD k 0)) := by
  rcases h.2 with g | ⟨b, off, g, hc⟩
  · rw [g] at hk; simp at hk
  · exact ⟨b, off, g, hc k hk⟩

set_option maxHeartbeats 1000000 in
theorem index_at (a : Option Addr) (cap : Nat) (xs : List Int) (d : Int) (w : World) (h : SlOk w a xs) :
    Calls Tryz.prog 145 #[.slice a xs.length cap, .int .i64 d] w fun e w' => (∃ n : Int, e = .returned (.int .i64 n) ∧ Hid (0 ≤ n ↔ d ∈ xs)) ∧ w' = w := by
  obtain ⟨L, hL⟩ : ∃ L, xs.length = L := ⟨_, rfl⟩
  have h1 := h.1
  have HC : Hid (SlOk w a xs) := h
  have HL : Hid (xs.length = L) := hL
  rw [hL] at h1
  rw [hL]
  clear h hL
  go_enter Tryz.func145, Tryz.ntmps145
  go_wp2_with fail
  go_loopw [8] (fun kk w' => w' = w ∧ ∃ k : Nat, k ≤ L ∧ kk = .int .i64 (k : Int) ∧ Hid (∀ i, i < k → xs.getD i 0 ≠ d)) (fun kk _ => L - (intOf kk).toNat)
  case atStart => exact ⟨rfl, 0, by omega, rfl, fun i hi => by omega⟩
  case round =>
    obtain ⟨rfl, k, hk, rfl, hne⟩ := hrel
    by_cases hlt : (k : Int) < (L : Int)
    · obtain ⟨b, off, rfl, cx⟩ := HC.out.at (k := k) (by rw [HL.out]; omega)
      by_cases he : d = xs.getD k 0
      · have MEM : Hid (d ∈ xs) := by rw [he]; exact getD_mem (by rw [HL.out]; omega)
        rw [← he] at cx
        go_wp2_with fail
        go_ret
        exact ⟨⟨_, rfl, ⟨fun _ => MEM.out, fun _ => by omega⟩⟩, rfl⟩
      · have HE : Hid (xs.getD k 0 ≠ d) := fun g => he g.symm
        have NE : Hid (∀ i, i < k + 1 → xs.getD i 0 ≠ d) := fun i hi => by
          rcases Nat.lt_or_ge i k with g | g
          · exact hne.out i g
          · obtain rfl : i = k := by omega
            exact HE.out
        generalize xs.getD k 0 = x at *
        have hb : (d == x) = false := by rw [beq_eq_false_iff_ne]; exact he
        go_wp2_with fail
        go_roundw
        case rel =>
          exact ⟨trivial, k + 1, by omega, by go_num, NE.out⟩
        case measure => simp [intOf]; omega
    · obtain rfl : k = L := by omega
      go_wp2_with fail
      go_ret
      exact ⟨⟨_, rfl, ⟨fun g => by omega, fun g => absurd g (not_mem_of (fun i hi => hne.out i (by rw [← HL.out]; exact hi)))⟩⟩, rfl⟩
end Go.Proofs.YtgdmkcbbomfmdaaGreatDoor

namespace Go.Proofs.YtgdmkcbbomfmdaaGreatDoor
open Go.RowKit CalM

theorem contains_at (a : Option Addr) (cap : Nat) (xs : List Int) (d : Int) (w : World) (h : SlOk w a xs) (b : Bool) (hb : decide (d ∈ xs) = b) :
    Calls Tryz.prog 143 #[.slice a xs.length cap, .int .i64 d] w fun e w' => e = .returned (.bool b) ∧ w' = w := by
  have IX : Hid (Calls Tryz.prog 145 #[.slice a xs.length cap, .int .i64 d] w fun e w' => (∃ n : Int, e = .returned (.int .i64 n) ∧ Hid (0 ≤ n ↔ d ∈ xs)) ∧ w' = w) := index_at a cap xs d w h
  have HB : Hid (decide (d ∈ xs) = b) := hb
  clear h hb
  generalize xs.length = L at *
  go_enter Tryz.func143, Tryz.ntmps143
  go_wp2_with fail
  refine (IX.out).mono ?_
  rintro e w1 ⟨⟨n, rfl, hn⟩, hw⟩; rw [hw]; clear hw w1
  go_wp2_with fail
  go_ret
  exact ⟨ret_bool (by rw [← HB.out, decide_eq_decide]; exact hn.out), rfl⟩

/-- Is the day a business day? -/
def workB (d : Int) (xs : List Int) : Bool := decide ((1 ≤ d ∧ d ≤ 3652059) ∧ (d - 1) % 7 < 5 ∧ d ∉ xs)

theorem business_at (a : Option Addr) (cap : Nat) (xs : List Int) (d : Int) (w : World) (h : SlOk w a xs) (b : Bool) (hb : workB d xs = b) :
    Calls Tryz.prog 140 #[.int .i64 d, .slice a xs.length cap] w fun e w' => e = .returned (.bool b) ∧ w' = w := by
  by_cases hd : 1 ≤ d ∧ d ≤ 3652059
  · have WD : Hid (∀ w, Calls Tryz.prog 142 #[.int .i64 d] w fun e w' => e = .returned (.tuple #[.int .i64 ((d - 1) % 7 + 1), .bool true]) ∧ w' = w) := fun w => weekday_at d _ hd.1 hd.2 rfl w
    obtain ⟨c, hc⟩ : ∃ c, decide (d ∈ xs) = c := ⟨_, rfl⟩
    have CO : Hid (Calls Tryz.prog 143 #[.slice a xs.length cap, .int .i64 d] w fun e w' => e = .returned (.bool c) ∧ w' = w) := contains_at a cap xs d w h c hc
    have HB : Hid ((decide ((d - 1) % 7 < 5) && !c) = b) := by
      show (decide ((d - 1) % 7 < 5) && !c) = b
      rw [← hb, ← hc]; unfold workB
      rw [Bool.eq_iff_iff]; simp [hd]
    clear h hb hc
    generalize xs.length = L at *
    by_cases hw : (d - 1) % 7 < 5
    · generalize (d - 1) % 7 = r at *
      have t1 : r + 1 ≤ 5 := by omega
      go_enter Tryz.func140, Tryz.ntmps140
      go_wp2_with fail
      refine (WD.out _).mono ?_
      rintro e w1 ⟨rfl, hw⟩; rw [hw]; clear hw w1
      go_wp2_with fail
      refine (CO.out).mono ?_
      rintro e w1 ⟨rfl, hw⟩; rw [hw]; clear hw w1
      go_wp2_with fail
      go_ret
      exact ⟨ret_bool (by rw [← HB.out, decide_eq_true hw]; simp), rfl⟩
    · generalize (d - 1) % 7 = r at *
      have t1 : ¬ r + 1 ≤ 5 := by omega
      go_enter Tryz.func140, Tryz.ntmps140
      go_wp2_with fail
      refine (WD.out _).mono ?_
      rintro e w1 ⟨rfl, hw⟩; rw [hw]; clear hw w1
      go_wp2_with fail
      go_ret
      exact ⟨ret_bool (by rw [← HB.out, decide_eq_false (by omega)]; simp), rfl⟩
  · have WN : Hid (∀ w, Calls Tryz.prog 142 #[.int .i64 d] w fun e w' => e = .returned (.tuple #[.int .i64 0, .bool false]) ∧ w' = w) := fun w => weekday_no d hd w
    have hb' : b = false := by rw [← hb]; exact decide_eq_false (fun g => hd g.1)
    subst hb'
    clear h hb hd
    generalize xs.length = L at *
    go_enter Tryz.func140, Tryz.ntmps140
    go_wp2_with fail
    refine (WN.out _).mono ?_
    rintro e w1 ⟨rfl, hw⟩; rw [hw]; clear hw w1
    go_wp2_with fail
    go_ret
    exact ⟨rfl, rfl⟩

/-- The first business day from a day on, in so many steps. -/
def nearFrom (day step : Int) (xs : List Int) : Nat → Option Int
  | 0 => none
  | j + 1 => if workB (day + (10 - (j : Int)) * step) xs then some (day + (10 - (j : Int)) * step) else nearFrom day step xs j
def near (day step : Int) (xs : List Int) : Option Int := nearFrom day step xs 11
def optN : Option Int → Int
  | some x => x
  | none => 0

theorem near_yes {day step : Int} {xs : List Int} {k : Nat} (hk : k < 11) (h : workB (day + (k : Int) * step) xs = true) : nearFrom day step xs (11 - k) = some (day + (k : Int) * step) := by
  obtain ⟨j, hj⟩ : ∃ j, 11 - k = j + 1 := ⟨10 - k, by omega⟩
  have e : (10 : Int) - (j : Int) = (k : Int) := by omega
  rw [hj]; unfold nearFrom; rw [e, if_pos h]
theorem near_no {day step : Int} {xs : List Int} {k : Nat} (hk : k < 11) (h : workB (day + (k : Int) * step) xs = false) : nearFrom day step xs (11 - k) = nearFrom day step xs (11 - (k + 1)) := by
  obtain ⟨j, hj⟩ : ∃ j, 11 - k = j + 1 := ⟨10 - k, by omega⟩
  have e : (10 : Int) - (j : Int) = (k : Int) := by omega
  have e2 : 11 - (k + 1) = j := by omega
  rw [hj, e2]
  conv => lhs; unfold nearFrom
  rw [e, if_neg (by rw [h]; simp)]

set_option maxHeartbeats 1000000 in
theorem nearest_at (a : Option Addr) (cap : Nat) (xs : List Int) (day step : Int) (r : Option Int) (hr : near day step xs = r) (d1 : 1 ≤ day) (d2 : day ≤ 3652059) (s1 : step = 1 ∨ step = -1) (w : World) (h : SlOk w a xs) :
    Calls Tryz.prog 131 #[.int .i64 day, .int .i64 step, .slice a xs.length cap] w fun e w' => e = .returned (.tuple #[.int .i64 (optN r), .bool r.isSome]) ∧ w' = w := by
  have BU : Hid (∀ (d : Int) (b : Bool), workB d xs = b → Calls Tryz.prog 140 #[.int .i64 d, .slice a xs.length cap] w fun e w' => e = .returned (.bool b) ∧ w' = w) := fun d b hb => business_at a cap xs d w h b hb
  have HR : Hid (near day step xs = r) := hr
  clear h hr
  generalize hL : xs.length = L at *
  clear hL
  rcases s1 with rfl | rfl
  · go_enter Tryz.func131, Tryz.ntmps131
    go_wp2_with fail
    go_loopw [10] (fun kk w' => w' = w ∧ ∃ k : Nat, k ≤ 11 ∧ kk = .int .i64 (k : Int) ∧ Hid (nearFrom day 1 xs (11 - k) = r)) (fun kk _ => 11 - (intOf kk).toNat)
    case atStart => exact ⟨rfl, 0, by omega, rfl, HR.out⟩
    case round =>
      obtain ⟨rfl, k, hk, rfl, hne⟩ := hrel
      by_cases hlt : (k : Int) < 11
      · obtain ⟨b, hb⟩ : ∃ b, workB (day + (k : Int) * 1) xs = b := ⟨_, rfl⟩
        have ev : day + (k : Int) * 1 = day + (k : Int) := by omega
        have B1 : Hid (Calls Tryz.prog 140 #[.int .i64 (day + (k : Int)), .slice a L cap] wr fun e w' => e = .returned (.bool b) ∧ w' = wr) := BU.out _ b (by rw [← ev]; exact hb)
        cases b
        · have NX : Hid (nearFrom day 1 xs (11 - (k + 1)) = r) := (near_no (by omega) hb).symm.trans hne.out
          clear hb ev
          go_wp2_with fail
          refine (B1.out).mono ?_
          rintro e w1 ⟨rfl, hw⟩; rw [hw]; clear hw w1
          go_wp2_with fail
          go_roundw
          case rel => exact ⟨trivial, k + 1, by omega, by go_num, NX.out⟩
          case measure => simp [intOf]; omega
        · have FD : Hid (some (day + (k : Int)) = r) := by rw [← ev]; exact (near_yes (by omega) hb).symm.trans hne.out
          clear hb ev
          go_wp2_with fail
          refine (B1.out).mono ?_
          rintro e w1 ⟨rfl, hw⟩; rw [hw]; clear hw w1
          go_wp2_with fail
          go_ret2
          rw [← FD.out]
          exact ⟨rfl, rfl⟩
      · obtain rfl : k = 11 := by omega
        have NO : Hid (none = r) := hne.out
        go_wp2_with fail
        go_ret2
        rw [← NO.out]
        exact ⟨rfl, rfl⟩
  · go_enter Tryz.func131, Tryz.ntmps131
    go_wp2_with fail
    go_loopw [10] (fun kk w' => w' = w ∧ ∃ k : Nat, k ≤ 11 ∧ kk = .int .i64 (k : Int) ∧ Hid (nearFrom day (-1) xs (11 - k) = r)) (fun kk _ => 11 - (intOf kk).toNat)
    case atStart => exact ⟨rfl, 0, by omega, rfl, HR.out⟩
    case round =>
      obtain ⟨rfl, k, hk, rfl, hne⟩ := hrel
      by_cases hlt : (k : Int) < 11
      · obtain ⟨b, hb⟩ : ∃ b, workB (day + (k : Int) * (-1)) xs = b := ⟨_, rfl⟩
        have ev : day + (k : Int) * (-1) = day + -(k : Int) := by omega
        have B1 : Hid (Calls Tryz.prog 140 #[.int .i64 (day + -(k : Int)), .slice a L cap] wr fun e w' => e = .returned (.bool b) ∧ w' = wr) := BU.out _ b (by rw [← ev]; exact hb)
        cases b
        · have NX : Hid (nearFrom day (-1) xs (11 - (k + 1)) = r) := (near_no (by omega) hb).symm.trans hne.out
          clear hb ev
          go_wp2_with fail
          refine (B1.out).mono ?_
          rintro e w1 ⟨rfl, hw⟩; rw [hw]; clear hw w1
          go_wp2_with fail
          go_roundw
          case rel => exact ⟨trivial, k + 1, by omega, by go_num, NX.out⟩
          case measure => simp [intOf]; omega
        · have FD : Hid (some (day + -(k : Int)) = r) := by rw [← ev]; exact (near_yes (by omega) hb).symm.trans hne.out
          clear hb ev
          go_wp2_with fail
          refine (B1.out).mono ?_
          rintro e w1 ⟨rfl, hw⟩; rw [hw]; clear hw w1
          go_wp2_with fail
          go_ret2
          rw [← FD.out]
          exact ⟨rfl, rfl⟩
      · obtain rfl : k = 11 := by omega
        have NO : Hid (none = r) := hne.out
        go_wp2_with fail
        go_ret2
        rw [← NO.out]
        exact ⟨rfl, rfl⟩
end Go.Proofs.YtgdmkcbbomfmdaaGreatDoor
