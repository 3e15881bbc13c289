/-
  Ours: the contract of the statements' own plays; the walk of CalendarExact.
-/
import Derived.Test.YtnelmgjdbheogacDoorCalDates
import Derived.Test.YtnelmgjdbheogacDoorCalDays
import Derived.Test.YtnelmgjdbheogacDoorCalMon2
import Derived.Test.YtnelmgjdbheogacDoorCalBet2
import Derived.Test.YtnelmgjdbheogacDoorCalAdjs
import Derived.Test.YtnelmgjdbheogacDoorCalTxt3
namespace Go.Proofs.YtnelmgjdbheogacDoor
open Go.RowKit CalM

/-- An int64. -/
def I64 (n : Int) : Prop := -9223372036854775808 ≤ n ∧ n ≤ 9223372036854775807
/-- The cells of one call of a play. -/
def OpIs (w : World) (kd A B C : Int) (s : Option Addr) (zs : List Int) : Prop := I64 kd ∧ I64 A ∧ I64 B ∧ I64 C ∧ SlOk w s zs

set_option maxRecDepth 100000 in
set_option maxHeartbeats 2000000 in
theorem plays_at (kd A B C : Int) (s : Option Addr) (cap : Nat) (zs : List Int) (t : List UInt8) (w : World) (ho : OpIs w kd A B C s zs) (hP : TabP w) (hL : TabL w) (hA : TabA w) :
    Calls Tryd.prog 9 #[.agg #[.int .i64 kd, .int .i64 A, .int .i64 B, .int .i64 C, .slice s zs.length cap, .string ⟨t.toArray⟩]] w fun e w' => e = .returned (.bool true) ∧ Up w w' := by
  obtain ⟨_, ⟨a1, a2⟩, ⟨b1, b2⟩, ⟨c1, c2⟩, hs⟩ := ho
  have W1 : Hid (∀ w : World, TabL w → TabA w → Calls Tryd.prog 19 #[.int .i64 A, .int .i64 B, .int .i64 C] w fun e w' => e = .returned (.bool true) ∧ Up w w') := fun w hL hA => dates_walk A a1 a2 B b1 b2 C c1 c2 w hL hA
  have W2 : Hid (∀ w : World, TabA w → Calls Tryd.prog 10 #[.int .i64 A] w fun e w' => e = .returned (.bool true) ∧ Up w w') := fun w hA => days_walk A a1 a2 w hA
  have W3 : Hid (∀ w : World, TabL w → TabA w → Calls Tryd.prog 20 #[.int .i64 A, .int .i64 B, .int .i64 C] w fun e w' => e = .returned (.bool true) ∧ Up w w') := fun w hL hA => months_walk A a1 a2 B b1 b2 C c1 c2 w hL hA
  have W4 : Hid (∀ w : World, TabA w → SlOk w s zs → Calls Tryd.prog 21 #[.int .i64 A, .slice s zs.length cap, .int .i64 B] w fun e w' => e = .returned (.bool true) ∧ Up w w') := fun w hA h => adjs_walk s cap zs A a1 a2 B b1 b2 w hA h
  have W5 : Hid (∀ w : World, TabA w → Calls Tryd.prog 22 #[.int .i64 A, .int .i64 B, .int .i64 C] w fun e w' => e = .returned (.bool true) ∧ Up w w') := fun w hA => bets_walk A a1 a2 B b1 b2 C c1 c2 w hA
  have W6 : Hid (∀ w : World, TabP w → TabL w → TabA w → Calls Tryd.prog 3 #[.string ⟨t.toArray⟩, .int .i64 A] w fun e w' => e = .returned (.bool true) ∧ Up w w') := fun w hP hL hA => texts_walk t A a1 a2 w hP hL hA
  have HA : Hid (TabA w) := hA
  have HL : Hid (TabL w) := hL
  have HP : Hid (TabP w) := hP
  have HS : Hid (SlOk w s zs) := hs
  clear hA hL hP hs a1 a2 b1 b2 c1 c2
  generalize zs.length = L at *
  go_enter Tryd.func9, Tryd.ntmps9
  go_wp2_with fail
  · refine (W1.out _ (HL.out.al _) (HA.out.al _)).mono ?_
    rintro e w1 ⟨rfl, V1⟩
    have U1 : Hid (Up w w1) := Up.trans ((Up.refl w).alloc _) V1
    clear V1
    go_wp2_with fail
    go_ret
    exact ⟨rfl, U1.out⟩
  · refine (W2.out _ (HA.out.al _)).mono ?_
    rintro e w1 ⟨rfl, V1⟩
    have U1 : Hid (Up w w1) := Up.trans ((Up.refl w).alloc _) V1
    clear V1
    go_wp2_with fail
    go_ret
    exact ⟨rfl, U1.out⟩
  · refine (W3.out _ (HL.out.al _) (HA.out.al _)).mono ?_
    rintro e w1 ⟨rfl, V1⟩
    have U1 : Hid (Up w w1) := Up.trans ((Up.refl w).alloc _) V1
    clear V1
    go_wp2_with fail
    go_ret
    exact ⟨rfl, U1.out⟩
  · refine (W4.out _ (HA.out.al _) (HS.out.up ((Up.refl w).alloc _))).mono ?_
    rintro e w1 ⟨rfl, V1⟩
    have U1 : Hid (Up w w1) := Up.trans ((Up.refl w).alloc _) V1
    clear V1
    go_wp2_with fail
    go_ret
    exact ⟨rfl, U1.out⟩
  · refine (W5.out _ (HA.out.al _)).mono ?_
    rintro e w1 ⟨rfl, V1⟩
    have U1 : Hid (Up w w1) := Up.trans ((Up.refl w).alloc _) V1
    clear V1
    go_wp2_with fail
    go_ret
    exact ⟨rfl, U1.out⟩
  · refine (W6.out _ (HP.out.al _) (HL.out.al _) (HA.out.al _)).mono ?_
    rintro e w1 ⟨rfl, V1⟩
    have U1 : Hid (Up w w1) := Up.trans ((Up.refl w).alloc _) V1
    clear V1
    go_wp2_with fail
    go_ret
    exact ⟨rfl, U1.out⟩
  · go_ret
    exact ⟨rfl, (Up.refl w).alloc _⟩

/-- A script: so many calls, each six cells. -/
def ScrOk (w : World) (a : Option Addr) (n : Nat) : Prop :=
  n ≤ 9223372036854775807 ∧ (n = 0 ∨ ∃ b off : Nat, a = some ⟨b, off, none⟩ ∧ ∀ i, i < n → ∃ (kd A B C : Int) (s : Option Addr) (cap : Nat) (zs : List Int) (t : List UInt8), OpIs w kd A B C s zs ∧
    w.cell? ⟨b, off + i * 6, none⟩ = some (.int .i64 kd) ∧ w.cell? ⟨b, off + i * 6 + 1, none⟩ = some (.int .i64 A) ∧ w.cell? ⟨b, off + i * 6 + 2, none⟩ = some (.int .i64 B) ∧ w.cell? ⟨b, off + i * 6 + 3, none⟩ = some (.int .i64 C) ∧
    w.cell? ⟨b, off + i * 6 + 4, none⟩ = some (.slice s zs.length cap) ∧ w.cell? ⟨b, off + i * 6 + 5, none⟩ = some (.string ⟨t.toArray⟩))

set_option maxRecDepth 100000 in
set_option maxHeartbeats 2000000 in
theorem exact_walk (a : Option Addr) (n cap : Nat) (w : World) (h : ScrOk w a n) (hP : TabP w) (hL : TabL w) (hA : TabA w) :
    Calls Tryd.prog 4 #[.slice a n cap] w fun e w' => e = .returned (.bool true) ∧ Up w w' := by
  obtain ⟨h1, h2⟩ := h
  have H2 : Hid (n = 0 ∨ ∃ b off : Nat, a = some ⟨b, off, none⟩ ∧ ∀ i, i < n → ∃ (kd A B C : Int) (s : Option Addr) (cap : Nat) (zs : List Int) (t : List UInt8), OpIs w kd A B C s zs ∧
    w.cell? ⟨b, off + i * 6, none⟩ = some (.int .i64 kd) ∧ w.cell? ⟨b, off + i * 6 + 1, none⟩ = some (.int .i64 A) ∧ w.cell? ⟨b, off + i * 6 + 2, none⟩ = some (.int .i64 B) ∧ w.cell? ⟨b, off + i * 6 + 3, none⟩ = some (.int .i64 C) ∧
    w.cell? ⟨b, off + i * 6 + 4, none⟩ = some (.slice s zs.length cap) ∧ w.cell? ⟨b, off + i * 6 + 5, none⟩ = some (.string ⟨t.toArray⟩)) := h2
  have HA : Hid (TabA w) := hA
  have HL : Hid (TabL w) := hL
  have HP : Hid (TabP w) := hP
  clear hA hL hP h2
  go_enter Tryd.func4, Tryd.ntmps4
  go_wp2_with fail
  go_loopw [3] (fun ii wr => ∃ k : Nat, k ≤ n ∧ ii = .int .i64 (k : Int) ∧ Hid (Up w wr)) (fun ii _ => n - (intOf ii).toNat)
  case atStart => exact ⟨0, by omega, rfl, Up.refl w⟩
  case round =>
    obtain ⟨k, hk, rfl, U⟩ := hrel
    by_cases hlt : (k : Int) < (n : Int)
    · rcases H2.out with h0 | ⟨b, off, rfl, hc⟩
      · omega
      · obtain ⟨kd, A, B, C, s, c, zs, t, ho, e0, e1, e2, e3, e4, e5⟩ := hc k (by omega)
        have f0 := U.out.cell e0
        have f1 := U.out.cell e1
        have f2 := U.out.cell e2
        have f3 := U.out.cell e3
        have f4 := U.out.cell e4
        have f5 := U.out.cell e5
        have PL : Hid (Calls Tryd.prog 9 #[.agg #[.int .i64 kd, .int .i64 A, .int .i64 B, .int .i64 C, .slice s zs.length c, .string ⟨t.toArray⟩]] wr fun e w' => e = .returned (.bool true) ∧ Up wr w') :=
          plays_at kd A B C s c zs t wr ⟨ho.1, ho.2.1, ho.2.2.1, ho.2.2.2.1, ho.2.2.2.2.up U.out⟩ (HP.out.up U.out) (HL.out.up U.out) (HA.out.up U.out)
        clear hc ho e0 e1 e2 e3 e4 e5 H2
        generalize zs.length = Z at *
        go_wp2_with fail
        refine (PL.out).mono ?_
        rintro e w1 ⟨rfl, V1⟩
        have U1 : Hid (Up w w1) := U.out.trans V1
        clear V1
        go_wp2_with fail
        go_roundw
        case rel => exact ⟨k + 1, by omega, by go_num, U1.out⟩
        case measure => simp [intOf]; omega
    · have D1 : Hid (∀ w : World, TabA w → Calls Tryd.prog 10 #[.int .i64 1] w fun e w' => e = .returned (.bool true) ∧ Up w w') := fun w hA => days_walk 1 (by omega) (by omega) w hA
      go_wp2_with fail
      refine (D1.out _ (HA.out.up U.out)).mono ?_
      rintro e w1 ⟨rfl, V1⟩
      have U1 : Hid (Up w w1) := U.out.trans V1
      clear V1
      go_wp2_with fail
      go_ret
      exact ⟨rfl, U1.out⟩
end Go.Proofs.YtnelmgjdbheogacDoor
