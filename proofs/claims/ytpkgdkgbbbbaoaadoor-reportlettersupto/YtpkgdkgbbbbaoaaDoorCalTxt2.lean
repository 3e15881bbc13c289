/-
  Ours: the contract of calendar.ParseDate.
-/
import Derived.Test.YtpkgdkgbbbbaoaaDoorCalTxt
namespace Go.Proofs.YtpkgdkgbbbbaoaaDoor
open Go.RowKit CalM

instance okDec (y m k : Int) : Decidable (Ok y m k) := by unfold Ok; infer_instance

/-- The date that a text tells, if it is one. -/
def parseO : List UInt8 → Option Int
  | [c0, c1, c2, c3, c4, c5, c6, c7, c8, c9] =>
    if c4 = 45 ∧ c7 = 45 ∧ digOk [c0, c1, c2, c3] = true ∧ digOk [c5, c6] = true ∧ digOk [c8, c9] = true ∧ Ok (digV [c0, c1, c2, c3]) (digV [c5, c6]) (digV [c8, c9]) then
      some (dA (digV [c0, c1, c2, c3]) (digV [c5, c6]) + digV [c8, c9]) else none
  | _ => none
def optZ : Option Int → Int
  | some x => x
  | none => 0

theorem parseO_ten (c0 c1 c2 c3 c4 c5 c6 c7 c8 c9 : UInt8) : parseO [c0, c1, c2, c3, c4, c5, c6, c7, c8, c9] =
    if c4 = 45 ∧ c7 = 45 ∧ digOk [c0, c1, c2, c3] = true ∧ digOk [c5, c6] = true ∧ digOk [c8, c9] = true ∧ Ok (digV [c0, c1, c2, c3]) (digV [c5, c6]) (digV [c8, c9]) then
      some (dA (digV [c0, c1, c2, c3]) (digV [c5, c6]) + digV [c8, c9]) else none := rfl
theorem parseO_len {l : List UInt8} (h : l.length ≠ 10) : parseO l = none := by
  unfold parseO; split
  · simp at h
  · rfl

set_option maxHeartbeats 1000000 in
theorem parse_short (l : List UInt8) (hl : l.length ≠ 10) (w : World) :
    Calls Tryd.prog 27 #[.string ⟨l.toArray⟩] w fun e w' => e = .returned (.tuple #[.int .i64 0, .bool false]) ∧ Up w w' := by
  have t1 : ((l.length : Int) != 10) = true := by rw [bne_iff_ne]; omega
  have t2 : ((l.length : Int) == 10) = false := by rw [beq_eq_false_iff_ne]; omega
  go_enter Tryd.func27, Tryd.ntmps27
  go_wp2_with fail
  go_ret2
  exact ⟨rfl, Up.refl _⟩

set_option maxRecDepth 100000 in
set_option maxHeartbeats 2000000 in
theorem parse_ten (c0 c1 c2 c3 c4 c5 c6 c7 c8 c9 : UInt8) (w : World) (hA : TabA w) (hL : TabL w) :
    Calls Tryd.prog 27 #[.string ⟨[c0, c1, c2, c3, c4, c5, c6, c7, c8, c9].toArray⟩] w fun e w' => e = .returned (.tuple #[.int .i64 (optZ (parseO [c0, c1, c2, c3, c4, c5, c6, c7, c8, c9])), .bool (parseO [c0, c1, c2, c3, c4, c5, c6, c7, c8, c9]).isSome]) ∧ Up w w' := by
  obtain ⟨r, hr⟩ : ∃ r, parseO [c0, c1, c2, c3, c4, c5, c6, c7, c8, c9] = r := ⟨_, rfl⟩
  rw [hr]
  rw [parseO_ten] at hr
  have i4 : (ByteArray.mk [c0, c1, c2, c3, c4, c5, c6, c7, c8, c9].toArray)[4]'(by show 4 < 10; omega) = c4 := rfl
  have i7 : (ByteArray.mk [c0, c1, c2, c3, c4, c5, c6, c7, c8, c9].toArray)[7]'(by show 7 < 10; omega) = c7 := rfl
  have x0 : (ByteArray.mk [c0, c1, c2, c3, c4, c5, c6, c7, c8, c9].toArray).extract 0 4 = ⟨[c0, c1, c2, c3].toArray⟩ := by apply ByteArray.ext; simp [ByteArray.data_extract]
  have x5 : (ByteArray.mk [c0, c1, c2, c3, c4, c5, c6, c7, c8, c9].toArray).extract 5 7 = ⟨[c5, c6].toArray⟩ := by apply ByteArray.ext; simp [ByteArray.data_extract]
  have x8 : (ByteArray.mk [c0, c1, c2, c3, c4, c5, c6, c7, c8, c9].toArray).extract 8 10 = ⟨[c8, c9].toArray⟩ := by apply ByteArray.ext; simp [ByteArray.data_extract]
  have DY : Hid (∀ w : World, Calls Tryd.prog 47 #[.string ⟨[c0, c1, c2, c3].toArray⟩] w fun e w' => e = .returned (.tuple #[.int .i64 (if digOk [c0, c1, c2, c3] then (digV [c0, c1, c2, c3] : Int) else 0), .bool (digOk [c0, c1, c2, c3])]) ∧ w' = w) := fun w => digits_at _ (by simp) w
  have DM : Hid (∀ w : World, Calls Tryd.prog 47 #[.string ⟨[c5, c6].toArray⟩] w fun e w' => e = .returned (.tuple #[.int .i64 (if digOk [c5, c6] then (digV [c5, c6] : Int) else 0), .bool (digOk [c5, c6])]) ∧ w' = w) := fun w => digits_at _ (by simp) w
  have DD : Hid (∀ w : World, Calls Tryd.prog 47 #[.string ⟨[c8, c9].toArray⟩] w fun e w' => e = .returned (.tuple #[.int .i64 (if digOk [c8, c9] then (digV [c8, c9] : Int) else 0), .bool (digOk [c8, c9])]) ∧ w' = w) := fun w => digits_at _ (by simp) w
  generalize digV [c0, c1, c2, c3] = vy at *
  generalize digV [c5, c6] = vm at *
  generalize digV [c8, c9] = vd at *
  generalize digOk [c0, c1, c2, c3] = oy at *
  generalize digOk [c5, c6] = om at *
  generalize digOk [c8, c9] = od at *
  have HA : Hid (TabA w) := hA
  have HL : Hid (TabL w) := hL
  have HR : Hid ((if c4 = 45 ∧ c7 = 45 ∧ oy = true ∧ om = true ∧ od = true ∧ Ok (vy : Int) (vm : Int) (vd : Int) then some (dA vy vm + vd) else none) = r) := hr
  clear hA hL hr
  by_cases g4 : c4 = 45
  · by_cases g7 : c7 = 45
    · subst g4 g7
      by_cases go : oy = true ∧ om = true ∧ od = true
      · obtain ⟨rfl, rfl, rfl⟩ := go
        simp only [if_true, true_and] at HR DY DM DD
        by_cases ok : Ok (vy : Int) (vm : Int) (vd : Int)
        · have NU : Hid (∀ w : World, TabA w → TabL w → Calls Tryd.prog 48 #[.agg #[.int .i64 (vy : Int), .int .i64 (vm : Int), .int .i64 (vd : Int)]] w fun e w' => e = .returned (.tuple #[.int .i64 (dA vy vm + vd), .bool true]) ∧ ∃ o n, w' = (w.alloc o).drewN n) := fun w hA hL => number_at _ _ _ _ ok rfl w hA hL
          have hr := HR.out
          rw [if_pos ok] at hr
          subst hr
          clear ok HR
          go_enter Tryd.func27, Tryd.ntmps27
          go_wp2_with fail
          refine (DY.out _).mono ?_
          rintro e w1 ⟨rfl, hw⟩; rw [hw]; clear hw w1
          go_wp2_with fail
          refine (DM.out _).mono ?_
          rintro e w1 ⟨rfl, hw⟩; rw [hw]; clear hw w1
          go_wp2_with fail
          refine (DD.out _).mono ?_
          rintro e w1 ⟨rfl, hw⟩; rw [hw]; clear hw w1
          go_wp2_with fail
          refine (NU.out _ HA.out HL.out).mono ?_
          rintro e w1 ⟨rfl, o1, j1, hw⟩; rw [hw]; clear hw w1
          go_wp2_with fail
          go_ret2
          exact ⟨rfl, by repeat (first | exact Up.refl _ | refine up_drewN ?_ _ | refine Up.alloc ?_ _)⟩
        · have NU : Hid (∀ w : World, TabL w → Calls Tryd.prog 48 #[.agg #[.int .i64 (vy : Int), .int .i64 (vm : Int), .int .i64 (vd : Int)]] w fun e w' => e = .returned (.tuple #[.int .i64 0, .bool false]) ∧ ∃ o n, w' = (w.alloc o).drewN n) := fun w hL => number_no _ _ _ ok w hL
          have hr := HR.out
          rw [if_neg ok] at hr
          subst hr
          clear ok HR
          go_enter Tryd.func27, Tryd.ntmps27
          go_wp2_with fail
          refine (DY.out _).mono ?_
          rintro e w1 ⟨rfl, hw⟩; rw [hw]; clear hw w1
          go_wp2_with fail
          refine (DM.out _).mono ?_
          rintro e w1 ⟨rfl, hw⟩; rw [hw]; clear hw w1
          go_wp2_with fail
          refine (DD.out _).mono ?_
          rintro e w1 ⟨rfl, hw⟩; rw [hw]; clear hw w1
          go_wp2_with fail
          refine (NU.out _ HL.out).mono ?_
          rintro e w1 ⟨rfl, o1, j1, hw⟩; rw [hw]; clear hw w1
          go_wp2_with fail
          go_ret2
          exact ⟨rfl, by repeat (first | exact Up.refl _ | refine up_drewN ?_ _ | refine Up.alloc ?_ _)⟩
      · have hr := HR.out
        rw [if_neg (fun g => go ⟨g.2.2.1, g.2.2.2.1, g.2.2.2.2.1⟩)] at hr
        subst hr
        have GO : Hid (¬(oy = true ∧ om = true ∧ od = true)) := go
        clear HR go
        generalize (if oy = true then (vy : Int) else 0) = ay at *
        generalize (if om = true then (vm : Int) else 0) = am at *
        generalize (if od = true then (vd : Int) else 0) = ad at *
        cases oy <;> cases om <;> cases od
        all_goals first
          | (exfalso; exact GO.out ⟨rfl, rfl, rfl⟩)
          | skip
        all_goals
          go_enter Tryd.func27, Tryd.ntmps27
          go_wp2_with fail
          refine (DY.out _).mono ?_
          rintro e w1 ⟨rfl, hw⟩; rw [hw]; clear hw w1
          go_wp2_with fail
          refine (DM.out _).mono ?_
          rintro e w1 ⟨rfl, hw⟩; rw [hw]; clear hw w1
          go_wp2_with fail
          refine (DD.out _).mono ?_
          rintro e w1 ⟨rfl, hw⟩; rw [hw]; clear hw w1
          go_wp2_with fail
          go_ret2
          exact ⟨rfl, Up.refl _⟩
    · have hr := HR.out
      rw [if_neg (fun g => g7 g.2.1)] at hr
      subst hr g4
      have t7 : ((c7.toNat : Int) != 45) = true := by rw [bne_iff_ne]; exact fun g => g7 (UInt8.toNat_inj.1 (show _ = 45 by omega))
      clear HR
      go_enter Tryd.func27, Tryd.ntmps27
      go_wp2_with fail
      go_ret2
      exact ⟨rfl, Up.refl _⟩
  · have hr := HR.out
    rw [if_neg (fun g => g4 g.1)] at hr
    subst hr
    have t4 : ((c4.toNat : Int) != 45) = true := by rw [bne_iff_ne]; exact fun g => g4 (UInt8.toNat_inj.1 (show _ = 45 by omega))
    clear HR
    go_enter Tryd.func27, Tryd.ntmps27
    go_wp2_with fail
    go_ret2
    exact ⟨rfl, Up.refl _⟩

theorem list_ten {l : List UInt8} (h : l.length = 10) : ∃ c0 c1 c2 c3 c4 c5 c6 c7 c8 c9, l = [c0, c1, c2, c3, c4, c5, c6, c7, c8, c9] := by
  match l, h with
  | [c0, c1, c2, c3, c4, c5, c6, c7, c8, c9], _ => exact ⟨c0, c1, c2, c3, c4, c5, c6, c7, c8, c9, rfl⟩

theorem parse_at (l : List UInt8) (w : World) (hA : TabA w) (hL : TabL w) :
    Calls Tryd.prog 27 #[.string ⟨l.toArray⟩] w fun e w' => e = .returned (.tuple #[.int .i64 (optZ (parseO l)), .bool (parseO l).isSome]) ∧ Up w w' := by
  by_cases h : l.length = 10
  · obtain ⟨c0, c1, c2, c3, c4, c5, c6, c7, c8, c9, rfl⟩ := list_ten h
    exact parse_ten c0 c1 c2 c3 c4 c5 c6 c7 c8 c9 w hA hL
  · rw [parseO_len h]; exact parse_short l h w
end Go.Proofs.YtpkgdkgbbbbaoaaDoor
