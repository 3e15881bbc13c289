/-
  Ours: contracts of the document's own number, ParseDate, padded, FormatDate; the walk of CalendarTexts.
-/
import Derived.Test.YtnelmgjdbheogacDoorCalTxt2
import Derived.Test.YtnelmgjdbheogacDoorCalRef2
import Derived.Deep.RegionHeld
namespace Go.Proofs.YtnelmgjdbheogacDoor
open Go.RowKit CalM

set_option maxRecDepth 100000 in
set_option maxHeartbeats 1000000 in
theorem refDigits_at (p l q : List UInt8) (hp : p.length ≤ 100) (hl : l.length ≤ 8) (w : World) :
    Calls Tryd.prog 13 #[.string ⟨(p ++ l ++ q).toArray⟩, .int .i64 (p.length : Int), .int .i64 ((p.length : Int) + (l.length : Int))] w fun e w' => e = .returned (.tuple #[.int .i64 (if digOk l then (digV l : Int) else 0), .bool (digOk l)]) ∧ w' = w := by
  obtain ⟨V, hV⟩ : ∃ V : Int, Hid ((if digOk l then (digV l : Int) else 0) = V) := ⟨_, rfl⟩
  obtain ⟨b, hb⟩ : ∃ b, Hid (digOk l = b) := ⟨_, rfl⟩
  rw [hV.out, hb.out]
  obtain ⟨t, ht⟩ : ∃ t, p ++ l ++ q = t := ⟨_, rfl⟩
  have tl : p.length + l.length ≤ t.length := by rw [← ht]; simp
  have TX : Hid (∀ (k : Nat) (h : k < l.length), ∃ h', (t[p.length + k]'h') = l[k]'h) := fun k h => by
    subst ht
    refine ⟨by simp; omega, ?_⟩
    rw [List.getElem_append_left (by simp; omega), List.getElem_append_right (by omega)]
    congr 1; omega
  rw [ht]
  clear ht
  obtain ⟨P, hP⟩ : ∃ P, p.length = P := ⟨_, rfl⟩
  rw [hP] at tl hp TX
  rw [hP]
  clear hP
  go_enter Tryd.func13, Tryd.ntmps13
  go_wp2_with fail
  go_loopw [8, 9] (fun nn ii w' => w' = w ∧ ∃ (k : Nat) (n : Int), k ≤ l.length ∧ ii = .int .i64 ((P : Int) + (k : Int)) ∧ nn = .int .i64 n ∧ Hid (n = (digV (l.take k) : Int) ∧ digOk (l.take k) = true ∧ 0 ≤ n ∧ n < ((10 ^ k : Nat) : Int))) (fun _ ii _ => (P + l.length) - (intOf ii).toNat)
  case atStart => exact ⟨rfl, 0, 0, by omega, by go_num, rfl, by simp [digV], by simp [digOk], by omega, by simp⟩
  case round =>
    obtain ⟨rfl, k, n, hk, rfl, rfl, hn⟩ := hrel
    obtain ⟨n1, n2, n3, n4⟩ := hn.out
    by_cases hlt : (P : Int) + (k : Int) < (P : Int) + (l.length : Int)
    · have hkl : k < l.length := by omega
      have ok := digOk_take l k hkl
      have vl := digV_take l k hkl
      have n5 : n < 100000000 := by
        have h10 : 10 ^ k ≤ 10 ^ 8 := Nat.pow_le_pow_right (by omega) (by omega)
        have e8 : 10 ^ 8 = 100000000 := by decide
        omega
      have p10 : (10 : Nat) ^ (k + 1) = 10 ^ k * 10 := Nat.pow_succ 10 k
      obtain ⟨h', tx⟩ := TX.out k hkl
      have ix : (ByteArray.mk t.toArray)[P + k]'(by show P + k < t.toArray.size; rw [List.size_toArray]; exact h') = l[k]'hkl := tx
      have lt2 : (P : Int) + (k : Int) < (t.length : Int) := by omega
      have u8 : ((l[k]'hkl).toNat : Int) < 256 := by have := (l[k]'hkl).toNat_lt; omega
      generalize l[k]'hkl = c at *
      rw [n2] at ok
      by_cases c1 : 48 ≤ c.toNat ∧ c.toNat ≤ 57
      · have c2 : (48 : Int) ≤ (c.toNat : Int) := by omega
        have c3 : (c.toNat : Int) ≤ 57 := by omega
        rw [decide_eq_true c1] at ok
        have NX : Hid ((10 * n + ((c.toNat : Int) - 48)) = (digV (l.take (k + 1)) : Int) ∧ digOk (l.take (k + 1)) = true ∧ 0 ≤ (10 * n + ((c.toNat : Int) - 48)) ∧ (10 * n + ((c.toNat : Int) - 48)) < ((10 ^ (k + 1) : Nat) : Int)) := by
          refine ⟨?_, by rw [ok]; rfl, by omega, ?_⟩
          · rw [vl]; omega
          · rw [p10]; generalize 10 ^ k = P at *; omega
        clear ok vl hn n1 n2 n4 p10 c1 tx
        go_wp2_with fail
        go_roundw
        case rel => exact ⟨trivial, k + 1, _, by omega, by refine congrArg _ ?_; omega, rfl, NX.out⟩
        case measure => simp [intOf]; omega
      · rw [decide_eq_false c1] at ok
        have F : Hid (digOk l = false) := digOk_le (k := k + 1) (by rw [ok]; rfl)
        have HC : Hid (¬(48 ≤ c.toNat ∧ c.toNat ≤ 57)) := c1
        clear ok vl hn n1 n2 n4 p10 c1 tx
        go_wp2_with fail
        all_goals first
          | (exfalso
             exact HC.out (by omega))
          | (go_ret2
             refine ⟨ret_ib ?_ ?_, rfl⟩
             · rw [← hV.out, F.out]; rfl
             · rw [← hb.out, F.out])
    · have e : k = l.length := by omega
      rw [e, List.take_length] at n1 n2
      have N1 : Hid (n = (digV l : Int)) := n1
      have N2 : Hid (digOk l = true) := n2
      clear n1 n2 hn
      go_wp2_with fail
      go_ret2
      refine ⟨ret_ib ?_ ?_, rfl⟩
      · rw [← hV.out, N2.out, N1.out]; rfl
      · rw [← hb.out, N2.out]
set_option maxHeartbeats 1000000 in
theorem refParse_short (l : List UInt8) (hl : l.length ≠ 10) (w : World) :
    Calls Tryd.prog 6 #[.string ⟨l.toArray⟩] w fun e w' => e = .returned (.tuple #[.int .i64 0, .bool false]) ∧ Up w w' := by
  have t1 : ((l.length : Int) != 10) = true := by rw [bne_iff_ne]; omega
  have t2 : ((l.length : Int) == 10) = false := by rw [beq_eq_false_iff_ne]; omega
  go_enter Tryd.func6, Tryd.ntmps6
  go_wp2_with fail
  go_ret2
  exact ⟨rfl, Up.refl _⟩

set_option maxRecDepth 100000 in
set_option maxHeartbeats 2000000 in
theorem refParse_ten (c0 c1 c2 c3 c4 c5 c6 c7 c8 c9 : UInt8) (w : World) :
    Calls Tryd.prog 6 #[.string ⟨[c0, c1, c2, c3, c4, c5, c6, c7, c8, c9].toArray⟩] w fun e w' => e = .returned (.tuple #[.int .i64 (optZ (parseO [c0, c1, c2, c3, c4, c5, c6, c7, c8, c9])), .bool (parseO [c0, c1, c2, c3, c4, c5, c6, c7, c8, c9]).isSome]) ∧ Up w w' := by
  obtain ⟨r, hr⟩ : ∃ r, parseO [c0, c1, c2, c3, c4, c5, c6, c7, c8, c9] = r := ⟨_, rfl⟩
  rw [hr]
  rw [parseO_ten] at hr
  have i4 : (ByteArray.mk [c0, c1, c2, c3, c4, c5, c6, c7, c8, c9].toArray)[4]'(by show 4 < 10; omega) = c4 := rfl
  have i7 : (ByteArray.mk [c0, c1, c2, c3, c4, c5, c6, c7, c8, c9].toArray)[7]'(by show 7 < 10; omega) = c7 := rfl
  have DY : Hid (∀ w : World, Calls Tryd.prog 13 #[.string ⟨[c0, c1, c2, c3, c4, c5, c6, c7, c8, c9].toArray⟩, .int .i64 0, .int .i64 4] w fun e w' => e = .returned (.tuple #[.int .i64 (if digOk [c0, c1, c2, c3] then (digV [c0, c1, c2, c3] : Int) else 0), .bool (digOk [c0, c1, c2, c3])]) ∧ w' = w) := fun w => refDigits_at [] [c0, c1, c2, c3] [c4, c5, c6, c7, c8, c9] (by simp) (by simp) w
  have DM : Hid (∀ w : World, Calls Tryd.prog 13 #[.string ⟨[c0, c1, c2, c3, c4, c5, c6, c7, c8, c9].toArray⟩, .int .i64 5, .int .i64 7] w fun e w' => e = .returned (.tuple #[.int .i64 (if digOk [c5, c6] then (digV [c5, c6] : Int) else 0), .bool (digOk [c5, c6])]) ∧ w' = w) := fun w => refDigits_at [c0, c1, c2, c3, c4] [c5, c6] [c7, c8, c9] (by simp) (by simp) w
  have DD : Hid (∀ w : World, Calls Tryd.prog 13 #[.string ⟨[c0, c1, c2, c3, c4, c5, c6, c7, c8, c9].toArray⟩, .int .i64 8, .int .i64 10] w fun e w' => e = .returned (.tuple #[.int .i64 (if digOk [c8, c9] then (digV [c8, c9] : Int) else 0), .bool (digOk [c8, c9])]) ∧ w' = w) := fun w => refDigits_at [c0, c1, c2, c3, c4, c5, c6, c7] [c8, c9] [] (by simp) (by simp) w
  generalize digV [c0, c1, c2, c3] = vy at *
  generalize digV [c5, c6] = vm at *
  generalize digV [c8, c9] = vd at *
  generalize digOk [c0, c1, c2, c3] = oy at *
  generalize digOk [c5, c6] = om at *
  generalize digOk [c8, c9] = od at *
  have HR : Hid ((if c4 = 45 ∧ c7 = 45 ∧ oy = true ∧ om = true ∧ od = true ∧ Ok (vy : Int) (vm : Int) (vd : Int) then some (dA vy vm + vd) else none) = r) := hr
  clear hr
  by_cases g4 : c4 = 45
  · by_cases g7 : c7 = 45
    · subst g4 g7
      by_cases go : oy = true ∧ om = true ∧ od = true
      · obtain ⟨rfl, rfl, rfl⟩ := go
        simp only [if_true, true_and] at HR DY DM DD
        by_cases ok : Ok (vy : Int) (vm : Int) (vd : Int)
        · have NU : Hid (∀ w : World, Calls Tryd.prog 14 #[.agg #[.int .i64 (vy : Int), .int .i64 (vm : Int), .int .i64 (vd : Int)]] w fun e w' => e = .returned (.tuple #[.int .i64 (dA vy vm + vd), .bool true]) ∧ ∃ o n, w' = (w.alloc o).drewN n) := fun w => refNumber_at _ _ _ _ ok rfl w
          have hr := HR.out
          rw [if_pos ok] at hr
          subst hr
          clear ok HR
          go_enter Tryd.func6, Tryd.ntmps6
          go_wp2_with fail
          refine (DY.out _).mono ?_
          rintro e w1 ⟨rfl, hw⟩; rw [hw]; clear hw w1
          go_wp2_with fail
          refine (DM.out _).mono ?_
          rintro e w1 ⟨rfl, hw⟩; rw [hw]; clear hw w1
          go_wp2_with fail
          refine (DD.out _).mono ?_
          rintro e w1 ⟨rfl, hw⟩; rw [hw]; clear hw w1
          go_wp2_with fail
          refine (NU.out _).mono ?_
          rintro e w1 ⟨rfl, o1, j1, hw⟩; rw [hw]; clear hw w1
          go_wp2_with fail
          go_ret2
          exact ⟨rfl, by repeat (first | exact Up.refl _ | refine up_drewN ?_ _ | refine Up.alloc ?_ _)⟩
        · have NU : Hid (∀ w : World, Calls Tryd.prog 14 #[.agg #[.int .i64 (vy : Int), .int .i64 (vm : Int), .int .i64 (vd : Int)]] w fun e w' => e = .returned (.tuple #[.int .i64 0, .bool false]) ∧ ∃ o n, w' = (w.alloc o).drewN n) := fun w => refNumber_no _ _ _ ok w
          have hr := HR.out
          rw [if_neg ok] at hr
          subst hr
          clear ok HR
          go_enter Tryd.func6, Tryd.ntmps6
          go_wp2_with fail
          refine (DY.out _).mono ?_
          rintro e w1 ⟨rfl, hw⟩; rw [hw]; clear hw w1
          go_wp2_with fail
          refine (DM.out _).mono ?_
          rintro e w1 ⟨rfl, hw⟩; rw [hw]; clear hw w1
          go_wp2_with fail
          refine (DD.out _).mono ?_
          rintro e w1 ⟨rfl, hw⟩; rw [hw]; clear hw w1
          go_wp2_with fail
          refine (NU.out _).mono ?_
          rintro e w1 ⟨rfl, o1, j1, hw⟩; rw [hw]; clear hw w1
          go_wp2_with fail
          go_ret2
          exact ⟨rfl, by repeat (first | exact Up.refl _ | refine up_drewN ?_ _ | refine Up.alloc ?_ _)⟩
      · have hr := HR.out
        rw [if_neg (fun g => go ⟨g.2.2.1, g.2.2.2.1, g.2.2.2.2.1⟩)] at hr
        subst hr
        have GO : Hid (¬(oy = true ∧ om = true ∧ od = true)) := go
        clear HR go
        generalize (if oy = true then (vy : Int) else 0) = ay at *
        generalize (if om = true then (vm : Int) else 0) = am at *
        generalize (if od = true then (vd : Int) else 0) = ad at *
        cases oy <;> cases om <;> cases od
        all_goals first
          | (exfalso; exact GO.out ⟨rfl, rfl, rfl⟩)
          | skip
        all_goals
          go_enter Tryd.func6, Tryd.ntmps6
          go_wp2_with fail
          refine (DY.out _).mono ?_
          rintro e w1 ⟨rfl, hw⟩; rw [hw]; clear hw w1
          go_wp2_with fail
          refine (DM.out _).mono ?_
          rintro e w1 ⟨rfl, hw⟩; rw [hw]; clear hw w1
          go_wp2_with fail
          refine (DD.out _).mono ?_
          rintro e w1 ⟨rfl, hw⟩; rw [hw]; clear hw w1
          go_wp2_with fail
          go_ret2
          exact ⟨rfl, Up.refl _⟩
    · have hr := HR.out
      rw [if_neg (fun g => g7 g.2.1)] at hr
      subst hr g4
      have t7 : ((c7.toNat : Int) != 45) = true := by rw [bne_iff_ne]; exact fun g => g7 (UInt8.toNat_inj.1 (show _ = 45 by omega))
      clear HR
      go_enter Tryd.func6, Tryd.ntmps6
      go_wp2_with fail
      go_ret2
      exact ⟨rfl, Up.refl _⟩
  · have hr := HR.out
    rw [if_neg (fun g => g4 g.1)] at hr
    subst hr
    have t4 : ((c4.toNat : Int) != 45) = true := by rw [bne_iff_ne]; exact fun g => g4 (UInt8.toNat_inj.1 (show _ = 45 by omega))
    clear HR
    go_enter Tryd.func6, Tryd.ntmps6
    go_wp2_with fail
    go_ret2
    exact ⟨rfl, Up.refl _⟩


theorem refParse_at (l : List UInt8) (w : World) :
    Calls Tryd.prog 6 #[.string ⟨l.toArray⟩] w fun e w' => e = .returned (.tuple #[.int .i64 (optZ (parseO l)), .bool (parseO l).isSome]) ∧ Up w w' := by
  by_cases h : l.length = 10
  · obtain ⟨c0, c1, c2, c3, c4, c5, c6, c7, c8, c9, rfl⟩ := list_ten h
    exact refParse_ten c0 c1 c2 c3 c4 c5 c6 c7 c8 c9 w
  · rw [parseO_len h]; exact refParse_short l h w

theorem cat_zero (x : List UInt8) : (ByteArray.mk #[48]) ++ ⟨x.toArray⟩ = ⟨(48 :: x).toArray⟩ := by
  apply ByteArray.ext; simp [ByteArray.data_append]

set_option maxHeartbeats 1000000 in
theorem padded_at (n : Nat) (wd : Nat) (hn : n ≤ 1000000) (hw : wd ≤ 8) (s : List UInt8) (hs : List.replicate (wd - (Lib.decDigits n).length) 48 ++ Lib.decDigits n = s) (w : World) (hP : TabP w) :
    Calls Tryd.prog 18 #[.int .i64 (n : Int), .int .i64 (wd : Int)] w fun e w' => e = .returned (.string ⟨s.toArray⟩) ∧ Up w w' := by
  have IT : Hid (∀ (w : World), TabP w → Calls Tryd.prog 16 #[.int .i64 (n : Int)] w fun e w' => e = .returned (.string ⟨(Lib.decDigits n).toArray⟩) ∧ Up w w') := fun w ht => by
    have e : Lib.itoa (n : Int) = Lib.decDigits n := by unfold Lib.itoa; rw [if_neg (by omega)]; rfl
    rw [← e]
    exact (Tryd.strconv_Itoa n (by omega) (by omega) w ht).mono fun e w' ⟨he, j, os, hw⟩ => ⟨he, by rw [hw]; exact up_grow w j os⟩
  have HP : Hid (TabP w) := hP
  have HS : Hid (List.replicate (wd - (Lib.decDigits n).length) 48 ++ Lib.decDigits n = s) := hs
  clear hP hs
  generalize Lib.decDigits n = d at *
  go_enter Tryd.func18, Tryd.ntmps18
  go_wp2_with fail
  refine (IT.out _ HP.out).mono ?_
  rintro e w1 ⟨rfl, V1⟩
  have U1 : Hid (Up w w1) := V1
  clear V1
  go_wp2_with fail
  go_loopw [5] (fun ss w' => w' = w1 ∧ ∃ x : List UInt8, ss = .string ⟨x.toArray⟩ ∧ Hid (List.replicate (wd - x.length) 48 ++ x = s)) (fun ss _ => match ss with | .string b => wd - b.size | _ => 0)
  case atStart => exact ⟨rfl, d, rfl, HS.out⟩
  case round =>
    obtain ⟨rfl, x, rfl, hx⟩ := hrel
    by_cases hlt : (x.length : Int) < (wd : Int)
    · have cz := cat_zero x
      have NX : Hid (List.replicate (wd - (48 :: x).length) 48 ++ (48 :: x) = s) := by
        show List.replicate (wd - (48 :: x).length) 48 ++ (48 :: x) = s
        rw [← hx.out]
        obtain ⟨j, hj⟩ : ∃ j, wd - x.length = j + 1 := ⟨wd - x.length - 1, by omega⟩
        have e : wd - (48 :: x).length = j := by simp; omega
        rw [e, hj, List.replicate_succ']; simp
      go_wp2_with fail
      go_roundw
      case rel => exact ⟨trivial, 48 :: x, rfl, NX.out⟩
      case measure =>
        show wd - (48 :: x).length < wd - x.length
        simp only [List.length_cons]; omega
    · have e : wd - x.length = 0 := by omega
      have EX : Hid (x = s) := by have := hx.out; rw [e] at this; exact this
      go_wp2_with fail
      go_ret
      exact ⟨by rw [EX.out]; rfl, U1.out⟩

theorem dec_len {n : Nat} : n < 10 → Lib.decDigits n = [dg n] := dec_lt
theorem pad_two (n : Nat) (h : n < 100) : List.replicate (2 - (Lib.decDigits n).length) 48 ++ Lib.decDigits n = pad2 n := by
  by_cases a : n < 10
  · rw [dec_lt a]
    have e : dg (n / 10) = 48 := by unfold dg; rw [show n / 10 % 10 = 0 by omega]; rfl
    simp [pad2, e]
  · rw [dec_ge a, dec_lt (by omega)]
    simp [pad2]
theorem pad_four (n : Nat) (h : n < 10000) : List.replicate (4 - (Lib.decDigits n).length) 48 ++ Lib.decDigits n = pad4 n := by
  have z : ∀ k, k % 10 = 0 → dg k = 48 := fun k hk => by unfold dg; rw [hk]; rfl
  have e1 : n / 10 / 10 = n / 100 := by omega
  have e2 : n / 10 / 10 / 10 = n / 1000 := by omega
  by_cases a : n < 10
  · rw [dec_lt a]
    simp [pad4, z (n / 10) (by omega), z (n / 100) (by omega), z (n / 1000) (by omega), List.replicate]
  · by_cases b : n < 100
    · rw [dec_ge a, dec_lt (by omega)]
      simp [pad4, z (n / 100) (by omega), z (n / 1000) (by omega), List.replicate]
    · by_cases c : n < 1000
      · rw [dec_ge a, dec_ge (by omega), dec_lt (by omega), e1]
        simp [pad4, z (n / 1000) (by omega)]
      · rw [dec_ge a, dec_ge (by omega), dec_ge (by omega), dec_lt (by omega), e2, e1]
        simp [pad4]

theorem held3 {W a b : World} {p1 p2 p3 : Addr} {v1 v2 v3 : Value} (hU : Up a b)
    (h : Up W a ∧ a.cell? p1 = some v1 ∧ a.cell? p2 = some v2 ∧ a.cell? p3 = some v3) :
    Up W b ∧ b.cell? p1 = some v1 ∧ b.cell? p2 = some v2 ∧ b.cell? p3 = some v3 :=
  ⟨h.1.trans hU, hU.cell h.2.1, hU.cell h.2.2.1, hU.cell h.2.2.2⟩

set_option maxHeartbeats 1000000 in
theorem refFormat_at (y m k : Nat) (day : Int) (h : Ok y m k) (hd : dA y m + k = day) (w : World) (hP : TabP w) :
    Calls Tryd.prog 8 #[.int .i64 day] w fun e w' => e = .returned (.tuple #[.string ⟨(dateT y m k).toArray⟩, .bool true]) ∧ Up w w' := by
  have CA : Hid (∀ w : World, Calls Tryd.prog 17 #[.int .i64 day] w fun e w' => e = .returned (.tuple #[.agg #[.int .i64 y, .int .i64 m, .int .i64 k], .bool true]) ∧ ∃ o, w' = w.alloc o) := fun w => refCivil_at y m k day h hd w
  obtain ⟨y1, y2, m1, m2, k1, k2⟩ := h
  have l2 := len_high y m
  have k3 : k < 100 := by omega
  have HP : Hid (TabP w) := hP
  have I1 : Hid (∀ w : World, TabP w → Calls Tryd.prog 18 #[.int .i64 (y : Int), .int .i64 4] w fun e w' => e = .returned (.string ⟨(pad4 y).toArray⟩) ∧ Up w w') := fun w h => padded_at y 4 (by omega) (by omega) _ (pad_four y (by omega)) w h
  have I2 : Hid (∀ w : World, TabP w → Calls Tryd.prog 18 #[.int .i64 (m : Int), .int .i64 2] w fun e w' => e = .returned (.string ⟨(pad2 m).toArray⟩) ∧ Up w w') := fun w h => padded_at m 2 (by omega) (by omega) _ (pad_two m (by omega)) w h
  have I3 : Hid (∀ w : World, TabP w → Calls Tryd.prog 18 #[.int .i64 (k : Int), .int .i64 2] w fun e w' => e = .returned (.string ⟨(pad2 k).toArray⟩) ∧ Up w w') := fun w h => padded_at k 2 (by omega) (by omega) _ (pad_two k k3) w h
  have L4 : (pad4 y).length = 4 := rfl
  have LM : (pad2 m).length = 2 := rfl
  have LK : (pad2 k).length = 2 := rfl
  obtain ⟨T, hT⟩ : ∃ T, dateT y m k = T := ⟨_, rfl⟩
  have HT : Hid (pad4 y ++ [45] ++ pad2 m ++ [45] ++ pad2 k = T) := hT
  rw [hT]
  clear hT
  generalize pad4 y = A4 at *
  generalize pad2 m = B2 at *
  generalize pad2 k = C2 at *
  clear hP hd k2
  go_enter Tryd.func8, Tryd.ntmps8
  go_wp2_with fail
  refine (CA.out _).mono ?_
  rintro e w1 ⟨rfl, o1, hw⟩; rw [hw]; clear hw w1
  go_wp2_with fail
  obtain ⟨W, hW⟩ : ∃ W, ((w.alloc o1).alloc (.cells #[.int .i64 y, .int .i64 m, .int .i64 k] 36)) = W := ⟨_, rfl⟩
  have UW : Up w W := by rw [← hW]; repeat (first | exact Up.refl _ | refine Up.alloc ?_ _)
  have HPW : Hid (TabP w) := HP.out
  obtain ⟨bd, hbd⟩ : ∃ bd, w.heap.size + 1 = bd := ⟨_, rfl⟩
  have d0 : W.cell? ⟨bd, 0, none⟩ = some (.int .i64 (y : Int)) := by subst hW hbd; exact cell_new _ _ _ 0 _ _ rfl (size_al _ _ _ rfl)
  have d1 : W.cell? ⟨bd, 1, none⟩ = some (.int .i64 (m : Int)) := by subst hW hbd; exact cell_new _ _ _ 1 _ _ rfl (size_al _ _ _ rfl)
  have d2 : W.cell? ⟨bd, 2, none⟩ = some (.int .i64 (k : Int)) := by subst hW hbd; exact cell_new _ _ _ 2 _ _ rfl (size_al _ _ _ rfl)
  rw [hW, hbd]
  clear hW hbd CA
  have KK : Hid (∀ (a : World) (n v : Int) (s : List UInt8), (Up w a ∧ a.cell? ⟨bd, 0, none⟩ = some (.int .i64 (y : Int)) ∧ a.cell? ⟨bd, 1, none⟩ = some (.int .i64 (m : Int)) ∧ a.cell? ⟨bd, 2, none⟩ = some (.int .i64 (k : Int))) → ((n = (y : Int) ∧ v = 4 ∧ s = A4) ∨ (n = (m : Int) ∧ v = 2 ∧ s = B2) ∨ (n = (k : Int) ∧ v = 2 ∧ s = C2)) → Calls Tryd.prog 18 #[.int .i64 n, .int .i64 v] a fun e w' => e = .returned (.string ⟨s.toArray⟩) ∧ Up a w') := fun a n v s h hc => by
    rcases hc with ⟨rfl, rfl, rfl⟩ | ⟨rfl, rfl, rfl⟩ | ⟨rfl, rfl, rfl⟩
    · exact I1.out a (HPW.out.up h.1)
    · exact I2.out a (HPW.out.up h.1)
    · exact I3.out a (HPW.out.up h.1)
  clear I1 I2 I3
  go_region_held (fun w' => Up w w' ∧ w'.cell? ⟨bd, 0, none⟩ = some (.int .i64 (y : Int)) ∧ w'.cell? ⟨bd, 1, none⟩ = some (.int .i64 (m : Int)) ∧ w'.cell? ⟨bd, 2, none⟩ = some (.int .i64 (k : Int))) (first | exact ⟨up_drewN UW 1, d0, d1, d2⟩ | exact held3 hU (by assumption)) ((go_at_call 18; refine (KK.out _ _ _ _ (by assumption) (by first | exact .inl ⟨rfl, rfl, rfl⟩ | exact .inr (.inl ⟨rfl, rfl, rfl⟩) | exact .inr (.inr ⟨rfl, rfl, rfl⟩))).mono ?_; rintro e w1 ⟨rfl, hU⟩))
  all_goals
    go_wp2_with fail
    go_ret2
    refine ⟨ret_sb ?_ rfl, And.left (b := w1.cell? ⟨bd, 0, none⟩ = some (.int .i64 (y : Int)) ∧ w1.cell? ⟨bd, 1, none⟩ = some (.int .i64 (m : Int)) ∧ w1.cell? ⟨bd, 2, none⟩ = some (.int .i64 (k : Int))) (by assumption)⟩
    rw [← HT.out]
    apply ByteArray.ext
    simp [ByteArray.data_append]

theorem refFormat_no (day : Int) (h : ¬(1 ≤ day ∧ day ≤ 3652059)) (w : World) :
    Calls Tryd.prog 8 #[.int .i64 day] w fun e w' => e = .returned (.tuple #[.string ⟨#[]⟩, .bool false]) ∧ Up w w' := by
  have CN : Hid (∀ w : World, Calls Tryd.prog 17 #[.int .i64 day] w fun e w' => e = .returned (.tuple #[.agg #[.int .i64 0, .int .i64 0, .int .i64 0], .bool false]) ∧ ∃ o, w' = w.alloc o) := fun w => refCivil_no day h w
  clear h
  go_enter Tryd.func8, Tryd.ntmps8
  go_wp2_with fail
  refine (CN.out _).mono ?_
  rintro e w1 ⟨rfl, o1, hw⟩; rw [hw]; clear hw w1
  go_wp2_with fail
  go_ret2
  exact ⟨rfl, by repeat (first | exact Up.refl _ | refine Up.alloc ?_ _)⟩

theorem format_both (day : Int) : ∃ (t : List UInt8) (b : Bool), Hid (∀ w : World, TabA w → TabP w → Calls Tryd.prog 7 #[.int .i64 day] w fun e w' => e = .returned (.tuple #[.string ⟨t.toArray⟩, .bool b]) ∧ Up w w') ∧ Hid (∀ w : World, TabP w → Calls Tryd.prog 8 #[.int .i64 day] w fun e w' => e = .returned (.tuple #[.string ⟨t.toArray⟩, .bool b]) ∧ Up w w') := by
  by_cases h : 1 ≤ day ∧ day ≤ 3652059
  · obtain ⟨y0, m0, k0, ok0, ed0⟩ := civil_exists day h.1 h.2
    obtain ⟨y, m, k, rfl, rfl, rfl⟩ : ∃ Y M K : Nat, y0 = Y ∧ m0 = M ∧ k0 = K := by
      obtain ⟨y1, y2, m1, m2, k1, k2⟩ := ok0
      exact ⟨y0.toNat, m0.toNat, k0.toNat, by omega, by omega, by omega⟩
    exact ⟨_, _, fun w hA hP => format_at y m k day ok0 ed0 w hA hP, fun w hP => refFormat_at y m k day ok0 ed0 w hP⟩
  · exact ⟨[], false, fun w _ _ => format_no day h w, fun w _ => refFormat_no day h w⟩

set_option maxHeartbeats 1000000 in
theorem texts_walk (l : List UInt8) (day : Int) (_ : -9223372036854775808 ≤ day) (_ : day ≤ 9223372036854775807) (w : World) (hP : TabP w) (hL : TabL w) (hA : TabA w) :
    Calls Tryd.prog 3 #[.string ⟨l.toArray⟩, .int .i64 day] w fun e w' => e = .returned (.bool true) ∧ Up w w' := by
  obtain ⟨t, b, F1, F2⟩ := format_both day
  have P1 : Hid (∀ w : World, TabA w → TabL w → Calls Tryd.prog 5 #[.string ⟨l.toArray⟩] w fun e w' => e = .returned (.tuple #[.int .i64 (optZ (parseO l)), .bool (parseO l).isSome]) ∧ Up w w') := fun w hA hL => parse_at l w hA hL
  have P2 : Hid (∀ w : World, Calls Tryd.prog 6 #[.string ⟨l.toArray⟩] w fun e w' => e = .returned (.tuple #[.int .i64 (optZ (parseO l)), .bool (parseO l).isSome]) ∧ Up w w') := fun w => refParse_at l w
  generalize optZ (parseO l) = n at *
  generalize (parseO l).isSome = c at *
  have HA : Hid (TabA w) := hA
  have HL : Hid (TabL w) := hL
  have HP : Hid (TabP w) := hP
  clear hA hL hP
  go_enter Tryd.func3, Tryd.ntmps3
  go_wp2_with fail
  refine (P1.out _ HA.out HL.out).mono ?_
  rintro e w1 ⟨rfl, V1⟩
  have U1 : Hid (Up w w1) := V1
  clear V1
  go_wp2_with fail
  refine (P2.out _).mono ?_
  rintro e w2 ⟨rfl, V2⟩
  have U2 : Hid (Up w w2) := U1.out.trans V2
  clear V2
  go_wp2_with fail
  refine (F1.out _ (HA.out.up U2.out) (HP.out.up U2.out)).mono ?_
  rintro e w3 ⟨rfl, V3⟩
  have U3 : Hid (Up w w3) := U2.out.trans V3
  clear V3
  go_wp2_with fail
  refine (F2.out _ (HP.out.up U3.out)).mono ?_
  rintro e w4 ⟨rfl, V4⟩
  have U4 : Hid (Up w w4) := U3.out.trans V4
  clear V4
  go_wp2_with fail
  go_ret
  exact ⟨ret_bool (by simp), U4.out⟩
end Go.Proofs.YtnelmgjdbheogacDoor
