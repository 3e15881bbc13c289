/-
  Ours: the walk of CalendarTextOrder.
-/
import Derived.Test.YtnelmgjdbheogabDoorCalTxt2
namespace Go.Proofs.YtnelmgjdbheogabDoor
open Go.RowKit CalM

theorem dg_nat (n : Nat) : (dg n).toNat = 48 + n % 10 := by
  unfold dg; rw [UInt8.toNat_ofNat']; omega
theorem digOk_pad2 (n : Nat) : digOk (pad2 n) = true := by
  have a := dg_nat n; have b := dg_nat (n / 10)
  simp only [digOk, pad2, List.all_cons, List.all_nil, Bool.and_true, Bool.and_eq_true, decide_eq_true_eq]; omega
theorem digOk_pad4 (n : Nat) : digOk (pad4 n) = true := by
  have a := dg_nat n; have b := dg_nat (n / 10); have c := dg_nat (n / 100); have d := dg_nat (n / 1000)
  simp only [digOk, pad4, List.all_cons, List.all_nil, Bool.and_true, Bool.and_eq_true, decide_eq_true_eq]; omega
theorem digV_pad2 (n : Nat) (h : n < 100) : digV (pad2 n) = n := by
  have a := dg_nat n; have b := dg_nat (n / 10)
  simp only [digV, pad2, List.foldl_cons, List.foldl_nil, a, b]; omega
theorem digV_pad4 (n : Nat) (h : n < 10000) : digV (pad4 n) = n := by
  have a := dg_nat n; have b := dg_nat (n / 10); have c := dg_nat (n / 100); have d := dg_nat (n / 1000)
  simp only [digV, pad4, List.foldl_cons, List.foldl_nil, a, b, c, d]; omega

theorem parse_date (y m k : Nat) (h : Ok y m k) : parseO (dateT y m k) = some (dA y m + k) := by
  have l := len_high y m
  obtain ⟨y1, y2, m1, m2, k1, k2⟩ := h
  show parseO [dg (y / 1000), dg (y / 100), dg (y / 10), dg y, 45, dg (m / 10), dg m, 45, dg (k / 10), dg k] = _
  rw [parseO_ten, if_pos]
  · have e1 : digV [dg (y / 1000), dg (y / 100), dg (y / 10), dg y] = y := digV_pad4 y (by omega)
    have e2 : digV [dg (m / 10), dg m] = m := digV_pad2 m (by omega)
    have e3 : digV [dg (k / 10), dg k] = k := digV_pad2 k (by omega)
    rw [e1, e2, e3]
  · have e1 : digV [dg (y / 1000), dg (y / 100), dg (y / 10), dg y] = y := digV_pad4 y (by omega)
    have e2 : digV [dg (m / 10), dg m] = m := digV_pad2 m (by omega)
    have e3 : digV [dg (k / 10), dg k] = k := digV_pad2 k (by omega)
    rw [e1, e2, e3]
    exact ⟨rfl, rfl, digOk_pad4 y, digOk_pad2 m, digOk_pad2 k, y1, y2, m1, m2, k1, k2⟩

theorem dg_of (c : UInt8) (n : Nat) (h : c.toNat = 48 + n % 10) : dg n = c := UInt8.toNat_inj.1 (by rw [dg_nat, h])
theorem pad2_of (c0 c1 : UInt8) (h : digOk [c0, c1] = true) : pad2 (digV [c0, c1]) = [c0, c1] := by
  simp only [digOk, List.all_cons, List.all_nil, Bool.and_true, Bool.and_eq_true, decide_eq_true_eq] at h
  simp only [digV, List.foldl_cons, List.foldl_nil, pad2]
  rw [dg_of c0 _ (by omega), dg_of c1 _ (by omega)]
theorem pad4_of (c0 c1 c2 c3 : UInt8) (h : digOk [c0, c1, c2, c3] = true) : pad4 (digV [c0, c1, c2, c3]) = [c0, c1, c2, c3] := by
  simp only [digOk, List.all_cons, List.all_nil, Bool.and_true, Bool.and_eq_true, decide_eq_true_eq] at h
  simp only [digV, List.foldl_cons, List.foldl_nil, pad4]
  rw [dg_of c0 _ (by omega), dg_of c1 _ (by omega), dg_of c2 _ (by omega), dg_of c3 _ (by omega)]

theorem parse_some {l : List UInt8} {x : Int} (h : parseO l = some x) : ∃ y m k : Nat, Ok y m k ∧ dA y m + k = x ∧ l = dateT y m k := by
  by_cases hl : l.length = 10
  · obtain ⟨c0, c1, c2, c3, c4, c5, c6, c7, c8, c9, rfl⟩ := list_ten hl
    rw [parseO_ten] at h
    by_cases g : c4 = 45 ∧ c7 = 45 ∧ digOk [c0, c1, c2, c3] = true ∧ digOk [c5, c6] = true ∧ digOk [c8, c9] = true ∧ Ok (digV [c0, c1, c2, c3]) (digV [c5, c6]) (digV [c8, c9])
    · rw [if_pos g] at h
      obtain ⟨rfl, rfl, g1, g2, g3, ok⟩ := g
      refine ⟨_, _, _, ok, Option.some.inj h, ?_⟩
      unfold dateT
      rw [pad4_of _ _ _ _ g1, pad2_of _ _ g2, pad2_of _ _ g3]; rfl
    · rw [if_neg g] at h; cases h
  · rw [parseO_len hl] at h; cases h

theorem less_cons (a b : UInt8) (s t : List UInt8) : Op.bytesLess (a :: s) (b :: t) = (decide (a.toNat < b.toNat) || (decide (a.toNat = b.toNat) && Op.bytesLess s t)) := by
  conv => lhs; unfold Op.bytesLess
  have e1 : decide (a < b) = decide (a.toNat < b.toNat) := by rw [decide_eq_decide]; exact UInt8.lt_iff_toNat_lt
  have e2 : (a == b) = decide (a.toNat = b.toNat) := by rw [Bool.eq_iff_iff]; simp [UInt8.toNat_inj]
  rw [e1, e2]
theorem less_dg (a b : Nat) (s t : List UInt8) : Op.bytesLess (dg a :: s) (dg b :: t) = true ↔ (a % 10 < b % 10 ∨ (a % 10 = b % 10 ∧ Op.bytesLess s t = true)) := by
  rw [less_cons, dg_nat, dg_nat]
  simp only [Bool.or_eq_true, Bool.and_eq_true, decide_eq_true_eq]
  constructor
  · rintro (h | ⟨h, h'⟩)
    · left; omega
    · right; exact ⟨by omega, h'⟩
  · rintro (h | ⟨h, h'⟩)
    · left; omega
    · right; exact ⟨by omega, h'⟩
theorem less_pad2 (a b : Nat) (ha : a < 100) (hb : b < 100) (s t : List UInt8) : Op.bytesLess (pad2 a ++ s) (pad2 b ++ t) = true ↔ (a < b ∨ (a = b ∧ Op.bytesLess s t = true)) := by
  show Op.bytesLess (dg (a / 10) :: dg a :: s) (dg (b / 10) :: dg b :: t) = true ↔ _
  rw [less_dg, less_dg]
  generalize Op.bytesLess s t = x
  constructor
  · rintro (h | ⟨h, h' | ⟨h', h''⟩⟩)
    · left; omega
    · left; omega
    · right; exact ⟨by omega, h''⟩
  · rintro (h | ⟨rfl, h⟩)
    · by_cases g : a / 10 % 10 < b / 10 % 10
      · exact .inl g
      · exact .inr ⟨by omega, .inl (by omega)⟩
    · exact .inr ⟨rfl, .inr ⟨rfl, h⟩⟩
theorem pad4_split (a : Nat) : pad4 a = pad2 (a / 100) ++ pad2 a := by unfold pad4 pad2; rw [Nat.div_div_eq_div_mul]; rfl
theorem less_pad4 (a b : Nat) (ha : a < 10000) (hb : b < 10000) (s t : List UInt8) : Op.bytesLess (pad4 a ++ s) (pad4 b ++ t) = true ↔ (a < b ∨ (a = b ∧ Op.bytesLess s t = true)) := by
  rw [pad4_split a, pad4_split b, List.append_assoc, List.append_assoc]
  have ea : pad2 a = pad2 (a % 100) := by unfold pad2 dg; congr 3 <;> omega
  have eb : pad2 b = pad2 (b % 100) := by unfold pad2 dg; congr 3 <;> omega
  rw [less_pad2 _ _ (by omega) (by omega), ea, eb, less_pad2 _ _ (by omega) (by omega)]
  generalize Op.bytesLess s t = x
  constructor
  · rintro (h | ⟨h, h' | ⟨h', h''⟩⟩)
    · left; omega
    · left; omega
    · right; exact ⟨by omega, h''⟩
  · rintro (h | ⟨rfl, h⟩)
    · by_cases g : a / 100 < b / 100
      · exact .inl g
      · exact .inr ⟨by omega, .inl (by omega)⟩
    · exact .inr ⟨rfl, .inr ⟨rfl, h⟩⟩
theorem less_dash (s t : List UInt8) : Op.bytesLess (45 :: s) (45 :: t) = Op.bytesLess s t := by rw [less_cons]; simp

theorem less_date (y m k Y M K : Nat) (h : Ok y m k) (g : Ok Y M K) : Op.bytesLess (dateT y m k) (dateT Y M K) = decide (dA y m + k < dA Y M + K) := by
  rw [Bool.eq_iff_iff, decide_eq_true_eq]
  have l1 := len_high y m
  have l2 := len_high Y M
  obtain ⟨y1, y2, m1, m2, k1, k2⟩ := h
  obtain ⟨y3, y4, m3, m4, k3, k4⟩ := g
  have e1 : dateT y m k = pad4 y ++ (45 :: (pad2 m ++ (45 :: (pad2 k ++ [])))) := by simp [dateT]
  have e2 : dateT Y M K = pad4 Y ++ (45 :: (pad2 M ++ (45 :: (pad2 K ++ [])))) := by simp [dateT]
  rw [e1, e2, less_pad4 _ _ (by omega) (by omega), less_dash, less_pad2 _ _ (by omega) (by omega), less_dash, less_pad2 _ _ (by omega) (by omega)]
  have e3 : Op.bytesLess [] [] = false := rfl
  rw [e3]
  have a1 := dA_low y m m1 m2
  have a2 := dA_high y m m1 m2
  have a3 := dA_low Y M m3 m4
  have a4 := dA_high Y M m3 m4
  constructor
  · rintro (h | ⟨rfl, h | ⟨rfl, h | ⟨_, h⟩⟩⟩)
    · have := yA_mono (a := (y : Int) + 1) (b := Y) (by omega); omega
    · have := dA_lt y m M m1 (by omega) m4; omega
    · omega
    · cases h
  · intro h
    rcases Nat.lt_trichotomy y Y with c | c | c
    · exact .inl c
    · subst c
      refine .inr ⟨rfl, ?_⟩
      rcases Nat.lt_trichotomy m M with d | d | d
      · exact .inl d
      · subst d
        exact .inr ⟨rfl, .inl (by omega)⟩
      · have := dA_lt y M m m3 (by omega) m2; omega
    · have := yA_mono (a := (Y : Int) + 1) (b := y) (by omega); omega

theorem nat_date {y m k : Int} (h : Ok y m k) : ∃ Y M K : Nat, y = Y ∧ m = M ∧ k = K := by
  obtain ⟨y1, y2, m1, m2, k1, k2⟩ := h
  exact ⟨y.toNat, m.toNat, k.toNat, by omega, by omega, by omega⟩

set_option maxRecDepth 100000 in
set_option maxHeartbeats 2000000 in
theorem ord_in (a b : Int) (l : List UInt8) (a1 : 1 ≤ a) (a2 : a ≤ 3652059) (w : World) (hP : TabP w) (hL : TabL w) (hA : TabA w) :
    Calls Tryd.prog 3 #[.int .i64 a, .int .i64 b, .string ⟨l.toArray⟩] w fun e w' => e = .returned (.bool true) ∧ Up w w' := by
  obtain ⟨y0, m0, k0, ok0, ed0⟩ := civil_exists a a1 a2
  obtain ⟨y, m, k, rfl, rfl, rfl⟩ := nat_date ok0
  have FA : Hid (∀ w : World, TabA w → TabP w → Calls Tryd.prog 9 #[.int .i64 a] w fun e w' => e = .returned (.tuple #[.string ⟨(dateT y m k).toArray⟩, .bool true]) ∧ Up w w') := fun w hA hP => format_at y m k a ok0 ed0 w hA hP
  have PA : Hid (∀ w : World, TabA w → TabL w → Calls Tryd.prog 10 #[.string ⟨(dateT y m k).toArray⟩] w fun e w' => e = .returned (.tuple #[.int .i64 a, .bool true]) ∧ Up w w') := fun w hA hL => by
    have := parse_at (dateT y m k) w hA hL
    rw [parse_date y m k ok0, ed0] at this; exact this
  have LA : (dateT y m k).length = 10 := rfl
  have HA : Hid (TabA w) := hA
  have HL : Hid (TabL w) := hL
  have HP : Hid (TabP w) := hP
  obtain ⟨r, hr⟩ : ∃ r, parseO l = r := ⟨_, rfl⟩
  have PT : Hid (∀ w : World, TabA w → TabL w → Calls Tryd.prog 10 #[.string ⟨l.toArray⟩] w fun e w' => e = .returned (.tuple #[.int .i64 (optZ r), .bool r.isSome]) ∧ Up w w') := fun w hA hL => by rw [← hr]; exact parse_at l w hA hL
  have FX : Hid (∀ x, r = some x → ∀ w : World, TabA w → TabP w → Calls Tryd.prog 9 #[.int .i64 x] w fun e w' => e = .returned (.tuple #[.string ⟨l.toArray⟩, .bool true]) ∧ Up w w') := fun x hx w hA hP => by
    obtain ⟨Y, M, K, ok, ed, rfl⟩ := parse_some (hr.trans hx)
    exact format_at Y M K x ok ed w hA hP
  have OKA : Hid (Ok y m k ∧ dA y m + k = a) := ⟨ok0, ed0⟩
  clear hA hL hP hr ok0 ed0
  by_cases hb : 1 ≤ b ∧ b ≤ 3652059
  · obtain ⟨y9, m9, k9, ok9, ed9⟩ := civil_exists b hb.1 hb.2
    obtain ⟨Y, M, K, rfl, rfl, rfl⟩ := nat_date ok9
    have FB : Hid (∀ w : World, TabA w → TabP w → Calls Tryd.prog 9 #[.int .i64 b] w fun e w' => e = .returned (.tuple #[.string ⟨(dateT Y M K).toArray⟩, .bool true]) ∧ Up w w') := fun w hA hP => format_at Y M K b ok9 ed9 w hA hP
    have LS : Hid (Op.bytesLess (dateT y m k) (dateT Y M K) = decide (a < b)) := by
      have h1 := OKA.out
      show Op.bytesLess (dateT y m k) (dateT Y M K) = decide (a < b)
      rw [less_date y m k Y M K h1.1 ok9, h1.2, ed9]
    clear ok9 ed9
    cases r with
    | none =>
      simp only [optZ, Option.isSome] at PT
      clear FX
      go_enter Tryd.func3, Tryd.ntmps3
      go_wp2_with fail
      refine (FA.out _ HA.out HP.out).mono ?_
      rintro e w1 ⟨rfl, V1⟩
      have U1 : Hid (Up w w1) := V1
      clear V1
      go_wp2_with fail
      refine (PA.out _ (HA.out.up U1.out) (HL.out.up U1.out)).mono ?_
      rintro e w2 ⟨rfl, V2⟩
      have U2 : Hid (Up w w2) := U1.out.trans V2
      clear V2
      go_wp2_with fail
      refine (PT.out _ (HA.out.up U2.out) (HL.out.up U2.out)).mono ?_
      rintro e w3 ⟨rfl, V3⟩
      have U3 : Hid (Up w w3) := U2.out.trans V3
      clear V3
      go_wp2_with fail
      refine (FB.out _ (HA.out.up U3.out) (HP.out.up U3.out)).mono ?_
      rintro e w4 ⟨rfl, V4⟩
      have U4 : Hid (Up w w4) := U3.out.trans V4
      clear V4
      go_wp2_with fail
      go_ret
      exact ⟨ret_bool (by rw [LS.out]; simp), U4.out⟩
    | some x =>
      simp only [optZ, Option.isSome] at PT
      have FX' : Hid (∀ w : World, TabA w → TabP w → Calls Tryd.prog 9 #[.int .i64 x] w fun e w' => e = .returned (.tuple #[.string ⟨l.toArray⟩, .bool true]) ∧ Up w w') := FX.out x rfl
      clear FX
      go_enter Tryd.func3, Tryd.ntmps3
      go_wp2_with fail
      refine (FA.out _ HA.out HP.out).mono ?_
      rintro e w1 ⟨rfl, V1⟩
      have U1 : Hid (Up w w1) := V1
      clear V1
      go_wp2_with fail
      refine (PA.out _ (HA.out.up U1.out) (HL.out.up U1.out)).mono ?_
      rintro e w2 ⟨rfl, V2⟩
      have U2 : Hid (Up w w2) := U1.out.trans V2
      clear V2
      go_wp2_with fail
      refine (PT.out _ (HA.out.up U2.out) (HL.out.up U2.out)).mono ?_
      rintro e w3 ⟨rfl, V3⟩
      have U3 : Hid (Up w w3) := U2.out.trans V3
      clear V3
      go_wp2_with fail
      refine (FX'.out _ (HA.out.up U3.out) (HP.out.up U3.out)).mono ?_
      rintro e w5 ⟨rfl, V5⟩
      have U5 : Hid (Up w w5) := U3.out.trans V5
      clear V5
      go_wp2_with fail
      refine (FB.out _ (HA.out.up U5.out) (HP.out.up U5.out)).mono ?_
      rintro e w4 ⟨rfl, V4⟩
      have U4 : Hid (Up w w4) := U5.out.trans V4
      clear V4
      go_wp2_with fail
      go_ret
      exact ⟨ret_bool (by rw [LS.out]; simp), U4.out⟩
  · have FB : Hid (∀ w : World, TabA w → TabP w → Calls Tryd.prog 9 #[.int .i64 b] w fun e w' => e = .returned (.tuple #[.string ⟨#[]⟩, .bool false]) ∧ Up w w') := fun w _ _ => format_no b hb w
    cases r with
    | none =>
      simp only [optZ, Option.isSome] at PT
      clear FX
      go_enter Tryd.func3, Tryd.ntmps3
      go_wp2_with fail
      refine (FA.out _ HA.out HP.out).mono ?_
      rintro e w1 ⟨rfl, V1⟩
      have U1 : Hid (Up w w1) := V1
      clear V1
      go_wp2_with fail
      refine (PA.out _ (HA.out.up U1.out) (HL.out.up U1.out)).mono ?_
      rintro e w2 ⟨rfl, V2⟩
      have U2 : Hid (Up w w2) := U1.out.trans V2
      clear V2
      go_wp2_with fail
      refine (PT.out _ (HA.out.up U2.out) (HL.out.up U2.out)).mono ?_
      rintro e w3 ⟨rfl, V3⟩
      have U3 : Hid (Up w w3) := U2.out.trans V3
      clear V3
      go_wp2_with fail
      refine (FB.out _ (HA.out.up U3.out) (HP.out.up U3.out)).mono ?_
      rintro e w4 ⟨rfl, V4⟩
      have U4 : Hid (Up w w4) := U3.out.trans V4
      clear V4
      go_wp2_with fail
      go_ret
      exact ⟨rfl, U4.out⟩
    | some x =>
      simp only [optZ, Option.isSome] at PT
      have FX' : Hid (∀ w : World, TabA w → TabP w → Calls Tryd.prog 9 #[.int .i64 x] w fun e w' => e = .returned (.tuple #[.string ⟨l.toArray⟩, .bool true]) ∧ Up w w') := FX.out x rfl
      clear FX
      go_enter Tryd.func3, Tryd.ntmps3
      go_wp2_with fail
      refine (FA.out _ HA.out HP.out).mono ?_
      rintro e w1 ⟨rfl, V1⟩
      have U1 : Hid (Up w w1) := V1
      clear V1
      go_wp2_with fail
      refine (PA.out _ (HA.out.up U1.out) (HL.out.up U1.out)).mono ?_
      rintro e w2 ⟨rfl, V2⟩
      have U2 : Hid (Up w w2) := U1.out.trans V2
      clear V2
      go_wp2_with fail
      refine (PT.out _ (HA.out.up U2.out) (HL.out.up U2.out)).mono ?_
      rintro e w3 ⟨rfl, V3⟩
      have U3 : Hid (Up w w3) := U2.out.trans V3
      clear V3
      go_wp2_with fail
      refine (FX'.out _ (HA.out.up U3.out) (HP.out.up U3.out)).mono ?_
      rintro e w5 ⟨rfl, V5⟩
      have U5 : Hid (Up w w5) := U3.out.trans V5
      clear V5
      go_wp2_with fail
      refine (FB.out _ (HA.out.up U5.out) (HP.out.up U5.out)).mono ?_
      rintro e w4 ⟨rfl, V4⟩
      have U4 : Hid (Up w w4) := U5.out.trans V4
      clear V4
      go_wp2_with fail
      go_ret
      exact ⟨rfl, U4.out⟩

set_option maxHeartbeats 1000000 in
theorem ord_walk (a : Int) (_ : -9223372036854775808 ≤ a) (_ : a ≤ 9223372036854775807) (b : Int) (_ : -9223372036854775808 ≤ b) (_ : b ≤ 9223372036854775807) (l : List UInt8) (w : World) (hP : TabP w) (hL : TabL w) (hA : TabA w) :
    Calls Tryd.prog 3 #[.int .i64 a, .int .i64 b, .string ⟨l.toArray⟩] w fun e w' => e = .returned (.bool true) ∧ Up w w' := by
  by_cases h : 1 ≤ a ∧ a ≤ 3652059
  · exact ord_in a b l h.1 h.2 w hP hL hA
  · have FN : Hid (∀ w : World, Calls Tryd.prog 9 #[.int .i64 a] w fun e w' => e = .returned (.tuple #[.string ⟨#[]⟩, .bool false]) ∧ Up w w') := fun w => format_no a h w
    have HO : Hid (¬(1 ≤ a ∧ a ≤ 3652059)) := h
    clear h
    go_enter Tryd.func3, Tryd.ntmps3
    go_wp2_with fail
    refine (FN.out _).mono ?_
    rintro e w1 ⟨rfl, V1⟩
    have U1 : Hid (Up w w1) := V1
    clear V1
    go_wp2_with fail
    all_goals first
      | (exfalso
         exact HO.out (by omega))
      | (go_ret
         exact ⟨rfl, U1.out⟩)
end Go.Proofs.YtnelmgjdbheogabDoor
