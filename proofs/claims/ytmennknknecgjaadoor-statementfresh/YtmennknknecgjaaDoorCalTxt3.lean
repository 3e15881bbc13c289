/-
  Ours: contracts of the document's own number, ParseDate, padded, FormatDate; the walk of CalendarTexts.
-/
import Derived.Test.YtmennknknecgjaaDoorCalTxt2
import Derived.Test.YtmennknknecgjaaDoorCalRef2
import Derived.Deep.RegionHeld
namespace Go.Proofs.YtmennknknecgjaaDoor
open Go.RowKit CalM

theorem cat_zero (x : List UInt8) : (ByteArray.mk #[48]) ++ ⟨x.toArray⟩ = ⟨(48 :: x).toArray⟩ := by
  apply ByteArray.ext; simp [ByteArray.data_append]

set_option maxHeartbeats 1000000 in
theorem padded_at (n : Nat) (wd : Nat) (hn : n ≤ 1000000) (hw : wd ≤ 8) (s : List UInt8) (hs : List.replicate (wd - (Lib.decDigits n).length) 48 ++ Lib.decDigits n = s) (w : World) (hP : TabP w) :
    Calls Tryd.prog 26 #[.int .i64 (n : Int), .int .i64 (wd : Int)] w fun e w' => e = .returned (.string ⟨s.toArray⟩) ∧ Up w w' := by
  have IT : Hid (∀ (w : World), TabP w → Calls Tryd.prog 20 #[.int .i64 (n : Int)] w fun e w' => e = .returned (.string ⟨(Lib.decDigits n).toArray⟩) ∧ Up w w') := fun w ht => by
    have e : Lib.itoa (n : Int) = Lib.decDigits n := by unfold Lib.itoa; rw [if_neg (by omega)]; rfl
    rw [← e]
    exact (Tryd.strconv_Itoa n (by omega) (by omega) w ht).mono fun e w' ⟨he, j, os, hw⟩ => ⟨he, by rw [hw]; exact up_grow w j os⟩
  have HP : Hid (TabP w) := hP
  have HS : Hid (List.replicate (wd - (Lib.decDigits n).length) 48 ++ Lib.decDigits n = s) := hs
  clear hP hs
  generalize Lib.decDigits n = d at *
  go_enter Tryd.func26, Tryd.ntmps26
  go_wp2_with fail
  refine (IT.out _ HP.out).mono ?_
  rintro e w1 ⟨rfl, V1⟩
  have U1 : Hid (Up w w1) := V1
  clear V1
  go_wp2_with fail
  go_loopw [5] (fun ss w' => w' = w1 ∧ ∃ x : List UInt8, ss = .string ⟨x.toArray⟩ ∧ Hid (List.replicate (wd - x.length) 48 ++ x = s)) (fun ss _ => match ss with | .string b => wd - b.size | _ => 0)
  case atStart => exact ⟨rfl, d, rfl, HS.out⟩
  case round =>
    obtain ⟨rfl, x, rfl, hx⟩ := hrel
    by_cases hlt : (x.length : Int) < (wd : Int)
    · have cz := cat_zero x
      have NX : Hid (List.replicate (wd - (48 :: x).length) 48 ++ (48 :: x) = s) := by
        show List.replicate (wd - (48 :: x).length) 48 ++ (48 :: x) = s
        rw [← hx.out]
        obtain ⟨j, hj⟩ : ∃ j, wd - x.length = j + 1 := ⟨wd - x.length - 1, by omega⟩
        have e : wd - (48 :: x).length = j := by simp; omega
        rw [e, hj, List.replicate_succ']; simp
      go_wp2_with fail
      go_roundw
      case rel => exact ⟨trivial, 48 :: x, rfl, NX.out⟩
      case measure =>
        show wd - (48 :: x).length < wd - x.length
        simp only [List.length_cons]; omega
    · have e : wd - x.length = 0 := by omega
      have EX : Hid (x = s) := by have := hx.out; rw [e] at this; exact this
      go_wp2_with fail
      go_ret
      exact ⟨by rw [EX.out]; rfl, U1.out⟩

theorem dec_len {n : Nat} : n < 10 → Lib.decDigits n = [dg n] := dec_lt
theorem pad_two (n : Nat) (h : n < 100) : List.replicate (2 - (Lib.decDigits n).length) 48 ++ Lib.decDigits n = pad2 n := by
  by_cases a : n < 10
  · rw [dec_lt a]
    have e : dg (n / 10) = 48 := by unfold dg; rw [show n / 10 % 10 = 0 by omega]; rfl
    simp [pad2, e]
  · rw [dec_ge a, dec_lt (by omega)]
    simp [pad2]
theorem pad_four (n : Nat) (h : n < 10000) : List.replicate (4 - (Lib.decDigits n).length) 48 ++ Lib.decDigits n = pad4 n := by
  have z : ∀ k, k % 10 = 0 → dg k = 48 := fun k hk => by unfold dg; rw [hk]; rfl
  have e1 : n / 10 / 10 = n / 100 := by omega
  have e2 : n / 10 / 10 / 10 = n / 1000 := by omega
  by_cases a : n < 10
  · rw [dec_lt a]
    simp [pad4, z (n / 10) (by omega), z (n / 100) (by omega), z (n / 1000) (by omega), List.replicate]
  · by_cases b : n < 100
    · rw [dec_ge a, dec_lt (by omega)]
      simp [pad4, z (n / 100) (by omega), z (n / 1000) (by omega), List.replicate]
    · by_cases c : n < 1000
      · rw [dec_ge a, dec_ge (by omega), dec_lt (by omega), e1]
        simp [pad4, z (n / 1000) (by omega)]
      · rw [dec_ge a, dec_ge (by omega), dec_ge (by omega), dec_lt (by omega), e2, e1]
        simp [pad4]

theorem held3 {W a b : World} {p1 p2 p3 : Addr} {v1 v2 v3 : Value} (hU : Up a b)
    (h : Up W a ∧ a.cell? p1 = some v1 ∧ a.cell? p2 = some v2 ∧ a.cell? p3 = some v3) :
    Up W b ∧ b.cell? p1 = some v1 ∧ b.cell? p2 = some v2 ∧ b.cell? p3 = some v3 :=
  ⟨h.1.trans hU, hU.cell h.2.1, hU.cell h.2.2.1, hU.cell h.2.2.2⟩

set_option maxHeartbeats 1000000 in
theorem refFormat_at (y m k : Nat) (day : Int) (h : Ok y m k) (hd : dA y m + k = day) (w : World) (hP : TabP w) :
    Calls Tryd.prog 14 #[.int .i64 day] w fun e w' => e = .returned (.tuple #[.string ⟨(dateT y m k).toArray⟩, .bool true]) ∧ Up w w' := by
  have CA : Hid (∀ w : World, Calls Tryd.prog 25 #[.int .i64 day] w fun e w' => e = .returned (.tuple #[.agg #[.int .i64 y, .int .i64 m, .int .i64 k], .bool true]) ∧ ∃ o, w' = w.alloc o) := fun w => refCivil_at y m k day h hd w
  obtain ⟨y1, y2, m1, m2, k1, k2⟩ := h
  have l2 := len_high y m
  have k3 : k < 100 := by omega
  have HP : Hid (TabP w) := hP
  have I1 : Hid (∀ w : World, TabP w → Calls Tryd.prog 26 #[.int .i64 (y : Int), .int .i64 4] w fun e w' => e = .returned (.string ⟨(pad4 y).toArray⟩) ∧ Up w w') := fun w h => padded_at y 4 (by omega) (by omega) _ (pad_four y (by omega)) w h
  have I2 : Hid (∀ w : World, TabP w → Calls Tryd.prog 26 #[.int .i64 (m : Int), .int .i64 2] w fun e w' => e = .returned (.string ⟨(pad2 m).toArray⟩) ∧ Up w w') := fun w h => padded_at m 2 (by omega) (by omega) _ (pad_two m (by omega)) w h
  have I3 : Hid (∀ w : World, TabP w → Calls Tryd.prog 26 #[.int .i64 (k : Int), .int .i64 2] w fun e w' => e = .returned (.string ⟨(pad2 k).toArray⟩) ∧ Up w w') := fun w h => padded_at k 2 (by omega) (by omega) _ (pad_two k k3) w h
  have L4 : (pad4 y).length = 4 := rfl
  have LM : (pad2 m).length = 2 := rfl
  have LK : (pad2 k).length = 2 := rfl
  obtain ⟨T, hT⟩ : ∃ T, dateT y m k = T := ⟨_, rfl⟩
  have HT : Hid (pad4 y ++ [45] ++ pad2 m ++ [45] ++ pad2 k = T) := hT
  rw [hT]
  clear hT
  generalize pad4 y = A4 at *
  generalize pad2 m = B2 at *
  generalize pad2 k = C2 at *
  clear hP hd k2
  go_enter Tryd.func14, Tryd.ntmps14
  go_wp2_with fail
  refine (CA.out _).mono ?_
  rintro e w1 ⟨rfl, o1, hw⟩; rw [hw]; clear hw w1
  go_wp2_with fail
  obtain ⟨W, hW⟩ : ∃ W, ((w.alloc o1).alloc (.cells #[.int .i64 y, .int .i64 m, .int .i64 k] 43)) = W := ⟨_, rfl⟩
  have UW : Up w W := by rw [← hW]; repeat (first | exact Up.refl _ | refine Up.alloc ?_ _)
  have HPW : Hid (TabP w) := HP.out
  obtain ⟨bd, hbd⟩ : ∃ bd, w.heap.size + 1 = bd := ⟨_, rfl⟩
  have d0 : W.cell? ⟨bd, 0, none⟩ = some (.int .i64 (y : Int)) := by subst hW hbd; exact cell_new _ _ _ 0 _ _ rfl (size_al _ _ _ rfl)
  have d1 : W.cell? ⟨bd, 1, none⟩ = some (.int .i64 (m : Int)) := by subst hW hbd; exact cell_new _ _ _ 1 _ _ rfl (size_al _ _ _ rfl)
  have d2 : W.cell? ⟨bd, 2, none⟩ = some (.int .i64 (k : Int)) := by subst hW hbd; exact cell_new _ _ _ 2 _ _ rfl (size_al _ _ _ rfl)
  rw [hW, hbd]
  clear hW hbd CA
  have KK : Hid (∀ (a : World) (n v : Int) (s : List UInt8), (Up w a ∧ a.cell? ⟨bd, 0, none⟩ = some (.int .i64 (y : Int)) ∧ a.cell? ⟨bd, 1, none⟩ = some (.int .i64 (m : Int)) ∧ a.cell? ⟨bd, 2, none⟩ = some (.int .i64 (k : Int))) → ((n = (y : Int) ∧ v = 4 ∧ s = A4) ∨ (n = (m : Int) ∧ v = 2 ∧ s = B2) ∨ (n = (k : Int) ∧ v = 2 ∧ s = C2)) → Calls Tryd.prog 26 #[.int .i64 n, .int .i64 v] a fun e w' => e = .returned (.string ⟨s.toArray⟩) ∧ Up a w') := fun a n v s h hc => by
    rcases hc with ⟨rfl, rfl, rfl⟩ | ⟨rfl, rfl, rfl⟩ | ⟨rfl, rfl, rfl⟩
    · exact I1.out a (HPW.out.up h.1)
    · exact I2.out a (HPW.out.up h.1)
    · exact I3.out a (HPW.out.up h.1)
  clear I1 I2 I3
  go_region_held (fun w' => Up w w' ∧ w'.cell? ⟨bd, 0, none⟩ = some (.int .i64 (y : Int)) ∧ w'.cell? ⟨bd, 1, none⟩ = some (.int .i64 (m : Int)) ∧ w'.cell? ⟨bd, 2, none⟩ = some (.int .i64 (k : Int))) (first | exact ⟨up_drewN UW 1, d0, d1, d2⟩ | exact held3 hU (by assumption)) ((go_at_call 26; refine (KK.out _ _ _ _ (by assumption) (by first | exact .inl ⟨rfl, rfl, rfl⟩ | exact .inr (.inl ⟨rfl, rfl, rfl⟩) | exact .inr (.inr ⟨rfl, rfl, rfl⟩))).mono ?_; rintro e w1 ⟨rfl, hU⟩))
  all_goals
    go_wp2_with fail
    go_ret2
    refine ⟨ret_sb ?_ rfl, And.left (b := w1.cell? ⟨bd, 0, none⟩ = some (.int .i64 (y : Int)) ∧ w1.cell? ⟨bd, 1, none⟩ = some (.int .i64 (m : Int)) ∧ w1.cell? ⟨bd, 2, none⟩ = some (.int .i64 (k : Int))) (by assumption)⟩
    rw [← HT.out]
    apply ByteArray.ext
    simp [ByteArray.data_append]

theorem refFormat_no (day : Int) (h : ¬(1 ≤ day ∧ day ≤ 3652059)) (w : World) :
    Calls Tryd.prog 14 #[.int .i64 day] w fun e w' => e = .returned (.tuple #[.string ⟨#[]⟩, .bool false]) ∧ Up w w' := by
  have CN : Hid (∀ w : World, Calls Tryd.prog 25 #[.int .i64 day] w fun e w' => e = .returned (.tuple #[.agg #[.int .i64 0, .int .i64 0, .int .i64 0], .bool false]) ∧ ∃ o, w' = w.alloc o) := fun w => refCivil_no day h w
  clear h
  go_enter Tryd.func14, Tryd.ntmps14
  go_wp2_with fail
  refine (CN.out _).mono ?_
  rintro e w1 ⟨rfl, o1, hw⟩; rw [hw]; clear hw w1
  go_wp2_with fail
  go_ret2
  exact ⟨rfl, by repeat (first | exact Up.refl _ | refine Up.alloc ?_ _)⟩

theorem format_both (day : Int) : ∃ (t : List UInt8) (b : Bool), Hid (∀ w : World, TabA w → TabP w → Calls Tryd.prog 11 #[.int .i64 day] w fun e w' => e = .returned (.tuple #[.string ⟨t.toArray⟩, .bool b]) ∧ Up w w') ∧ Hid (∀ w : World, TabP w → Calls Tryd.prog 14 #[.int .i64 day] w fun e w' => e = .returned (.tuple #[.string ⟨t.toArray⟩, .bool b]) ∧ Up w w') := by
  by_cases h : 1 ≤ day ∧ day ≤ 3652059
  · obtain ⟨y0, m0, k0, ok0, ed0⟩ := civil_exists day h.1 h.2
    obtain ⟨y, m, k, rfl, rfl, rfl⟩ : ∃ Y M K : Nat, y0 = Y ∧ m0 = M ∧ k0 = K := by
      obtain ⟨y1, y2, m1, m2, k1, k2⟩ := ok0
      exact ⟨y0.toNat, m0.toNat, k0.toNat, by omega, by omega, by omega⟩
    exact ⟨_, _, fun w hA hP => fdate_at y m k day ok0 ed0 w hA hP, fun w hP => refFormat_at y m k day ok0 ed0 w hP⟩
  · exact ⟨[], false, fun w _ _ => fdate_no day h w, fun w _ => refFormat_no day h w⟩

end Go.Proofs.YtmennknknecgjaaDoor
