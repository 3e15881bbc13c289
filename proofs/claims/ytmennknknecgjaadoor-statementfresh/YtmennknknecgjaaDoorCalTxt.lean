/-
  Ours: the texts of dates: what they are; the contract of calendar.FormatDate.
-/
import Derived.Test.YtmennknknecgjaaDoorCalNum
import Derived.Test.YtmennknknecgjaaDoorShelf
import Derived.Sort.Grow
namespace Go.Proofs.YtmennknknecgjaaDoor
open Go.RowKit CalM

/-- The last digits of a number. -/
def dg (n : Nat) : UInt8 := UInt8.ofNat (48 + n % 10)
def pad2 (n : Nat) : List UInt8 := [dg (n / 10), dg n]
def pad4 (n : Nat) : List UInt8 := [dg (n / 1000), dg (n / 100), dg (n / 10), dg n]

theorem dec_lt {u : Nat} (h : u < 10) : Lib.decDigits u = [dg u] := by
  unfold Lib.decDigits; rw [dif_pos h]; unfold dg; rw [Nat.mod_eq_of_lt h]
theorem dec_ge {u : Nat} (h : ¬ u < 10) : Lib.decDigits u = Lib.decDigits (u / 10) ++ [dg u] := by
  conv => lhs; unfold Lib.decDigits
  rw [dif_neg h]; rfl
theorem itoa_100 (n : Nat) (h : n < 100) : Lib.itoa (100 + (n : Int)) = 49 :: pad2 n := by
  unfold Lib.itoa
  rw [if_neg (by omega)]
  have e : (100 + (n : Int)).toNat = 100 + n := by omega
  rw [e, dec_ge (by omega), dec_ge (by omega), dec_lt (by omega)]
  have e1 : (100 + n) / 10 / 10 = 1 := by omega
  have e2 : dg ((100 + n) / 10) = dg (n / 10) := by unfold dg; congr 2; omega
  have e3 : dg (100 + n) = dg n := by unfold dg; congr 2; omega
  rw [e1, e2, e3]; rfl
theorem itoa_10000 (n : Nat) (h : n < 10000) : Lib.itoa (10000 + (n : Int)) = 49 :: pad4 n := by
  unfold Lib.itoa
  rw [if_neg (by omega)]
  have e : (10000 + (n : Int)).toNat = 10000 + n := by omega
  rw [e, dec_ge (by omega), dec_ge (by omega), dec_ge (by omega), dec_ge (by omega), dec_lt (by omega)]
  have e1 : (10000 + n) / 10 / 10 / 10 / 10 = 1 := by omega
  have e2 : dg ((10000 + n) / 10 / 10 / 10) = dg (n / 1000) := by unfold dg; congr 2; omega
  have e3 : dg ((10000 + n) / 10 / 10) = dg (n / 100) := by unfold dg; congr 2; omega
  have e4 : dg ((10000 + n) / 10) = dg (n / 10) := by unfold dg; congr 2; omega
  have e5 : dg (10000 + n) = dg n := by unfold dg; congr 2; omega
  rw [e1, e2, e3, e4, e5]; rfl

/-- A date as a text. -/
def dateT (y m k : Nat) : List UInt8 := pad4 y ++ [45] ++ pad2 m ++ [45] ++ pad2 k

theorem up_grow (w : World) (k : Nat) (os : Array Obj) : Up w (Go.Sort.grow (w.drewN k) os) := by
  refine ⟨rfl, rfl, rfl, ?_, fun b hb => ?_⟩
  · show w.heap.size ≤ (w.heap ++ os).size
    rw [Array.size_append]; omega
  · show (w.heap ++ os)[b]? = w.heap[b]?
    rw [Array.getElem?_append_left hb]
/-- The library's table of powers of ten. -/
def TabP (w : World) : Prop := Lib.TabIs Tryd.prog w "internal/strconv.uint64pow10" .u64 Lib.pow10Tab
theorem gP : Tryd.prog.globalNamed "internal/strconv.uint64pow10" = some 4 := by kernel_rfl
theorem TabP.up {w w' : World} (h : TabP w) (u : Up w w') : TabP w' := by
  have h0 := h.cell gP 0 (by decide)
  exact var?_below u gP (World.block_lt_of_cell? _ _ h0) h
theorem TabP.al {w : World} (h : TabP w) (o : Obj) : TabP (w.alloc o) := h.up ((Up.refl w).alloc o)

theorem ret_sb {a b : ByteArray} {p q : Bool} (h : a = b) (h' : p = q) : Ending.returned (.tuple #[.string a, .bool p]) = .returned (.tuple #[.string b, .bool q]) := by rw [h, h']
theorem ext_tail (b : UInt8) (l : List UInt8) : (ByteArray.mk (b :: l).toArray).extract 1 (l.length + 1) = ⟨l.toArray⟩ := by
  apply ByteArray.ext
  simp [ByteArray.data_extract]

set_option maxHeartbeats 1000000 in
theorem fdate_at (y m k : Nat) (day : Int) (h : Ok y m k) (hd : dA y m + k = day) (w : World) (hA : TabA w) (hP : TabP w) :
    Calls Tryd.prog 11 #[.int .i64 day] w fun e w' => e = .returned (.tuple #[.string ⟨(dateT y m k).toArray⟩, .bool true]) ∧ Up w w' := by
  have CA : Hid (∀ w : World, TabA w → Calls Tryd.prog 19 #[.int .i64 day] w fun e w' => e = .returned (.tuple #[.agg #[.int .i64 y, .int .i64 m, .int .i64 k], .bool true]) ∧ ∃ o, w' = w.alloc o) := fun w hA => civil_at y m k day h hd w hA
  have IT : Hid (∀ (n : Int) (w : World), 0 ≤ n → n ≤ 1000000 → TabP w → Calls Tryd.prog 20 #[.int .i64 n] w fun e w' => e = .returned (.string ⟨(Lib.itoa n).toArray⟩) ∧ Up w w') := fun n w h0 h1 ht => (Tryd.strconv_Itoa n (by omega) (by omega) w ht).mono fun e w' ⟨he, j, os, hw⟩ => ⟨he, by rw [hw]; exact up_grow w j os⟩
  obtain ⟨y1, y2, m1, m2, k1, k2⟩ := h
  have l2 := len_high y m
  have k3 : k < 100 := by omega
  have HA : Hid (TabA w) := hA
  have HP : Hid (TabP w) := hP
  clear hA hP hd k2
  go_enter Tryd.func11, Tryd.ntmps11
  go_wp2_with fail
  refine (CA.out _ (by repeat (first | exact HA.out | refine TabA.al ?_ _))).mono ?_
  rintro e w1 ⟨rfl, o1, hw⟩; rw [hw]; clear hw w1
  go_wp2_with fail
  obtain ⟨W, hW⟩ : ∃ W, ((w.alloc o1).alloc (.cells #[.int .i64 y, .int .i64 m, .int .i64 k] 43)) = W := ⟨_, rfl⟩
  have UW : Hid (Up w W) := by rw [← hW]; repeat (first | exact Up.refl _ | refine Up.alloc ?_ _)
  have PW : Hid (TabP W) := by rw [← hW]; repeat (first | exact HP.out | refine TabP.al ?_ _)
  obtain ⟨bd, hbd⟩ : ∃ bd, w.heap.size + 1 = bd := ⟨_, rfl⟩
  have d1 : W.cell? ⟨bd, 1, none⟩ = some (.int .i64 m) := by subst hW hbd; exact cell_new _ _ _ 1 _ _ rfl (size_al _ _ _ rfl)
  have d2 : W.cell? ⟨bd, 2, none⟩ = some (.int .i64 k) := by subst hW hbd; exact cell_new _ _ _ 2 _ _ rfl (size_al _ _ _ rfl)
  have D1 : Hid (W.cell? ⟨bd, 1, none⟩ = some (.int .i64 m)) := d1
  have D2 : Hid (W.cell? ⟨bd, 2, none⟩ = some (.int .i64 k)) := d2
  have I1 : Hid (∀ w : World, TabP w → Calls Tryd.prog 20 #[.int .i64 (10000 + (y : Int))] w fun e w' => e = .returned (.string ⟨(49 :: pad4 y).toArray⟩) ∧ Up w w') := fun w h => by rw [← itoa_10000 y (by omega)]; exact IT.out _ w (by omega) (by omega) h
  have I2 : Hid (∀ w : World, TabP w → Calls Tryd.prog 20 #[.int .i64 (100 + (m : Int))] w fun e w' => e = .returned (.string ⟨(49 :: pad2 m).toArray⟩) ∧ Up w w') := fun w h => by rw [← itoa_100 m (by omega)]; exact IT.out _ w (by omega) (by omega) h
  have I3 : Hid (∀ w : World, TabP w → Calls Tryd.prog 20 #[.int .i64 (100 + (k : Int))] w fun e w' => e = .returned (.string ⟨(49 :: pad2 k).toArray⟩) ∧ Up w w') := fun w h => by rw [← itoa_100 k (by omega)]; exact IT.out _ w (by omega) (by omega) h
  rw [hW, hbd]
  clear hW hbd CA HA HP IT d1 d2
  have x1 := ext_tail 49 (pad4 y)
  have x2 := ext_tail 49 (pad2 m)
  have x3 := ext_tail 49 (pad2 k)
  refine (I1.out _ PW.out).mono ?_
  rintro e w2 ⟨rfl, U2⟩
  have P2 : Hid (TabP w2) := PW.out.up U2
  have c1 := U2.cell D1.out
  have E2 : Hid (w2.cell? ⟨bd, 2, none⟩ = some (.int .i64 k)) := U2.cell D2.out
  have UU2 : Hid (Up w w2) := UW.out.trans U2
  clear U2 D1 D2 UW PW
  go_wp2_with fail
  refine (I2.out _ P2.out).mono ?_
  rintro e w3 ⟨rfl, U3⟩
  have P3 : Hid (TabP w3) := P2.out.up U3
  have c2 := U3.cell E2.out
  have UU3 : Hid (Up w w3) := UU2.out.trans U3
  clear U3 E2 UU2 c1
  go_wp2_with fail
  refine (I3.out _ P3.out).mono ?_
  rintro e w4 ⟨rfl, U4⟩
  have UU4 : Hid (Up w w4) := UU3.out.trans U4
  clear U4 UU3 c2
  go_wp2_with fail
  go_ret2
  refine ⟨ret_sb ?_ rfl, UU4.out⟩
  apply ByteArray.ext
  simp [ByteArray.data_append, dateT]

theorem fdate_no (day : Int) (h : ¬(1 ≤ day ∧ day ≤ 3652059)) (w : World) :
    Calls Tryd.prog 11 #[.int .i64 day] w fun e w' => e = .returned (.tuple #[.string ⟨#[]⟩, .bool false]) ∧ Up w w' := by
  have CN : Hid (∀ w : World, Calls Tryd.prog 19 #[.int .i64 day] w fun e w' => e = .returned (.tuple #[.agg #[.int .i64 0, .int .i64 0, .int .i64 0], .bool false]) ∧ ∃ o, w' = w.alloc o) := fun w => civil_no day h w
  clear h
  go_enter Tryd.func11, Tryd.ntmps11
  go_wp2_with fail
  refine (CN.out _).mono ?_
  rintro e w1 ⟨rfl, o1, hw⟩; rw [hw]; clear hw w1
  go_wp2_with fail
  go_ret2
  exact ⟨rfl, by repeat (first | exact Up.refl _ | refine Up.alloc ?_ _)⟩

/-- The number of some digits, and whether they are such. -/
def digOk (l : List UInt8) : Bool := l.all fun c => decide (48 ≤ c.toNat ∧ c.toNat ≤ 57)
def digV (l : List UInt8) : Nat := l.foldl (fun n c => 10 * n + (c.toNat - 48)) 0

theorem take_one (l : List UInt8) (k : Nat) (h : k < l.length) : l.take (k + 1) = l.take k ++ [l[k]'h] := by
  rw [List.take_add_one, List.getElem?_eq_getElem h]; rfl
theorem digOk_take (l : List UInt8) (k : Nat) (h : k < l.length) : digOk (l.take (k + 1)) = (digOk (l.take k) && decide (48 ≤ (l[k]'h).toNat ∧ (l[k]'h).toNat ≤ 57)) := by
  rw [take_one l k h]; unfold digOk; rw [List.all_append, List.all_cons, List.all_nil, Bool.and_true]
theorem digV_take (l : List UInt8) (k : Nat) (h : k < l.length) : digV (l.take (k + 1)) = 10 * digV (l.take k) + ((l[k]'h).toNat - 48) := by
  rw [take_one l k h]; unfold digV; rw [List.foldl_append, List.foldl_cons, List.foldl_nil]
theorem digOk_le {l : List UInt8} {k : Nat} (h : digOk (l.take k) = false) : digOk l = false := by
  cases e : digOk l with
  | false => rfl
  | true =>
    exfalso
    have : digOk (l.take k) = true := List.all_eq_true.2 fun c hc => List.all_eq_true.1 e c (List.mem_of_mem_take hc)
    rw [this] at h; cases h

end Go.Proofs.YtmennknknecgjaaDoor
