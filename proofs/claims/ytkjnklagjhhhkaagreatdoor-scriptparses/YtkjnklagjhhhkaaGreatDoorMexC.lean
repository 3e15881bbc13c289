/-
  Ours: MexFmt, MexParse, joined.
-/
import Derived.Test.YtkjnklagjhhhkaaGreatDoorMrtGo
import Derived.Test.YtkjnklagjhhhkaaGreatDoorRefSign
import Derived.Test.YtkjnklagjhhhkaaGreatDoorMrtWalk1
namespace Go.Proofs.YtkjnklagjhhhkaaGreatDoor
open Go.RowKit Go.Sort Go.Lib

theorem dec1 (m : Nat) (h : m < 10) : decDigits m = [UInt8.ofNat (48 + m)] := by
  rw [decDigits]
  simp [h]

set_option maxHeartbeats 2000000 in
theorem rformat_at (x : Int) (h0 : -9223372036854775808 ≤ x) (h1 : x ≤ 9223372036854775807) (w : World) (htab : TabW w) :
    Calls Tryz.prog 60 #[.int .i64 x] w fun e w' => e = .returned (.string ⟨(fmtL x).toArray⟩) ∧ Below w.heap.size w w' := by
  have SA : Hid (∀ w, Calls Tryz.prog 74 #[.int .i64 x] w fun e w' => e = .returned (.int .u64 (x.natAbs : Int)) ∧ w' = w) := fun w => rsize_any x h0 h1 w
  have F1 : Hid (∀ w, TabW w → Calls Tryz.prog 54 #[.int .u64 ((x.natAbs : Int) / 100), .int .i64 10] w fun e w' => e = .returned (.string ⟨(Lib.decDigits (x.natAbs / 100)).toArray⟩) ∧ Below w.heap.size w w') := fun w h => fmtUint_at (x.natAbs / 100) (by omega) w h
  have F2 : Hid (∀ w, TabW w → Calls Tryz.prog 54 #[.int .u64 ((x.natAbs : Int) % 100 / 10), .int .i64 10] w fun e w' => e = .returned (.string ⟨#[UInt8.ofNat (48 + x.natAbs % 100 / 10)]⟩) ∧ Below w.heap.size w w') := fun w h => by
    have := fmtUint_at (x.natAbs % 100 / 10) (by omega) w h
    rw [dec1 _ (by omega)] at this
    exact this
  have F3 : Hid (∀ w, TabW w → Calls Tryz.prog 54 #[.int .u64 ((x.natAbs : Int) % 10), .int .i64 10] w fun e w' => e = .returned (.string ⟨#[UInt8.ofNat (48 + x.natAbs % 10)]⟩) ∧ Below w.heap.size w w') := fun w h => by
    have := fmtUint_at (x.natAbs % 100 % 10) (by omega) w h
    rw [dec1 _ (by omega), show x.natAbs % 100 % 10 = x.natAbs % 10 by omega] at this
    exact this
  have FL : Hid (fmtL x = if x < 0 then 45 :: (decDigits (x.natAbs / 100) ++ [46, UInt8.ofNat (48 + x.natAbs % 100 / 10), UInt8.ofNat (48 + x.natAbs % 10)]) else decDigits (x.natAbs / 100) ++ [46, UInt8.ofNat (48 + x.natAbs % 100 / 10), UInt8.ofNat (48 + x.natAbs % 10)]) := rfl
  have HT : Hid (TabW w) := htab
  clear htab
  have n1 : (x.natAbs : Int) ≤ 9223372036854775808 := by omega
  have n0 : 0 ≤ (x.natAbs : Int) := by omega
  have hD : (decDigits (x.natAbs / 100)).length ≤ 17 := by rw [decDigits_length]; exact nDigits_le 16 _ (by rw [show 10 ^ (16 + 1) = 100000000000000000 by decide]; omega)
  generalize fmtL x = L at *
  generalize decDigits (x.natAbs / 100) = D at *
  generalize UInt8.ofNat (48 + x.natAbs % 100 / 10) = a at *
  generalize UInt8.ofNat (48 + x.natAbs % 10) = b at *
  generalize (x.natAbs : Int) = n at *
  by_cases hx : x < 0
  all_goals
    have e := FL.out
    first | rw [if_pos hx] at e | rw [if_neg hx] at e
    subst e
    clear FL
    go_enter Tryz.func60, Tryz.ntmps60
    go_wp2_with fail
    refine (SA.out _).mono ?_
    rintro e w1 ⟨rfl, hw⟩; rw [hw]; clear hw w1
    go_wp2_with fail
    refine (F1.out _ HT.out).mono ?_
    rintro e w1 ⟨rfl, U1⟩
    have T1 : Hid (TabW w1) := tab_below HT.out U1
    go_wp2_with fail
    refine (F2.out _ T1.out).mono ?_
    rintro e w2 ⟨rfl, U2⟩
    have T2 : Hid (TabW w2) := tab_below T1.out U2
    go_wp2_with fail
    refine (F3.out _ T2.out).mono ?_
    rintro e w3 ⟨rfl, U3⟩
    go_wp2_with fail
    go_ret
    refine ⟨ret_s ?_, below_trans U1 (below_trans U2 U3)⟩
    apply ByteArray.ext
    simp [ByteArray.data_append]
end Go.Proofs.YtkjnklagjhhhkaaGreatDoor

namespace Go.Proofs.YtkjnklagjhhhkaaGreatDoor
open Go.RowKit Go.Sort Go.Lib

/-- One byte of the reference's reading. -/
def dStep (m : Nat) (c : UInt8) : Nat := if 48 ≤ c.toNat ∧ c.toNat ≤ 57 then (10 * m + (c.toNat - 48)) % 18446744073709551616 else m
def dM (l : List UInt8) : Nat := l.foldl dStep 0
theorem dM_take (l : List UInt8) (k : Nat) (h : k < l.length) : dM (l.take (k + 1)) = dStep (dM (l.take k)) l[k] := by
  have e : l.take (k + 1) = l.take k ++ [l[k]] := by rw [List.take_add_one, List.getElem?_eq_getElem h]; rfl
  unfold dM
  rw [e, List.foldl_append]; rfl
theorem dM_lt (l : List UInt8) : dM l < 18446744073709551616 := by
  have : ∀ (l : List UInt8) (m : Nat), m < 18446744073709551616 → l.foldl dStep m < 18446744073709551616 := by
    intro l
    induction l with
    | nil => intro m h; exact h
    | cons c l ih =>
      intro m h
      apply ih
      unfold dStep; split <;> omega
  exact this l 0 (by omega)
theorem fold_dec (r : List UInt8) : ∀ u : Nat, u ≤ 18446744073709551615 → (decDigits u ++ r).foldl dStep 0 = r.foldl dStep u := by
  intro u
  induction u using Nat.strongRecOn generalizing r with
  | _ u ih =>
    intro hu
    by_cases h : u < 10
    · rw [decDigits, dif_pos h]
      simp only [List.cons_append, List.nil_append, List.foldl_cons, dStep]
      rw [u8_nat (by omega), if_pos (by omega)]
      congr 1; omega
    · rw [decDigits, dif_neg h, List.append_assoc, ih (u / 10) (by omega) _ (by omega)]
      simp only [List.cons_append, List.nil_append, List.foldl_cons, dStep]
      rw [u8_nat (by omega), if_pos (by omega)]
      congr 1; omega
theorem fold_amt (n : Nat) (h : n ≤ 9223372036854775808) : (amtL n).foldl dStep 0 = n := by
  unfold amtL
  have e46 : ∀ u, dStep u 46 = u := fun u => by unfold dStep; rw [if_neg (by decide)]
  rw [fold_dec _ _ (by omega), List.foldl_cons, e46]
  simp only [List.foldl_cons, List.foldl_nil, dStep]
  rw [u8_nat (by omega), u8_nat (by omega), if_pos (by omega), if_pos (by omega)]
  omega
theorem dM_fmt (x : Int) (h0 : -9223372036854775808 ≤ x) (h1 : x ≤ 9223372036854775807) : dM (fmtL x) = x.natAbs := by
  unfold dM fmtL
  split
  · rw [List.foldl_cons, show dStep 0 45 = 0 by decide]
    exact fold_amt _ (by omega)
  · exact fold_amt _ (by omega)
theorem head_fmt (x : Int) : (fmtL x)[0]? = some 45 ↔ x < 0 := by
  unfold fmtL
  split
  · rename_i h; simp [h]
  · rename_i h
    obtain ⟨c, r, e, c0, c1⟩ := dec_head (x.natAbs / 100)
    unfold amtL
    rw [e]
    simp
    constructor
    · intro hc; subst hc; exact absurd c0 (by decide)
    · intro hx; omega

/-- The number that the reference tries. -/
def tryX (l : List UInt8) : Int := if l[0]? = some 45 then wrap64 (-(wrap64 (dM l : Int))) else wrap64 (dM l : Int)
theorem tryX_fmt (x : Int) (h0 : -9223372036854775808 ≤ x) (h1 : x ≤ 9223372036854775807) : tryX (fmtL x) = x := by
  unfold tryX
  rw [dM_fmt x h0 h1]
  by_cases hx : x < 0
  · rw [if_pos ((head_fmt x).2 hx)]; unfold wrap64; omega
  · rw [if_neg (fun h => hx ((head_fmt x).1 h))]; unfold wrap64; omega
theorem tryX_b (l : List UInt8) : -9223372036854775808 ≤ tryX l ∧ tryX l ≤ 9223372036854775807 := by
  unfold tryX wrap64; split <;> omega

theorem prOk_uniq {l : List UInt8} {p q : Int × Bool} (hp : PrOk l p) (hq : PrOk l q) : p = q := by
  obtain ⟨a, b⟩ := p
  obtain ⟨c, d⟩ := q
  obtain ⟨p1, p2⟩ := hp
  obtain ⟨q1, q2⟩ := hq
  simp only at p1 p2 q1 q2
  cases b with
  | true =>
    obtain ⟨e1, e2, e3⟩ := p1 rfl
    cases d with
    | true =>
      obtain ⟨f1, f2, f3⟩ := q1 rfl
      rw [fmt_inj e2 e3 f2 f3 (e1.trans f1.symm)]
    | false => exact absurd e1 ((q2 rfl).2 a e2 e3)
  | false =>
    cases d with
    | true =>
      obtain ⟨f1, f2, f3⟩ := q1 rfl
      exact absurd f1 ((p2 rfl).2 c f2 f3)
    | false => rw [(p2 rfl).1, (q2 rfl).1]

set_option maxRecDepth 20000 in
set_option maxHeartbeats 1000000 in
theorem rparse_any (l : List UInt8) (hs : l.length ≤ 9223372036854775807) (w : World) (ht : TabW w) :
    ∃ p : Int × Bool, PrOk l p ∧ Calls Tryz.prog 44 #[.string ⟨l.toArray⟩] w fun e w' => Below w.heap.size w w' ∧ e = .returned (.tuple #[.int .i64 p.1, .bool p.2]) := by
  have sz : (ByteArray.mk l.toArray).size = l.length := by simp [ByteArray.size]
  by_cases hl : 21 < l.length
  · refine ⟨(0, false), ⟨(fun e => by cases e), fun _ => ⟨rfl, fun x h0 h1 e => ?_⟩⟩, ?_⟩
    · subst e; have := (fmt_parts x h0 h1).1; omega
    · have d : decide ((21 : Int) < (l.length : Int)) = true := decide_eq_true (by omega)
      go_enter Tryz.func44, Tryz.ntmps44
      go_wp2_with fail
      go_ret2
      exact ⟨Below.refl _ _, rfl⟩
  · have xb := tryX_b l
    have F : Hid (∀ w, TabW w → Calls Tryz.prog 60 #[.int .i64 (tryX l)] w fun e w' => e = .returned (.string ⟨(fmtL (tryX l)).toArray⟩) ∧ Below w.heap.size w w') := fun w h => rformat_at _ xb.1 xb.2 w h
    have HT : Hid (TabW w) := ht
    have d : decide ((21 : Int) < (l.length : Int)) = false := decide_eq_false (by omega)
    obtain ⟨X, hX⟩ : ∃ X, tryX l = X := ⟨_, rfl⟩
    rw [hX] at F xb
    have TX : Hid (X = if l[0]? = some 45 then wrap64 (-(wrap64 (dM l : Int))) else wrap64 (dM l : Int)) := hX.symm
    have TF : Hid (∀ x, -9223372036854775808 ≤ x → x ≤ 9223372036854775807 → fmtL x = l → X = x) := fun x h0 h1 e => by rw [← hX, ← e, tryX_fmt x h0 h1]
    clear hX
    obtain ⟨bl, hbl⟩ : ∃ b, decide (fmtL X = l) = b := ⟨_, rfl⟩
    have SE : Hid ((({ data := (fmtL X).toArray } : ByteArray).toList == ({ data := l.toArray } : ByteArray).toList) = bl) := (bytes_ne _ _).trans hbl
    have TL : ({ data := l.toArray } : ByteArray).toList = l := by simp
    rw [TL] at SE
    clear TL
    refine ⟨(if bl then X else 0, bl), ?_, ?_⟩
    · cases bl with
      | true => exact ⟨fun _ => ⟨of_decide_eq_true hbl, xb⟩, fun e => by cases e⟩
      | false =>
        refine ⟨(fun e => by cases e), fun _ => ⟨rfl, fun x h0 h1 e => of_decide_eq_false hbl ?_⟩⟩
        rw [TF.out x h0 h1 e]; exact e
    · clear ht xb hbl TF
      generalize (⟨(fmtL X).toArray⟩ : ByteArray) = SX at *
      simp only
      obtain ⟨V, hV⟩ : ∃ V, (if bl then X else 0) = V := ⟨_, rfl⟩
      have HV : Hid ((if bl then X else 0) = V) := hV
      rw [hV]
      clear hV
      go_enter Tryz.func44, Tryz.ntmps44
      go_wp2_with fail
      go_loopw [4, 5] (fun vm vk wr => wr = w ∧ ∃ (k m : Nat), vk = .int .i64 (k : Int) ∧ k ≤ l.length ∧ vm = .int .u64 (m : Int) ∧ m < 18446744073709551616 ∧ Hid (m = dM (l.take k))) (fun _ vk _ => l.length - (RowKit.intOf vk).toNat)
      case atStart => exact ⟨rfl, 0, 0, rfl, by omega, rfl, by omega, rfl⟩
      case round =>
        obtain ⟨rfl, k, m, rfl, hk, rfl, hm, EQ⟩ := hrel
        by_cases hlt : (k : Int) < (l.length : Int)
        · have hkl : k < l.length := by omega
          have ix : (ByteArray.mk l.toArray)[k]'(by show k < l.toArray.size; rw [List.size_toArray]; exact hkl) = l[k]'hkl := rfl
          have ST : Hid (dM (l.take (k + 1)) = dStep (dM (l.take k)) (l[k]'hkl)) := dM_take l k hkl
          have u8 : ((l[k]'hkl).toNat : Int) < 256 := by have := (l[k]'hkl).toNat_lt; omega
          generalize l[k]'hkl = c at *
          by_cases c1 : 48 ≤ c.toNat ∧ c.toNat ≤ 57
          · have c2 : (48 : Int) ≤ (c.toNat : Int) := by omega
            have c3 : (c.toNat : Int) ≤ 57 := by omega
            have NX : Hid ((10 * m + (c.toNat - 48)) % 18446744073709551616 = dM (l.take (k + 1))) := by
              show _ = _
              rw [ST.out, dStep, if_pos c1, ← EQ.out]
            clear c1
            go_wp2_with fail
            go_roundw
            case rel =>
              refine ⟨trivial, k + 1, (10 * m + (c.toNat - 48)) % 18446744073709551616, by go_num, by omega, ?_, by omega, NX.out⟩
              refine congrArg (Value.int .u64) ?_
              simp only [IntKind.wrap_u64]
              omega
            case measure => simp [RowKit.intOf]; omega
          · have NX : Hid (m = dM (l.take (k + 1))) := by
              show _ = _
              rw [ST.out, dStep, if_neg c1, ← EQ.out]
            have d4 : (decide ((48 : Int) ≤ (c.toNat : Int)) && decide ((c.toNat : Int) ≤ 57)) = false := by
              rw [Bool.and_eq_false_iff, decide_eq_false_iff_not, decide_eq_false_iff_not]; omega
            by_cases c2 : (48 : Int) ≤ (c.toNat : Int)
            · have c3 : decide ((c.toNat : Int) ≤ 57) = false := decide_eq_false (by omega)
              clear c1 d4
              go_wp2_with fail
              go_roundw
              case rel => exact ⟨trivial, k + 1, m, by go_num, by omega, rfl, hm, NX⟩
              case measure => simp [RowKit.intOf]; omega
            · have c3 : decide ((48 : Int) ≤ (c.toNat : Int)) = false := decide_eq_false c2
              clear c1 d4
              go_wp2_with fail
              go_roundw
              case rel => exact ⟨trivial, k + 1, m, by go_num, by omega, rfl, hm, NX⟩
              case measure => simp [RowKit.intOf]; omega
        · obtain rfl : k = l.length := by omega
          have E := EQ.out
          rw [List.take_length] at E
          subst E
          clear EQ
          have mb := dM_lt l
          generalize dM l = m at *
          obtain ⟨Y, hY⟩ : ∃ Y : Int, wrap64 (m : Int) = Y := ⟨_, rfl⟩
          obtain ⟨Z, hZ⟩ : ∃ Z : Int, wrap64 (-Y) = Z := ⟨_, rfl⟩
          rw [hY, hZ] at TX
          by_cases h0 : l.length = 0
          · obtain rfl := List.eq_nil_of_length_eq_zero h0
            obtain rfl : X = Y := TX.out
            have e1 := SE.out
            clear TX SE
            cases bl with
            | true =>
              obtain rfl : X = V := HV.out
              have e2 : (SX.toList == ([] : List UInt8)) = true := e1
              clear HV e1
              go_wp2_with fail
              refine (F.out _ HT.out).mono ?_
              rintro e w2 ⟨rfl, U⟩
              go_wp2_with fail
              go_ret2
              exact ⟨U, rfl⟩
            | false =>
              obtain rfl : (0 : Int) = V := HV.out
              have e2 : (SX.toList == ([] : List UInt8)) = false := e1
              clear HV e1
              go_wp2_with fail
              refine (F.out _ HT.out).mono ?_
              rintro e w2 ⟨rfl, U⟩
              go_wp2_with fail
              go_ret2
              exact ⟨U, rfl⟩
          · have hkl : 0 < l.length := by omega
            have ix : (ByteArray.mk l.toArray)[0]'(by show 0 < l.toArray.size; rw [List.size_toArray]; exact hkl) = l[0]'hkl := rfl
            have hd : l[0]? = some (l[0]'hkl) := List.getElem?_eq_getElem hkl
            have u8 : ((l[0]'hkl).toNat : Int) < 256 := by have := (l[0]'hkl).toNat_lt; omega
            rw [hd] at TX
            generalize l[0]'hkl = c at *
            have d0 : decide ((0 : Int) < (l.length : Int)) = true := decide_eq_true (by omega)
            have e1 := SE.out
            by_cases hc : c = 45
            · subst hc
              obtain rfl : X = Z := by have := TX.out; simpa using this
              clear TX SE hd
              cases bl with
              | true =>
                obtain rfl : X = V := HV.out
                have e2 : (SX.toList == l) = true := e1
                clear HV e1
                go_wp2_with fail
                refine (F.out _ HT.out).mono ?_
                rintro e w2 ⟨rfl, U⟩
                go_wp2_with fail
                go_ret2
                exact ⟨U, rfl⟩
              | false =>
                obtain rfl : (0 : Int) = V := HV.out
                have e2 : (SX.toList == l) = false := e1
                clear HV e1
                go_wp2_with fail
                refine (F.out _ HT.out).mono ?_
                rintro e w2 ⟨rfl, U⟩
                go_wp2_with fail
                go_ret2
                exact ⟨U, rfl⟩
            · have dc : (((c.toNat : Nat) : Int) == 45) = false := by
                rw [beq_eq_false_iff_ne]
                intro h
                apply hc
                apply UInt8.toNat_inj.1
                have : (45 : UInt8).toNat = 45 := rfl
                omega
              obtain rfl : X = Y := by have := TX.out; simpa [hc] using this
              clear TX SE hd hc
              cases bl with
              | true =>
                obtain rfl : X = V := HV.out
                have e2 : (SX.toList == l) = true := e1
                clear HV e1
                go_wp2_with fail
                refine (F.out _ HT.out).mono ?_
                rintro e w2 ⟨rfl, U⟩
                go_wp2_with fail
                go_ret2
                exact ⟨U, rfl⟩
              | false =>
                obtain rfl : (0 : Int) = V := HV.out
                have e2 : (SX.toList == l) = false := e1
                clear HV e1
                go_wp2_with fail
                refine (F.out _ HT.out).mono ?_
                rintro e w2 ⟨rfl, U⟩
                go_wp2_with fail
                go_ret2
                exact ⟨U, rfl⟩
end Go.Proofs.YtkjnklagjhhhkaaGreatDoor
