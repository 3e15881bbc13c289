/-
  Ours: MexFmt, MexParse, joined.
-/
import Derived.Test.YtpkgdkgbbbbaoaaDoorMrtGo
import Derived.Test.YtpkgdkgbbbbaoaaDoorRefSign
import Derived.Test.YtpkgdkgbbbbaoaaDoorMrtWalk1
namespace Go.Proofs.YtpkgdkgbbbbaoaaDoor
open Go.RowKit Go.Sort Go.Lib

theorem dec1 (m : Nat) (h : m < 10) : decDigits m = [UInt8.ofNat (48 + m)] := by
  rw [decDigits]
  simp [h]

set_option maxHeartbeats 2000000 in
theorem rformat_at (x : Int) (h0 : -9223372036854775808 ≤ x) (h1 : x ≤ 9223372036854775807) (w : World) (htab : TabW w) :
    Calls Tryd.prog 16 #[.int .i64 x] w fun e w' => e = .returned (.string ⟨(fmtL x).toArray⟩) ∧ Below w.heap.size w w' := by
  have SA : Hid (∀ w, Calls Tryd.prog 32 #[.int .i64 x] w fun e w' => e = .returned (.int .u64 (x.natAbs : Int)) ∧ w' = w) := fun w => rsize_any x h0 h1 w
  have F1 : Hid (∀ w, TabW w → Calls Tryd.prog 33 #[.int .u64 ((x.natAbs : Int) / 100), .int .i64 10] w fun e w' => e = .returned (.string ⟨(Lib.decDigits (x.natAbs / 100)).toArray⟩) ∧ Below w.heap.size w w') := fun w h => fmtUint_at (x.natAbs / 100) (by omega) w h
  have F2 : Hid (∀ w, TabW w → Calls Tryd.prog 33 #[.int .u64 ((x.natAbs : Int) % 100 / 10), .int .i64 10] w fun e w' => e = .returned (.string ⟨#[UInt8.ofNat (48 + x.natAbs % 100 / 10)]⟩) ∧ Below w.heap.size w w') := fun w h => by
    have := fmtUint_at (x.natAbs % 100 / 10) (by omega) w h
    rw [dec1 _ (by omega)] at this
    exact this
  have F3 : Hid (∀ w, TabW w → Calls Tryd.prog 33 #[.int .u64 ((x.natAbs : Int) % 10), .int .i64 10] w fun e w' => e = .returned (.string ⟨#[UInt8.ofNat (48 + x.natAbs % 10)]⟩) ∧ Below w.heap.size w w') := fun w h => by
    have := fmtUint_at (x.natAbs % 100 % 10) (by omega) w h
    rw [dec1 _ (by omega), show x.natAbs % 100 % 10 = x.natAbs % 10 by omega] at this
    exact this
  have FL : Hid (fmtL x = if x < 0 then 45 :: (decDigits (x.natAbs / 100) ++ [46, UInt8.ofNat (48 + x.natAbs % 100 / 10), UInt8.ofNat (48 + x.natAbs % 10)]) else decDigits (x.natAbs / 100) ++ [46, UInt8.ofNat (48 + x.natAbs % 100 / 10), UInt8.ofNat (48 + x.natAbs % 10)]) := rfl
  have HT : Hid (TabW w) := htab
  clear htab
  have n1 : (x.natAbs : Int) ≤ 9223372036854775808 := by omega
  have n0 : 0 ≤ (x.natAbs : Int) := by omega
  have hD : (decDigits (x.natAbs / 100)).length ≤ 17 := by rw [decDigits_length]; exact nDigits_le 16 _ (by rw [show 10 ^ (16 + 1) = 100000000000000000 by decide]; omega)
  generalize fmtL x = L at *
  generalize decDigits (x.natAbs / 100) = D at *
  generalize UInt8.ofNat (48 + x.natAbs % 100 / 10) = a at *
  generalize UInt8.ofNat (48 + x.natAbs % 10) = b at *
  generalize (x.natAbs : Int) = n at *
  by_cases hx : x < 0
  all_goals
    have e := FL.out
    first | rw [if_pos hx] at e | rw [if_neg hx] at e
    subst e
    clear FL
    go_enter Tryd.func16, Tryd.ntmps16
    go_wp2_with fail
    refine (SA.out _).mono ?_
    rintro e w1 ⟨rfl, hw⟩; rw [hw]; clear hw w1
    go_wp2_with fail
    refine (F1.out _ HT.out).mono ?_
    rintro e w1 ⟨rfl, U1⟩
    have T1 : Hid (TabW w1) := tab_below HT.out U1
    go_wp2_with fail
    refine (F2.out _ T1.out).mono ?_
    rintro e w2 ⟨rfl, U2⟩
    have T2 : Hid (TabW w2) := tab_below T1.out U2
    go_wp2_with fail
    refine (F3.out _ T2.out).mono ?_
    rintro e w3 ⟨rfl, U3⟩
    go_wp2_with fail
    go_ret
    refine ⟨ret_s ?_, below_trans U1 (below_trans U2 U3)⟩
    apply ByteArray.ext
    simp [ByteArray.data_append]
end Go.Proofs.YtpkgdkgbbbbaoaaDoor

namespace Go.Proofs.YtpkgdkgbbbbaoaaDoor
open Go.RowKit Go.Sort Go.Lib

/-- One byte of the reference's reading. -/
def dStep (m : Nat) (c : UInt8) : Nat := if 48 ≤ c.toNat ∧ c.toNat ≤ 57 then (10 * m + (c.toNat - 48)) % 18446744073709551616 else m
def dM (l : List UInt8) : Nat := l.foldl dStep 0
theorem dM_take (l : List UInt8) (k : Nat) (h : k < l.length) : dM (l.take (k + 1)) = dStep (dM (l.take k)) l[k] := by
  have e : l.take (k + 1) = l.take k ++ [l[k]] := by rw [List.take_add_one, List.getElem?_eq_getElem h]; rfl
  unfold dM
  rw [e, List.foldl_append]; rfl
theorem dM_lt (l : List UInt8) : dM l < 18446744073709551616 := by
  have : ∀ (l : List UInt8) (m : Nat), m < 18446744073709551616 → l.foldl dStep m < 18446744073709551616 := by
    intro l
    induction l with
    | nil => intro m h; exact h
    | cons c l ih =>
      intro m h
      apply ih
      unfold dStep; split <;> omega
  exact this l 0 (by omega)
theorem fold_dec (r : List UInt8) : ∀ u : Nat, u ≤ 18446744073709551615 → (decDigits u ++ r).foldl dStep 0 = r.foldl dStep u := by
  intro u
  induction u using Nat.strongRecOn generalizing r with
  | _ u ih =>
    intro hu
    by_cases h : u < 10
    · rw [decDigits, dif_pos h]
      simp only [List.cons_append, List.nil_append, List.foldl_cons, dStep]
      rw [u8_nat (by omega), if_pos (by omega)]
      congr 1; omega
    · rw [decDigits, dif_neg h, List.append_assoc, ih (u / 10) (by omega) _ (by omega)]
      simp only [List.cons_append, List.nil_append, List.foldl_cons, dStep]
      rw [u8_nat (by omega), if_pos (by omega)]
      congr 1; omega
theorem fold_amt (n : Nat) (h : n ≤ 9223372036854775808) : (amtL n).foldl dStep 0 = n := by
  unfold amtL
  have e46 : ∀ u, dStep u 46 = u := fun u => by unfold dStep; rw [if_neg (by decide)]
  rw [fold_dec _ _ (by omega), List.foldl_cons, e46]
  simp only [List.foldl_cons, List.foldl_nil, dStep]
  rw [u8_nat (by omega), u8_nat (by omega), if_pos (by omega), if_pos (by omega)]
  omega
theorem dM_fmt (x : Int) (h0 : -9223372036854775808 ≤ x) (h1 : x ≤ 9223372036854775807) : dM (fmtL x) = x.natAbs := by
  unfold dM fmtL
  split
  · rw [List.foldl_cons, show dStep 0 45 = 0 by decide]
    exact fold_amt _ (by omega)
  · exact fold_amt _ (by omega)
theorem head_fmt (x : Int) : (fmtL x)[0]? = some 45 ↔ x < 0 := by
  unfold fmtL
  split
  · rename_i h; simp [h]
  · rename_i h
    obtain ⟨c, r, e, c0, c1⟩ := dec_head (x.natAbs / 100)
    unfold amtL
    rw [e]
    simp
    constructor
    · intro hc; subst hc; exact absurd c0 (by decide)
    · intro hx; omega

/-- The number that the reference tries. -/
def tryX (l : List UInt8) : Int := if l[0]? = some 45 then wrap64 (-(wrap64 (dM l : Int))) else wrap64 (dM l : Int)
theorem tryX_fmt (x : Int) (h0 : -9223372036854775808 ≤ x) (h1 : x ≤ 9223372036854775807) : tryX (fmtL x) = x := by
  unfold tryX
  rw [dM_fmt x h0 h1]
  by_cases hx : x < 0
  · rw [if_pos ((head_fmt x).2 hx)]; unfold wrap64; omega
  · rw [if_neg (fun h => hx ((head_fmt x).1 h))]; unfold wrap64; omega
theorem tryX_b (l : List UInt8) : -9223372036854775808 ≤ tryX l ∧ tryX l ≤ 9223372036854775807 := by
  unfold tryX wrap64; split <;> omega

theorem prOk_uniq {l : List UInt8} {p q : Int × Bool} (hp : PrOk l p) (hq : PrOk l q) : p = q := by
  obtain ⟨a, b⟩ := p
  obtain ⟨c, d⟩ := q
  obtain ⟨p1, p2⟩ := hp
  obtain ⟨q1, q2⟩ := hq
  simp only at p1 p2 q1 q2
  cases b with
  | true =>
    obtain ⟨e1, e2, e3⟩ := p1 rfl
    cases d with
    | true =>
      obtain ⟨f1, f2, f3⟩ := q1 rfl
      rw [fmt_inj e2 e3 f2 f3 (e1.trans f1.symm)]
    | false => exact absurd e1 ((q2 rfl).2 a e2 e3)
  | false =>
    cases d with
    | true =>
      obtain ⟨f1, f2, f3⟩ := q1 rfl
      exact absurd f1 ((p2 rfl).2 c f2 f3)
    | false => rw [(p2 rfl).1, (q2 rfl).1]

end Go.Proofs.YtpkgdkgbbbbaoaaDoor
