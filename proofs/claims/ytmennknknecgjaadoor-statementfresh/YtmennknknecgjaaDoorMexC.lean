/-
  Ours: MexFmt, MexParse, joined.
-/
import Derived.Test.YtmennknknecgjaaDoorMrtGo
import Derived.Deep.RegionHeld
import Derived.Test.YtmennknknecgjaaDoorRefSign
namespace Go.Proofs.YtmennknknecgjaaDoor
open Go.RowKit Go.Sort Go.Lib

theorem var_keeps {w w' : World} {n : String} {cs : Array Value} (hb : Below w.heap.size w w') (hv : w.var? Tryd.prog n = some cs) : w'.var? Tryd.prog n = some cs := by
  unfold World.var? at hv ⊢
  cases hg : Tryd.prog.globalNamed n with
  | none => rw [hg] at hv; cases hv
  | some g =>
    rw [hg] at hv
    simp only [Option.bind_some] at hv ⊢
    have lt : g < w.heap.size := by
      refine Classical.byContradiction fun hn => ?_
      rw [Array.getElem?_eq_none (by omega)] at hv
      cases hv
    rw [hb.block g lt]
    exact hv
theorem ErrW.below {w w' : World} (h : ErrW w) (hb : Below w.heap.size w w') : ErrW w' := by
  obtain ⟨tp, p, h1⟩ := h.syn
  obtain ⟨tq, q, h2⟩ := h.ran
  exact ⟨⟨tp, p, var_keeps hb h1⟩, ⟨tq, q, var_keeps hb h2⟩⟩

theorem extract_eq (l : List UInt8) (i j : Nat) : ({ data := l.toArray } : ByteArray).extract i j = { data := ((l.drop i).take (j - i)).toArray } := by
  apply ByteArray.ext
  simp [ByteArray.data_extract]

theorem wrap_small (x : Int) (h0 : 0 ≤ x) (h1 : x ≤ 100) : IntKind.i64.wrap x = x := by
  simp [IntKind.wrap, IntKind.bits, IntKind.signed]
  omega
theorem un_eq (l : List UInt8) (i j : Nat) (hi : i = l.length - 3) (hj : j = l.length - 3 + 1) :
    ({ data := l.toArray } : ByteArray).extract 0 i ++ ({ data := l.toArray } : ByteArray).extract j l.length = { data := (unL l).toArray } := by
  subst hi hj
  rw [extract_eq l 0 _, extract_eq l _ _]
  apply ByteArray.ext
  simp only [ByteArray.data_append, unL, List.drop_zero, Nat.sub_zero]
  rw [List.take_of_length_le (l := l.drop (l.length - 3 + 1)) (by simp)]
  simp

theorem bytes_ne (a b : List UInt8) : (({ data := a.toArray } : ByteArray).toList == ({ data := b.toArray } : ByteArray).toList) = decide (a = b) := by
  rw [Bool.eq_iff_iff]
  simp [ByteArray.toList_eq]
theorem cut_from (t : ByteArray) (n : Nat) (hsz : t.size = n) (h0 : 4 ≤ n) (W : World) : (Instr.sliceAt 9 (.string t) (some (.int .i64 ((n : Int) - 3 + 1))) none none).run Tryd.prog W = .ok (.string (t.extract (n - 3 + 1) n)) W := by
  go_simp
  rw [if_pos (by omega), show ((n : Int) - 3 + 1).toNat = n - 3 + 1 by omega]
theorem cut_to (t : ByteArray) (n : Nat) (hsz : t.size = n) (h0 : 4 ≤ n) (W : World) : (Instr.sliceAt 9 (.string t) none (some (.int .i64 ((n : Int) - 3))) none).run Tryd.prog W = .ok (.string (t.extract 0 (n - 3))) W := by
  go_simp
  rw [if_pos (by omega), show ((n : Int) - 3).toNat = n - 3 by omega]
theorem cut_from2 (t : ByteArray) (n : Nat) (hsz : t.size = n) (h0 : 4 ≤ n) (W : World) : (Instr.slice 9 (.string t) (some (.int .i64 ((n : Int) - 3 + 1))) none none).run Tryd.prog W = .ok (.string (t.extract (n - 3 + 1) n)) W := by
  go_simp
  rw [if_pos (by omega), show ((n : Int) - 3 + 1).toNat = n - 3 + 1 by omega]
theorem cut_to2 (t : ByteArray) (n : Nat) (hsz : t.size = n) (h0 : 4 ≤ n) (W : World) : (Instr.slice 9 (.string t) none (some (.int .i64 ((n : Int) - 3))) none).run Tryd.prog W = .ok (.string (t.extract 0 (n - 3))) W := by
  go_simp
  rw [if_pos (by omega), show ((n : Int) - 3).toNat = n - 3 by omega]
theorem held_err {w a b : World} (hU : Below a.heap.size a b) (h : Below w.heap.size w a ∧ ErrW a) : Below w.heap.size w b ∧ ErrW b := ⟨below_trans h.1 hU, h.2.below hU⟩

end Go.Proofs.YtmennknknecgjaaDoor

namespace Go.Proofs.YtmennknknecgjaaDoor
open Go.RowKit Go.Sort Go.Lib

def PrOk (l : List UInt8) (p : Int × Bool) : Prop :=
  (p.2 = true → fmtL p.1 = l ∧ -9223372036854775808 ≤ p.1 ∧ p.1 ≤ 9223372036854775807) ∧
  (p.2 = false → p.1 = 0 ∧ ∀ x, -9223372036854775808 ≤ x → x ≤ 9223372036854775807 → fmtL x ≠ l)

theorem par_fmt (x : Int) (h0 : -9223372036854775808 ≤ x) (h1 : x ≤ 9223372036854775807) : parseIntB 64 (unL (fmtL x)) = .ok x := by
  unfold unL
  rw [(fmt_parts x h0 h1).2.2]
  exact par_raw x h0 h1
theorem fmt_inj {x y : Int} (h0 : -9223372036854775808 ≤ x) (h1 : x ≤ 9223372036854775807) (k0 : -9223372036854775808 ≤ y) (k1 : y ≤ 9223372036854775807) (h : fmtL x = fmtL y) : x = y := by
  have a := par_fmt x h0 h1
  rw [h, par_fmt y k0 k1] at a
  injection a with a
  exact a.symm

end Go.Proofs.YtmennknknecgjaaDoor

namespace Go.Proofs.YtmennknknecgjaaDoor
open Go.RowKit Go.Sort Go.Lib

theorem dec1 (m : Nat) (h : m < 10) : decDigits m = [UInt8.ofNat (48 + m)] := by
  rw [decDigits]
  simp [h]

set_option maxHeartbeats 2000000 in
theorem rformat_at (x : Int) (h0 : -9223372036854775808 ≤ x) (h1 : x ≤ 9223372036854775807) (w : World) (htab : TabW w) :
    Calls Tryd.prog 45 #[.int .i64 x] w fun e w' => e = .returned (.string ⟨(fmtL x).toArray⟩) ∧ Below w.heap.size w w' := by
  have SA : Hid (∀ w, Calls Tryd.prog 53 #[.int .i64 x] w fun e w' => e = .returned (.int .u64 (x.natAbs : Int)) ∧ w' = w) := fun w => rsize_any x h0 h1 w
  have F1 : Hid (∀ w, TabW w → Calls Tryd.prog 37 #[.int .u64 ((x.natAbs : Int) / 100), .int .i64 10] w fun e w' => e = .returned (.string ⟨(Lib.decDigits (x.natAbs / 100)).toArray⟩) ∧ Below w.heap.size w w') := fun w h => fmtUint_at (x.natAbs / 100) (by omega) w h
  have F2 : Hid (∀ w, TabW w → Calls Tryd.prog 37 #[.int .u64 ((x.natAbs : Int) % 100 / 10), .int .i64 10] w fun e w' => e = .returned (.string ⟨#[UInt8.ofNat (48 + x.natAbs % 100 / 10)]⟩) ∧ Below w.heap.size w w') := fun w h => by
    have := fmtUint_at (x.natAbs % 100 / 10) (by omega) w h
    rw [dec1 _ (by omega)] at this
    exact this
  have F3 : Hid (∀ w, TabW w → Calls Tryd.prog 37 #[.int .u64 ((x.natAbs : Int) % 10), .int .i64 10] w fun e w' => e = .returned (.string ⟨#[UInt8.ofNat (48 + x.natAbs % 10)]⟩) ∧ Below w.heap.size w w') := fun w h => by
    have := fmtUint_at (x.natAbs % 100 % 10) (by omega) w h
    rw [dec1 _ (by omega), show x.natAbs % 100 % 10 = x.natAbs % 10 by omega] at this
    exact this
  have FL : Hid (fmtL x = if x < 0 then 45 :: (decDigits (x.natAbs / 100) ++ [46, UInt8.ofNat (48 + x.natAbs % 100 / 10), UInt8.ofNat (48 + x.natAbs % 10)]) else decDigits (x.natAbs / 100) ++ [46, UInt8.ofNat (48 + x.natAbs % 100 / 10), UInt8.ofNat (48 + x.natAbs % 10)]) := rfl
  have HT : Hid (TabW w) := htab
  clear htab
  have n1 : (x.natAbs : Int) ≤ 9223372036854775808 := by omega
  have n0 : 0 ≤ (x.natAbs : Int) := by omega
  have hD : (decDigits (x.natAbs / 100)).length ≤ 17 := by rw [decDigits_length]; exact nDigits_le 16 _ (by rw [show 10 ^ (16 + 1) = 100000000000000000 by decide]; omega)
  generalize fmtL x = L at *
  generalize decDigits (x.natAbs / 100) = D at *
  generalize UInt8.ofNat (48 + x.natAbs % 100 / 10) = a at *
  generalize UInt8.ofNat (48 + x.natAbs % 10) = b at *
  generalize (x.natAbs : Int) = n at *
  by_cases hx : x < 0
  all_goals
    have e := FL.out
    first | rw [if_pos hx] at e | rw [if_neg hx] at e
    subst e
    clear FL
    go_enter Tryd.func45, Tryd.ntmps45
    go_wp2_with fail
    refine (SA.out _).mono ?_
    rintro e w1 ⟨rfl, hw⟩; rw [hw]; clear hw w1
    go_wp2_with fail
    refine (F1.out _ HT.out).mono ?_
    rintro e w1 ⟨rfl, U1⟩
    have T1 : Hid (TabW w1) := tab_below HT.out U1
    go_wp2_with fail
    refine (F2.out _ T1.out).mono ?_
    rintro e w2 ⟨rfl, U2⟩
    have T2 : Hid (TabW w2) := tab_below T1.out U2
    go_wp2_with fail
    refine (F3.out _ T2.out).mono ?_
    rintro e w3 ⟨rfl, U3⟩
    go_wp2_with fail
    go_ret
    refine ⟨ret_s ?_, below_trans U1 (below_trans U2 U3)⟩
    apply ByteArray.ext
    simp [ByteArray.data_append]
end Go.Proofs.YtmennknknecgjaaDoor

namespace Go.Proofs.YtmennknknecgjaaDoor
open Go.RowKit Go.Sort Go.Lib

/-- One byte of the reference's reading. -/
def dStep (m : Nat) (c : UInt8) : Nat := if 48 ≤ c.toNat ∧ c.toNat ≤ 57 then (10 * m + (c.toNat - 48)) % 18446744073709551616 else m
def dM (l : List UInt8) : Nat := l.foldl dStep 0
theorem dM_take (l : List UInt8) (k : Nat) (h : k < l.length) : dM (l.take (k + 1)) = dStep (dM (l.take k)) l[k] := by
  have e : l.take (k + 1) = l.take k ++ [l[k]] := by rw [List.take_add_one, List.getElem?_eq_getElem h]; rfl
  unfold dM
  rw [e, List.foldl_append]; rfl
theorem dM_lt (l : List UInt8) : dM l < 18446744073709551616 := by
  have : ∀ (l : List UInt8) (m : Nat), m < 18446744073709551616 → l.foldl dStep m < 18446744073709551616 := by
    intro l
    induction l with
    | nil => intro m h; exact h
    | cons c l ih =>
      intro m h
      apply ih
      unfold dStep; split <;> omega
  exact this l 0 (by omega)
theorem fold_dec (r : List UInt8) : ∀ u : Nat, u ≤ 18446744073709551615 → (decDigits u ++ r).foldl dStep 0 = r.foldl dStep u := by
  intro u
  induction u using Nat.strongRecOn generalizing r with
  | _ u ih =>
    intro hu
    by_cases h : u < 10
    · rw [decDigits, dif_pos h]
      simp only [List.cons_append, List.nil_append, List.foldl_cons, dStep]
      rw [u8_nat (by omega), if_pos (by omega)]
      congr 1; omega
    · rw [decDigits, dif_neg h, List.append_assoc, ih (u / 10) (by omega) _ (by omega)]
      simp only [List.cons_append, List.nil_append, List.foldl_cons, dStep]
      rw [u8_nat (by omega), if_pos (by omega)]
      congr 1; omega
theorem fold_amt (n : Nat) (h : n ≤ 9223372036854775808) : (amtL n).foldl dStep 0 = n := by
  unfold amtL
  have e46 : ∀ u, dStep u 46 = u := fun u => by unfold dStep; rw [if_neg (by decide)]
  rw [fold_dec _ _ (by omega), List.foldl_cons, e46]
  simp only [List.foldl_cons, List.foldl_nil, dStep]
  rw [u8_nat (by omega), u8_nat (by omega), if_pos (by omega), if_pos (by omega)]
  omega
theorem dM_fmt (x : Int) (h0 : -9223372036854775808 ≤ x) (h1 : x ≤ 9223372036854775807) : dM (fmtL x) = x.natAbs := by
  unfold dM fmtL
  split
  · rw [List.foldl_cons, show dStep 0 45 = 0 by decide]
    exact fold_amt _ (by omega)
  · exact fold_amt _ (by omega)
theorem head_fmt (x : Int) : (fmtL x)[0]? = some 45 ↔ x < 0 := by
  unfold fmtL
  split
  · rename_i h; simp [h]
  · rename_i h
    obtain ⟨c, r, e, c0, c1⟩ := dec_head (x.natAbs / 100)
    unfold amtL
    rw [e]
    simp
    constructor
    · intro hc; subst hc; exact absurd c0 (by decide)
    · intro hx; omega

/-- The number that the reference tries. -/
def tryX (l : List UInt8) : Int := if l[0]? = some 45 then wrap64 (-(wrap64 (dM l : Int))) else wrap64 (dM l : Int)
theorem tryX_fmt (x : Int) (h0 : -9223372036854775808 ≤ x) (h1 : x ≤ 9223372036854775807) : tryX (fmtL x) = x := by
  unfold tryX
  rw [dM_fmt x h0 h1]
  by_cases hx : x < 0
  · rw [if_pos ((head_fmt x).2 hx)]; unfold wrap64; omega
  · rw [if_neg (fun h => hx ((head_fmt x).1 h))]; unfold wrap64; omega
theorem tryX_b (l : List UInt8) : -9223372036854775808 ≤ tryX l ∧ tryX l ≤ 9223372036854775807 := by
  unfold tryX wrap64; split <;> omega

theorem prOk_uniq {l : List UInt8} {p q : Int × Bool} (hp : PrOk l p) (hq : PrOk l q) : p = q := by
  obtain ⟨a, b⟩ := p
  obtain ⟨c, d⟩ := q
  obtain ⟨p1, p2⟩ := hp
  obtain ⟨q1, q2⟩ := hq
  simp only at p1 p2 q1 q2
  cases b with
  | true =>
    obtain ⟨e1, e2, e3⟩ := p1 rfl
    cases d with
    | true =>
      obtain ⟨f1, f2, f3⟩ := q1 rfl
      rw [fmt_inj e2 e3 f2 f3 (e1.trans f1.symm)]
    | false => exact absurd e1 ((q2 rfl).2 a e2 e3)
  | false =>
    cases d with
    | true =>
      obtain ⟨f1, f2, f3⟩ := q1 rfl
      exact absurd f1 ((p2 rfl).2 c f2 f3)
    | false => rw [(p2 rfl).1, (q2 rfl).1]

end Go.Proofs.YtmennknknecgjaaDoor
