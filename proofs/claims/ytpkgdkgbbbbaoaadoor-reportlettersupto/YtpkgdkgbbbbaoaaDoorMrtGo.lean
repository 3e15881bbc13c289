/-
  Ours: money.Format and money.Parse.
-/
import Derived.Test.YtpkgdkgbbbbaoaaDoorMrtFmt
import Derived.Test.YtpkgdkgbbbbaoaaDoorMrtMath
import Derived.Lib.ParseIntBTie
import Derived.Lib.AtoiErrMem
namespace Go.Proofs.YtpkgdkgbbbbaoaaDoor
open Go.RowKit Go.Sort Go.Lib

theorem gPw : Tryd.prog.globalNamed "internal/strconv.uint64pow10" = some 6 := by kernel_rfl
theorem tab_below {w w' : World} (h : TabW w) (hb : Below w.heap.size w w') : TabW w' := by
  have h0 := h.cell gPw 0 (by decide)
  exact var?_below hb gPw (World.block_lt_of_cell? _ _ h0) h
theorem below_trans {a b c : World} (h : Below a.heap.size a b) (k : Below b.heap.size b c) : Below a.heap.size a c := h.trans (k.mono h.size)
theorem ret_s {a b : ByteArray} (h : a = b) : Ending.returned (.string a) = .returned (.string b) := by rw [h]
theorem cut_tail (a b : UInt8) : ({ data := #[49, a, b] } : ByteArray).extract 1 3 = { data := #[a, b] } := by
  apply ByteArray.ext
  simp [ByteArray.data_extract]

set_option maxHeartbeats 2000000 in
theorem format_at (x : Int) (h0 : -9223372036854775808 ≤ x) (h1 : x ≤ 9223372036854775807) (w : World) (htab : TabW w) :
    Calls Tryd.prog 22 #[.int .i64 x] w fun e w' => e = .returned (.string ⟨(fmtL x).toArray⟩) ∧ Below w.heap.size w w' := by
  have SA : Hid (∀ w, Calls Tryd.prog 41 #[.int .i64 x] w fun e w' => e = .returned (.int .u64 (x.natAbs : Int)) ∧ w' = w) := fun w => size_any x h0 h1 w
  have F1 : Hid (∀ w, TabW w → Calls Tryd.prog 33 #[.int .u64 ((x.natAbs : Int) / 100), .int .i64 10] w fun e w' => e = .returned (.string ⟨(Lib.decDigits (x.natAbs / 100)).toArray⟩) ∧ Below w.heap.size w w') := fun w h => fmtUint_at (x.natAbs / 100) (by omega) w h
  have F2 : Hid (∀ w, TabW w → Calls Tryd.prog 33 #[.int .u64 (100 + (x.natAbs : Int) % 100), .int .i64 10] w fun e w' => e = .returned (.string ⟨#[49, UInt8.ofNat (48 + x.natAbs % 100 / 10), UInt8.ofNat (48 + x.natAbs % 10)]⟩) ∧ Below w.heap.size w w') := fun w h => by
    have := fmtUint_at (100 + x.natAbs % 100) (by omega) w h
    rw [dec3 _ (by omega), show x.natAbs % 100 % 10 = x.natAbs % 10 by omega] at this
    exact this
  have FL : Hid (fmtL x = if x < 0 then 45 :: (decDigits (x.natAbs / 100) ++ [46, UInt8.ofNat (48 + x.natAbs % 100 / 10), UInt8.ofNat (48 + x.natAbs % 10)]) else decDigits (x.natAbs / 100) ++ [46, UInt8.ofNat (48 + x.natAbs % 100 / 10), UInt8.ofNat (48 + x.natAbs % 10)]) := rfl
  have HT : Hid (TabW w) := htab
  clear htab
  have n1 : (x.natAbs : Int) ≤ 9223372036854775808 := by omega
  have n0 : 0 ≤ (x.natAbs : Int) := by omega
  have hD : (decDigits (x.natAbs / 100)).length ≤ 17 := by rw [decDigits_length]; exact nDigits_le 16 _ (by rw [show 10 ^ (16 + 1) = 100000000000000000 by decide]; omega)
  generalize fmtL x = L at *
  generalize decDigits (x.natAbs / 100) = D at *
  generalize UInt8.ofNat (48 + x.natAbs % 100 / 10) = a at *
  generalize UInt8.ofNat (48 + x.natAbs % 10) = b at *
  generalize (x.natAbs : Int) = n at *
  by_cases hx : x < 0
  · have e := FL.out
    rw [if_pos hx] at e
    subst e
    clear FL
    go_enter Tryd.func22, Tryd.ntmps22
    go_wp2_with fail
    refine (SA.out _).mono ?_
    rintro e w1 ⟨rfl, hw⟩; rw [hw]; clear hw w1
    go_wp2_with fail
    refine (F1.out _ HT.out).mono ?_
    rintro e w1 ⟨rfl, U1⟩
    go_wp2_with fail
    refine (F2.out _ (tab_below HT.out U1)).mono ?_
    rintro e w2 ⟨rfl, U2⟩
    go_wp2_with fail
    go_ret
    refine ⟨ret_s ?_, below_trans U1 U2⟩
    rw [cut_tail]
    apply ByteArray.ext
    simp [ByteArray.data_append]
  · have e := FL.out
    rw [if_neg hx] at e
    subst e
    clear FL
    go_enter Tryd.func22, Tryd.ntmps22
    go_wp2_with fail
    refine (SA.out _).mono ?_
    rintro e w1 ⟨rfl, hw⟩; rw [hw]; clear hw w1
    go_wp2_with fail
    refine (F1.out _ HT.out).mono ?_
    rintro e w1 ⟨rfl, U1⟩
    go_wp2_with fail
    refine (F2.out _ (tab_below HT.out U1)).mono ?_
    rintro e w2 ⟨rfl, U2⟩
    go_wp2_with fail
    go_ret
    refine ⟨ret_s ?_, below_trans U1 U2⟩
    rw [cut_tail]
    apply ByteArray.ext
    simp [ByteArray.data_append]

/-- The text without the byte where the point stands. -/
def unL (l : List UInt8) : List UInt8 := l.take (l.length - 3) ++ l.drop (l.length - 3 + 1)
/-- Does Parse read the text? -/
def ParB (l : List UInt8) (v : Int) : Prop := 4 ≤ l.length ∧ l.length ≤ 21 ∧ Lib.parseIntB 64 (unL l) = .ok v ∧ fmtL v = l

structure ErrW (w : World) : Prop where
  syn : ∃ tp p, w.var? Tryd.prog "strconv.ErrSyntax" = some #[.iface tp p]
  ran : ∃ tp p, w.var? Tryd.prog "strconv.ErrRange" = some #[.iface tp p]

/-- strconv.ParseInt of any text: a number and whether there is an error. -/
theorem parseInt_at (l : List UInt8) (hl : l.length ≤ 21) (w : World) (he : ErrW w) :
    Calls Tryd.prog 49 #[.string ⟨l.toArray⟩, .int .i64 10, .int .i64 64] w fun e w' => Below w.heap.size w w' ∧
      ((∃ v, Lib.parseIntB 64 l = .ok v ∧ -9223372036854775808 ≤ v ∧ v ≤ 9223372036854775807 ∧ e = .returned (.tuple #[.int .i64 v, .nilIface])) ∨ ((∀ v, Lib.parseIntB 64 l ≠ .ok v) ∧ ∃ v t p, e = .returned (.tuple #[.int .i64 v, .iface t p]))) := by
  cases h : Lib.parseIntB 64 l with
  | ok v =>
    have hb := Lib.parseIntB_bounds h
    refine (Tryd.strconv_ParseInt_10_at64_ok ⟨l.toArray⟩ (by show l.toArray.size ≤ _; simp; omega) v (by simpa using h) w).mono ?_
    rintro e w1 ⟨rfl, hw⟩
    refine ⟨?_, .inl ⟨v, rfl, by simpa using hb.1, by have := hb.2; simp at this; omega, rfl⟩⟩
    rcases hw with rfl | ⟨t, rfl⟩
    · exact Below.refl _ _
    · exact Lib.bytesWorld_below _ _ _
  | «syntax» =>
    obtain ⟨tp, p, hs⟩ := he.syn
    refine (Tryd.strconv_ParseInt_10_at64_syntax_var ⟨l.toArray⟩ (by show l.toArray.size ≤ _; simp; omega) (by simpa using h) tp p w hs).mono ?_
    rintro e w1 ⟨N, rfl, _, _, hb⟩
    exact ⟨hb, .inr ⟨(fun v e => by cases e), _, _, _, rfl⟩⟩
  | range =>
    obtain ⟨tp, p, hs⟩ := he.ran
    refine (Tryd.strconv_ParseInt_10_at64_range_var ⟨l.toArray⟩ (by show l.toArray.size ≤ _; simp; omega) (by simpa using h) tp p w hs).mono ?_
    rintro e w1 ⟨N, rfl, _, _, hb⟩
    exact ⟨hb, .inr ⟨(fun v e => by cases e), _, _, _, rfl⟩⟩
end Go.Proofs.YtpkgdkgbbbbaoaaDoor
