/-
  Ours: money.Format and money.Parse.
-/
import Derived.Lib.ItoaNum
import Derived.Lib.ItoaMem
import Derived.Lib.ParseIntBCases
import Derived.Test.YtmennknknecgjaaDoorSmall
import Derived.Test.YtmennknknecgjaaDoorShelf
import Derived.Lib.AppendIntMem
import Derived.Lib.Walk
import Derived.BigCall
import Derived.BigGuard
import Derived.Below
import Derived.Lib.ParseIntBTie
import Derived.Lib.AtoiErrMem
namespace Go.Proofs.YtmennknknecgjaaDoor
open Go.Lib

/-- The amount as text. -/
def amtL (n : Nat) : List UInt8 := decDigits (n / 100) ++ [46, UInt8.ofNat (48 + n % 100 / 10), UInt8.ofNat (48 + n % 10)]
def fmtL (x : Int) : List UInt8 := if x < 0 then 45 :: amtL x.natAbs else amtL x.natAbs

theorem dec3 (m : Nat) (h : m < 100) : decDigits (100 + m) = [49, UInt8.ofNat (48 + m / 10), UInt8.ofNat (48 + m % 10)] := by
  rw [decDigits, dif_neg (by omega), show (100 + m) / 10 = 10 + m / 10 by omega, decDigits, dif_neg (by omega), show (10 + m / 10) / 10 = 1 by omega, decDigits, dif_pos (by omega), show (10 + m / 10) % 10 = m / 10 by omega, show (100 + m) % 10 = m % 10 by omega]
  rfl

theorem u8_nat {k : Nat} (h : k < 256) : (UInt8.ofNat k).toNat = k := by simp; omega

theorem par_dec (r : List UInt8) : ∀ u : Nat, u ≤ 18446744073709551615 → parseUintM 18446744073709551615 0 (decDigits u ++ r) = parseUintM 18446744073709551615 u r := by
  intro u
  induction u using Nat.strongRecOn generalizing r with
  | _ u ih =>
    intro hu
    by_cases h : u < 10
    · rw [decDigits, dif_pos h]
      simp only [List.cons_append, List.nil_append, parseUintM]
      rw [u8_nat (by omega), if_pos (by omega), if_neg (by omega), if_neg (by omega)]
      congr 1; omega
    · rw [decDigits, dif_neg h, List.append_assoc, ih (u / 10) (by omega) _ (by omega)]
      simp only [List.cons_append, List.nil_append, parseUintM]
      rw [u8_nat (by omega), if_pos (by omega), if_neg (by omega), if_neg (by omega)]
      congr 1; omega

/-- The digits without the point. -/
def digL (n : Nat) : List UInt8 := decDigits (n / 100) ++ [UInt8.ofNat (48 + n % 100 / 10), UInt8.ofNat (48 + n % 10)]
theorem par_amt (n : Nat) (h : n ≤ 9223372036854775808) : parseUintB 64 (digL n) = .ok n := by
  unfold parseUintB digL
  rw [if_neg (by simp), show 2 ^ 64 - 1 = 18446744073709551615 by decide, par_dec _ _ (by omega)]
  simp only [parseUintM]
  rw [u8_nat (by omega), u8_nat (by omega), if_pos (by omega), if_neg (by omega), if_neg (by omega), if_pos (by omega), if_neg (by omega), if_neg (by omega)]
  congr 1; omega

theorem dec_head (u : Nat) : ∃ c r, decDigits u = c :: r ∧ 48 ≤ c.toNat ∧ c.toNat ≤ 57 := by
  induction u using Nat.strongRecOn with
  | _ u ih =>
    by_cases h : u < 10
    · exact ⟨_, _, by rw [decDigits, dif_pos h], by rw [u8_nat (by omega)]; omega, by rw [u8_nat (by omega)]; omega⟩
    · obtain ⟨c, r, e, h1, h2⟩ := ih (u / 10) (by omega)
      exact ⟨c, r ++ [UInt8.ofNat (48 + u % 10)], by rw [decDigits, dif_neg h, e]; rfl, h1, h2⟩

/-- The text's digits, its sign ahead. -/
def rawL (x : Int) : List UInt8 := if x < 0 then 45 :: digL x.natAbs else digL x.natAbs
theorem par_raw (x : Int) (h0 : -9223372036854775808 ≤ x) (h1 : x ≤ 9223372036854775807) : parseIntB 64 (rawL x) = .ok x := by
  unfold rawL
  by_cases hx : x < 0
  · rw [if_pos hx, parseIntB_minus, par_amt _ (by omega)]
    simp only [signedC]
    rw [if_neg (by simp; omega)]
    congr 1; omega
  · rw [if_neg hx]
    obtain ⟨c, r, e, c0, c1⟩ := dec_head (x.natAbs / 100)
    have hd : digL x.natAbs = c :: (r ++ [UInt8.ofNat (48 + x.natAbs % 100 / 10), UInt8.ofNat (48 + x.natAbs % 10)]) := by unfold digL; rw [e]; rfl
    rw [hd, parseIntB_plain _ _ _ (by omega) (by omega), ← hd, par_amt _ (by omega)]
    simp only [signlessC]
    rw [if_neg (by simp; omega)]
    congr 1; omega

theorem nDigits_le : ∀ (k u : Nat), u < 10 ^ (k + 1) → nDigits u ≤ k + 1
  | 0, u, h => by rw [nDigits, dif_pos (by simpa using h)]; omega
  | k + 1, u, h => by
    by_cases hu : u < 10
    · rw [nDigits, dif_pos hu]; omega
    · rw [nDigits, dif_neg hu]
      have := nDigits_le k (u / 10) (by rw [Nat.pow_succ] at h; omega)
      omega
theorem nDigits_pos (u : Nat) : 1 ≤ nDigits u := by rw [nDigits]; split <;> omega

/-- Head and tail of the text about its point. -/
theorem fmt_parts (x : Int) (h0 : -9223372036854775808 ≤ x) (h1 : x ≤ 9223372036854775807) :
    (fmtL x).length ≤ 21 ∧ 4 ≤ (fmtL x).length ∧ (fmtL x).take ((fmtL x).length - 3) ++ (fmtL x).drop ((fmtL x).length - 3 + 1) = rawL x := by
  have l1 := nDigits_le 16 (x.natAbs / 100) (by rw [show 10 ^ (16 + 1) = 100000000000000000 by decide]; omega)
  have l2 := nDigits_pos (x.natAbs / 100)
  unfold fmtL rawL
  by_cases hx : x < 0
  · rw [if_pos hx, if_pos hx]
    unfold amtL digL
    have hl : (45 :: (decDigits (x.natAbs / 100) ++ [46, UInt8.ofNat (48 + x.natAbs % 100 / 10), UInt8.ofNat (48 + x.natAbs % 10)])).length = nDigits (x.natAbs / 100) + 4 := by simp [decDigits_length]
    refine ⟨by rw [hl]; omega, by rw [hl]; omega, ?_⟩
    rw [hl]
    have hs : 45 :: (decDigits (x.natAbs / 100) ++ [46, UInt8.ofNat (48 + x.natAbs % 100 / 10), UInt8.ofNat (48 + x.natAbs % 10)]) = (45 :: decDigits (x.natAbs / 100)) ++ [46, UInt8.ofNat (48 + x.natAbs % 100 / 10), UInt8.ofNat (48 + x.natAbs % 10)] := rfl
    have hh : (45 :: decDigits (x.natAbs / 100)).length = nDigits (x.natAbs / 100) + 4 - 3 := by simp [decDigits_length]
    rw [hs, ← hh, List.take_left, List.drop_append, List.drop_of_length_le (by omega), Nat.add_sub_cancel_left]
    rfl
  · rw [if_neg hx, if_neg hx]
    unfold amtL digL
    have hl : (decDigits (x.natAbs / 100) ++ [46, UInt8.ofNat (48 + x.natAbs % 100 / 10), UInt8.ofNat (48 + x.natAbs % 10)]).length = nDigits (x.natAbs / 100) + 3 := by simp [decDigits_length]
    refine ⟨by rw [hl]; omega, by rw [hl]; omega, ?_⟩
    rw [hl]
    have hh : (decDigits (x.natAbs / 100)).length = nDigits (x.natAbs / 100) + 3 - 3 := by simp [decDigits_length]
    rw [← hh, List.take_left, List.drop_append, List.drop_of_length_le (by omega), Nat.add_sub_cancel_left]
    rfl
end Go.Proofs.YtmennknknecgjaaDoor

namespace Go.Proofs.YtmennknknecgjaaDoor
open Go.RowKit Go.Sort Go.Lib

abbrev TabW (w : World) : Prop := Lib.TabIs Tryd.prog w "internal/strconv.uint64pow10" .u64 Lib.pow10Tab

set_option maxHeartbeats 6400000 in
set_option maxRecDepth 100000 in
theorem fmtUintI (u : Nat) (hu64 : u < 18446744073709551616) (w : World) (htab : TabW w) :
    Calls Tryd.prog 51 #[.int .u64 (u : Int), .int .i64 10] w fun e w' => e = .returned (.string ⟨(Lib.decDigits u).toArray⟩) ∧ Below w.heap.size w w' := by
  by_cases hs : u < 100
  · have hs' : (u : Int) < 100 := by omega
    go_enter Tryd.func51, Tryd.ntmps51
    go_wp2_with fail
    refine (Tryd.internal_strconv_small u hs _).mono ?_
    rintro e w1 ⟨rfl, hw⟩; rw [hw]; clear hw w1
    go_wp2_with fail
    go_ret
    exact ⟨rfl, Below.refl _ _⟩
  · have hu1 : 1 ≤ u := by omega
    have hs' : ¬ (u : Int) < 100 := by omega
    have hnd20 : Lib.nDigits u ≤ 20 := by have := Lib.numDigits_eq u hu1 hu64; split at this <;> omega
    have hal : Tryd.prog.arrayLen 80 = 24 := by kernel_rfl
    have hsl : ∀ W, (Instr.sliceAt 80 (.pointer (some ⟨w.heap.size, 0, none⟩)) none (some (.int .i64 (Lib.nDigits u : Int))) none).run Tryd.prog W = .ok (.slice (some ⟨w.heap.size, 0, none⟩) (Lib.nDigits u) 24) W := fun W => by
      rw [run_sliceAt_array_h W 80 ⟨w.heap.size, 0, none⟩ (by kernel_rfl) .i64 (Lib.nDigits u : Int) (by omega) (by rw [hal]; omega)]
      go_simp
    have hH0 := Lib.holds_zero0 w 80 (Lib.nDigits u) (by omega)
    have hfmt := Tryd.internal_strconv_formatBase10 w.heap.size 0 24 u (Array.replicate (Lib.nDigits u) 0) (w.alloc (.cells Lib.zeros24 80)) hH0 (by rw [Array.size_replicate]; exact Lib.lt_pow_nDigits u) hu64 (by rw [Array.size_replicate]; omega)
    rw [Array.size_replicate] at hfmt
    have HH0 := Lib.hid hH0
    clear hH0 hal
    go_enter Tryd.func51, Tryd.ntmps51
    go_wp2_with fail
    refine (Tryd.internal_strconv_numDigits u hu1 hu64 _ (Lib.tabIs_alloc htab _)).mono ?_
    rintro e w1 ⟨rfl, hw⟩; rw [hw]; clear hw w1
    go_wp2_with fail
    refine hfmt.mono ?_
    rintro e w' ⟨rfl, k, v', dk, rfl, hF⟩
    have hcv : (convert 83 9 (.slice (some ⟨w.heap.size, 0, none⟩) (Lib.nDigits u) 24)).run Tryd.prog ((putRow (fun (b : UInt8) => Value.int .u8 (b.toNat : Int)) (w.alloc (.cells Lib.zeros24 80)) w.heap.size 0 dk).drewN k) = .ok (.string ⟨(Lib.decDigits u).toArray⟩) ((putRow (fun (b : UInt8) => Value.int .u8 (b.toNat : Int)) (w.alloc (.cells Lib.zeros24 80)) w.heap.size 0 dk).drewN k) := by
      have h := run_convert_bytes_back (P := Tryd.prog) ((putRow (fun (b : UInt8) => Value.int .u8 (b.toNat : Int)) (w.alloc (.cells Lib.zeros24 80)) w.heap.size 0 dk).drewN k) 83 9 5 ⟨w.heap.size, 0, none⟩ 24 (Lib.decDigits u) (by kernel_rfl) (by kernel_rfl) (by kernel_rfl) (fun j hj => by
        rw [Lib.row_is_numeral hF j hj, Lib.add_plain, World.cell?_drewN]
        exact cell?_putRow (fun (b : UInt8) => Value.int .u8 (b.toNat : Int)) _ w.heap.size 0 _ dk HH0.out (by rw [hF.size, Array.size_replicate]) j (by rw [hF.size]; rw [Lib.decDigits_length] at hj; exact hj))
      rw [Lib.decDigits_length] at h
      exact h
    have UB : Hid (Below w.heap.size w ((putRow (fun (b : UInt8) => Value.int .u8 (b.toNat : Int)) (w.alloc (.cells Lib.zeros24 80)) w.heap.size 0 dk).drewN k)) := by
      rw [alloc_eq_grow]
      obtain ⟨os', _, e⟩ := putRow_grow_new (fun (b : UInt8) => Value.int .u8 (b.toNat : Int)) w #[.cells Lib.zeros24 80] w.heap.size 0 dk (Nat.le_refl _)
      rw [e]
      exact Lib.below_grow _ w (Nat.le_refl _) k os'
    generalize (putRow (fun (b : UInt8) => Value.int .u8 (b.toNat : Int)) (w.alloc (.cells Lib.zeros24 80)) w.heap.size 0 dk).drewN k = W at *
    go_wp2_with fail
    go_ret
    exact ⟨rfl, UB.out⟩

theorem fmtUint_at (u : Nat) (hu64 : u < 18446744073709551616) (w : World) (htab : TabW w) :
    Calls Tryd.prog 37 #[.int .u64 (u : Int), .int .i64 10] w fun e w' => e = .returned (.string ⟨(Lib.decDigits u).toArray⟩) ∧ Below w.heap.size w w' := by
  have FU : Hid (∀ w, TabW w → Calls Tryd.prog 51 #[.int .u64 (u : Int), .int .i64 10] w fun e w' => e = .returned (.string ⟨(Lib.decDigits u).toArray⟩) ∧ Below w.heap.size w w') := fun w h => fmtUintI u hu64 w h
  have HT : Hid (TabW w) := htab
  clear htab
  go_enter Tryd.func37, Tryd.ntmps37
  go_wp2_with fail
  refine (FU.out _ HT.out).mono ?_
  rintro e w1 ⟨rfl, U1⟩
  go_wp2_with fail
  go_ret
  exact ⟨rfl, U1⟩
end Go.Proofs.YtmennknknecgjaaDoor

namespace Go.Proofs.YtmennknknecgjaaDoor
open Go.RowKit Go.Sort Go.Lib

theorem gPw : Tryd.prog.globalNamed "internal/strconv.uint64pow10" = some 4 := by kernel_rfl
theorem tab_below {w w' : World} (h : TabW w) (hb : Below w.heap.size w w') : TabW w' := by
  have h0 := h.cell gPw 0 (by decide)
  exact var?_below hb gPw (World.block_lt_of_cell? _ _ h0) h
theorem below_trans {a b c : World} (h : Below a.heap.size a b) (k : Below b.heap.size b c) : Below a.heap.size a c := h.trans (k.mono h.size)
theorem ret_s {a b : ByteArray} (h : a = b) : Ending.returned (.string a) = .returned (.string b) := by rw [h]
theorem cut_tail (a b : UInt8) : ({ data := #[49, a, b] } : ByteArray).extract 1 3 = { data := #[a, b] } := by
  apply ByteArray.ext
  simp [ByteArray.data_extract]

set_option maxHeartbeats 2000000 in
theorem format_at (x : Int) (h0 : -9223372036854775808 ≤ x) (h1 : x ≤ 9223372036854775807) (w : World) (htab : TabW w) :
    Calls Tryd.prog 23 #[.int .i64 x] w fun e w' => e = .returned (.string ⟨(fmtL x).toArray⟩) ∧ Below w.heap.size w w' := by
  have SA : Hid (∀ w, Calls Tryd.prog 36 #[.int .i64 x] w fun e w' => e = .returned (.int .u64 (x.natAbs : Int)) ∧ w' = w) := fun w => size_any x h0 h1 w
  have F1 : Hid (∀ w, TabW w → Calls Tryd.prog 37 #[.int .u64 ((x.natAbs : Int) / 100), .int .i64 10] w fun e w' => e = .returned (.string ⟨(Lib.decDigits (x.natAbs / 100)).toArray⟩) ∧ Below w.heap.size w w') := fun w h => fmtUint_at (x.natAbs / 100) (by omega) w h
  have F2 : Hid (∀ w, TabW w → Calls Tryd.prog 37 #[.int .u64 (100 + (x.natAbs : Int) % 100), .int .i64 10] w fun e w' => e = .returned (.string ⟨#[49, UInt8.ofNat (48 + x.natAbs % 100 / 10), UInt8.ofNat (48 + x.natAbs % 10)]⟩) ∧ Below w.heap.size w w') := fun w h => by
    have := fmtUint_at (100 + x.natAbs % 100) (by omega) w h
    rw [dec3 _ (by omega), show x.natAbs % 100 % 10 = x.natAbs % 10 by omega] at this
    exact this
  have FL : Hid (fmtL x = if x < 0 then 45 :: (decDigits (x.natAbs / 100) ++ [46, UInt8.ofNat (48 + x.natAbs % 100 / 10), UInt8.ofNat (48 + x.natAbs % 10)]) else decDigits (x.natAbs / 100) ++ [46, UInt8.ofNat (48 + x.natAbs % 100 / 10), UInt8.ofNat (48 + x.natAbs % 10)]) := rfl
  have HT : Hid (TabW w) := htab
  clear htab
  have n1 : (x.natAbs : Int) ≤ 9223372036854775808 := by omega
  have n0 : 0 ≤ (x.natAbs : Int) := by omega
  have hD : (decDigits (x.natAbs / 100)).length ≤ 17 := by rw [decDigits_length]; exact nDigits_le 16 _ (by rw [show 10 ^ (16 + 1) = 100000000000000000 by decide]; omega)
  generalize fmtL x = L at *
  generalize decDigits (x.natAbs / 100) = D at *
  generalize UInt8.ofNat (48 + x.natAbs % 100 / 10) = a at *
  generalize UInt8.ofNat (48 + x.natAbs % 10) = b at *
  generalize (x.natAbs : Int) = n at *
  by_cases hx : x < 0
  · have e := FL.out
    rw [if_pos hx] at e
    subst e
    clear FL
    go_enter Tryd.func23, Tryd.ntmps23
    go_wp2_with fail
    refine (SA.out _).mono ?_
    rintro e w1 ⟨rfl, hw⟩; rw [hw]; clear hw w1
    go_wp2_with fail
    refine (F1.out _ HT.out).mono ?_
    rintro e w1 ⟨rfl, U1⟩
    go_wp2_with fail
    refine (F2.out _ (tab_below HT.out U1)).mono ?_
    rintro e w2 ⟨rfl, U2⟩
    go_wp2_with fail
    go_ret
    refine ⟨ret_s ?_, below_trans U1 U2⟩
    rw [cut_tail]
    apply ByteArray.ext
    simp [ByteArray.data_append]
  · have e := FL.out
    rw [if_neg hx] at e
    subst e
    clear FL
    go_enter Tryd.func23, Tryd.ntmps23
    go_wp2_with fail
    refine (SA.out _).mono ?_
    rintro e w1 ⟨rfl, hw⟩; rw [hw]; clear hw w1
    go_wp2_with fail
    refine (F1.out _ HT.out).mono ?_
    rintro e w1 ⟨rfl, U1⟩
    go_wp2_with fail
    refine (F2.out _ (tab_below HT.out U1)).mono ?_
    rintro e w2 ⟨rfl, U2⟩
    go_wp2_with fail
    go_ret
    refine ⟨ret_s ?_, below_trans U1 U2⟩
    rw [cut_tail]
    apply ByteArray.ext
    simp [ByteArray.data_append]

/-- The text without the byte where the point stands. -/
def unL (l : List UInt8) : List UInt8 := l.take (l.length - 3) ++ l.drop (l.length - 3 + 1)
/-- Does Parse read the text? -/
def ParB (l : List UInt8) (v : Int) : Prop := 4 ≤ l.length ∧ l.length ≤ 21 ∧ Lib.parseIntB 64 (unL l) = .ok v ∧ fmtL v = l

structure ErrW (w : World) : Prop where
  syn : ∃ tp p, w.var? Tryd.prog "strconv.ErrSyntax" = some #[.iface tp p]
  ran : ∃ tp p, w.var? Tryd.prog "strconv.ErrRange" = some #[.iface tp p]

end Go.Proofs.YtmennknknecgjaaDoor
