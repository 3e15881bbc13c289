/-
  Ours: the document's Lines.
-/
import Derived.Test.YtmennknknecgjaaDoorStWin
import Derived.Test.YtmennknknecgjaaDoorCalTxt3
import Derived.Test.YtmennknknecgjaaDoorMexC
import Derived.Test.YtmennknknecgjaaDoorMexSums
import Derived.Test.YtmennknknecgjaaDoorLedBal2
import Derived.Test.YtmennknknecgjaaDoorStRUp
import Derived.Deep.RegionHeld3
import Derived.Test.YtmennknknecgjaaDoorLedAddM
namespace Go.Proofs.YtmennknknecgjaaDoor
open Go.RowKit LedM StM

set_option maxRecDepth 20000 in
set_option maxHeartbeats 4000000 in
theorem rwithin_at (ms : List (List Int)) (a b : Int) (v : Value) (w : World) (h : RdMo w v ms) (ok : ∀ m ∈ ms, MoOk m) (hn : ms.length ≤ 1000000) : Calls Tryd.prog 16 #[v, .int .i64 a, .int .i64 b] w (WinAns ms a b w) := by
  obtain ⟨i0, hi0, hz0, hz1, hz2⟩ := info_parts infoM14
  have RD : Hid (∀ w', Below w.heap.size w w' → RdMo w' v ms) := fun w' hb => h.later hb
  obtain ⟨ao, cap, rfl, hcap, hno, _⟩ := h
  have CE : Hid (∀ w', Below w.heap.size w w' → ∀ i m, ms[i]? = some m → ∃ g o, ao = some ⟨g, o, none⟩ ∧ w'.rangeAt g (o + i * 14) (bkL m)) := fun w' hb i m hi => by
    obtain ⟨ao', cap', e, _, _, H⟩ := RD.out w' hb
    injection e with e1 e2 e3
    subst e1
    obtain ⟨g, o, e, _, r⟩ := H i m hi
    exact ⟨g, o, e, r⟩
  obtain ⟨L, hL⟩ : ∃ L, ms.length = L := ⟨_, rfl⟩
  have GI : Hid (∀ i, i < L → ∃ m, ms[i]? = some m ∧ m.length = 14) := fun i hi => ⟨_, List.getElem?_eq_getElem (by omega), (ok _ (List.getElem_mem (by omega))).1⟩
  have TK : Hid (ms.take L = ms) := List.take_of_length_le (by omega)
  have WL : Hid (∀ k, k ≤ L → (win (ms.take k) a b).length ≤ k) := fun k hk => Nat.le_trans (win_le _ _ _) (by rw [List.length_take]; omega)
  unfold WinAns
  rw [hL] at hcap hn ⊢
  clear RD hL hno ok
  obtain ⟨Q, hQ⟩ : ∃ Q, w.heap.size = Q := ⟨_, rfl⟩
  have R0 : Hid (RowMo Q w (.slice none 0 0) (win (ms.take 0) a b) ∧ Below Q w w ∧ Q ≤ w.heap.size) := ⟨RowMo.nil _ _, Below.refl _ _, by omega⟩
  rw [hQ] at CE ⊢
  clear hQ
  go_enter Tryd.func16, Tryd.ntmps16
  go_wp2_with fail
  go_loopw [7, 8] (fun vl vk wr => ∃ (k : Nat) (la : Option Addr) (ln lc : Nat), vk = .int .i64 (k : Int) ∧ vl = .slice la ln lc ∧ k ≤ L ∧ RowMo Q wr (.slice la ln lc) (win (ms.take k) a b) ∧ Below Q w wr ∧ Q ≤ wr.heap.size) (fun _ vk _ => L - (intOf vk).toNat)
  case atStart => exact ⟨0, none, 0, 0, rfl, rfl, by omega, R0.out⟩
  case round =>
    clear R0
    obtain ⟨k, la, ln, lc, rfl, rfl, hk, hro, hbw, hsz⟩ := hrel
    have HB : Hid (RowMo Q wr (.slice la ln lc) (win (ms.take k) a b) ∧ Below Q w wr) := ⟨hro, hbw⟩
    by_cases hlt : (k : Int) < (L : Int)
    · obtain ⟨m, hm, hml⟩ := GI.out k (by omega)
      obtain ⟨g, o, rfl, rg⟩ := CE.out wr hbw k m hm
      have RG : Hid (wr.rangeAt g (o + k * 14) (bkL m)) := rg
      have d0 : wr.cell? ⟨g, o + k * 14, none⟩ = some (.int .i64 (m.getD 0 0)) := by have := rg 0 _ (bkL_at (by omega)); simpa using this
      have UP : Hid (win (ms.take (k + 1)) a b = win (ms.take k) a b ++ if a ≤ m.getD 0 0 ∧ m.getD 0 0 ≤ b then [m] else []) := by show _ = _; rw [take_push hm, win_push]
      have ul := WL.out k hk
      have IM : Hid ((Tryd.prog.info? 29).map (·.size) = some (bkL m).length) := infoMl hml
      have MB : Hid ((bkL m).length = 14) := by show _ = _; rw [bkL_len, hml]
      clear rg hro hbw hm hml CE GI WL TK
      by_cases hd : a ≤ m.getD 0 0
      · by_cases hf : m.getD 0 0 ≤ b
        · rw [if_pos ⟨hd, hf⟩] at UP
          generalize m.getD 0 0 = x at *
          obtain ⟨US, hU⟩ : ∃ US, win (ms.take k) a b = US := ⟨_, rfl⟩
          rw [hU] at UP HB ul
          have l1 : US.length + 1 ≤ maxLen := by unfold maxLen; omega
          have l2 : (US.length + 1) * 112 ≤ 140737488355328 := by omega
          clear hU
          go_wp2_with (first
            | (refine step_load rfl 29 _ rfl g (o + k * 14) rfl (bkL m) _ RG.out Tryd.underlying29 rfl IM.out ?_)
            | (refine at_slice ?_; refine step_slice1 rfl 22 29 _ rfl i0 (.agg #[.int .i64 0, .int .i64 0, .int .i64 0, .int .i64 0, .int .i64 0, .int .i64 0, .int .i64 0, .int .i64 0, .int .i64 0, .int .i64 0, .int .i64 0, .int .i64 0, .int .i64 0, .int .i64 0]) 14 (by decide) Tryd.underlying22 hi0 hz0 hz1 (by decide) (bkL m) MB.out rfl ?_)
            | (at_builtin; refine wpList_pushR rfl (.tmp 31) (.tmp 36) 22 rfl 29 i0 (.agg #[.int .i64 0, .int .i64 0, .int .i64 0, .int .i64 0, .int .i64 0, .int .i64 0, .int .i64 0, .int .i64 0, .int .i64 0, .int .i64 0, .int .i64 0, .int .i64 0, .int .i64 0, .int .i64 0]) 14 112 Tryd.underlying22 hi0 hz0 hz1 hz2 rfl (by decide) Q (.slice la ln lc) US.length (bksL US) (bkL m) MB.out (bkL_one _) rfl HB.out.1 hsz rfl l1 l2 ?_; intro g7 n7 c7 w7 o7 gr7 _))
          have R7 : Hid (RowMo Q w7 (.slice g7 n7 c7) (win (ms.take (k + 1)) a b) ∧ Below Q w w7 ∧ Q ≤ w7.heap.size) := by
            have ne : ∀ x, (Value.slice la ln lc).ownBlock = some x → Q ≤ x := fun x e => (World.ownsRow.lt HB.out.1 x e).1
            refine ⟨?_, HB.out.2.grown gr7 hsz (fun x e => ne x e), by have := gr7.size; omega⟩
            unfold RowMo
            rw [UP.out, List.length_append, bksL_append, show bksL [m] = bkL m from by simp [bksL]]
            exact o7
          clear o7 gr7 HB UP
          go_roundw
          case rel => exact ⟨k + 1, _, _, _, by go_num, rfl, by omega, R7.out⟩
          case measure => simp [intOf]; omega
        · rw [if_neg (fun hh => hf hh.2), List.append_nil] at UP
          have hf2 : decide (m.getD 0 0 ≤ b) = false := decide_eq_false hf
          generalize m.getD 0 0 = x at *
          go_wp2_with fail
          go_roundw
          case rel => exact ⟨k + 1, _, _, _, by go_num, rfl, by omega, by rw [UP.out]; exact ⟨HB.out.1, HB.out.2, hsz⟩⟩
          case measure => simp [intOf]; omega
      · rw [if_neg (fun hh => hd hh.1), List.append_nil] at UP
        have hd2 : decide (a ≤ m.getD 0 0) = false := decide_eq_false hd
        generalize m.getD 0 0 = x at *
        go_wp2_with fail
        go_roundw
        case rel => exact ⟨k + 1, _, _, _, by go_num, rfl, by omega, by rw [UP.out]; exact ⟨HB.out.1, HB.out.2, hsz⟩⟩
        case measure => simp [intOf]; omega
    · obtain rfl : k = L := by omega
      rw [TK.out] at HB
      clear hro hbw CE GI WL TK
      go_wp2_with fail
      go_ret
      exact ⟨_, rfl, HB.out.1, HB.out.2⟩
end Go.Proofs.YtmennknknecgjaaDoor

namespace Go.Proofs.YtmennknknecgjaaDoor
open Go.RowKit LedM StM CalM

namespace StM
def tellL (sg : Bool) (c : Int) : List UInt8 := if sg && decide (0 < c) then 43 :: fmtL c else fmtL c
/-- The four columns, a blank ahead of each. -/
def colsL (sg : Bool) (b : List Int) : List UInt8 := 32 :: (tellL sg (b.getD 1 0) ++ 32 :: (tellL sg (b.getD 2 0) ++ 32 :: (tellL sg (b.getD 3 0) ++ 32 :: tellL sg (-(b.getD 4 0)))))
def colsOk (b : List Int) : Bool := decide (b.getD 4 0 ≠ -9223372036854775808)
def wordL (k : Int) : List UInt8 := if k = 1 then [111, 112, 101, 110] else if k = 2 then [112, 97, 121] else if k = 3 then [114, 101, 116, 117, 114, 110] else if k = 4 then [114, 101, 102, 117, 110, 100] else if k = 5 then [119, 97, 105, 118, 101] else if k = 6 then [112, 114, 111, 109, 105, 115, 101] else if k = 7 then [114, 101, 115, 116, 114, 117, 99, 116, 117, 114, 101] else if k = 8 then [100, 97, 121] else []
def dayOk (d : Int) : Bool := decide (1 ≤ d ∧ d ≤ 3652059)
theorem tell_len (sg : Bool) {c : Int} (h0 : -9223372036854775808 ≤ c) (h1 : c ≤ 9223372036854775807) : (tellL sg c).length ≤ 22 := by
  have := (fmt_parts c h0 h1).1
  unfold tellL
  split
  · simp only [List.length_cons]; omega
  · omega
theorem word_len (k : Int) : (wordL k).length ≤ 11 := by
  unfold wordL
  repeat' split
  all_goals decide
theorem cols_len (sg : Bool) {b : List Int} (h : BkOk b) (ho : colsOk b = true) : (colsL sg b).length ≤ 92 := by
  have l1 := tell_len sg (h.2 1).1 (h.2 1).2
  have l2 := tell_len sg (h.2 2).1 (h.2 2).2
  have l3 := tell_len sg (h.2 3).1 (h.2 3).2
  have h4 := h.2 4
  have ho : b.getD 4 0 ≠ -9223372036854775808 := by simpa [colsOk] using ho
  have l4 := tell_len sg (c := -(b.getD 4 0)) (by have := h4.2; omega) (by have := h4.1; omega)
  unfold colsL
  simp only [List.length_cons, List.length_append]
  omega
/-- A movement's line, its day told by D; whether it has one. -/
def lineL (D : Int → List UInt8) (m : List Int) : List UInt8 := D (m.getD 0 0) ++ 32 :: (wordL (m.getD 1 0) ++ colsL true (m.drop 2))
def lineOk (m : List Int) : Bool := decide (1 ≤ m.getD 1 0 ∧ m.getD 1 0 ≤ 8) && colsOk (m.drop 2)
end StM
/-- The words of the kinds; the columns: where the program looks them up. -/
def TabQ (w : World) : Prop := ∀ k : Nat, k < 9 → w.cell? ⟨0, k, none⟩ = some (.string ⟨(wordL (k : Int)).toArray⟩)
def TabC (w : World) : Prop := ∀ k : Nat, k < 4 → w.cell? ⟨1, k, none⟩ = some (.int .i64 ((k : Int) + 1))
theorem TabQ.later {w w' : World} (h : TabQ w) (hb : Below w.heap.size w w') : TabQ w' := fun k hk => (hb.cell (p := ⟨0, k, none⟩) (block_lt_of_cell (h k hk))).trans (h k hk)
theorem TabC.later {w w' : World} (h : TabC w) (hb : Below w.heap.size w w') : TabC w' := fun k hk => (hb.cell (p := ⟨1, k, none⟩) (block_lt_of_cell (h k hk))).trans (h k hk)
/-- All five tables. -/
def TabS (w : World) : Prop := TabA w ∧ TabP w ∧ TabD w ∧ TabQ w ∧ TabC w
theorem TabS.later {w w' : World} (h : TabS w) (hb : Below w.heap.size w w') : TabS w' := ⟨h.1.up hb, h.2.1.up hb, h.2.2.1.later hb, h.2.2.2.1.later hb, h.2.2.2.2.later hb⟩
/-- How both tell a day. -/
def DayAt (D : Int → List UInt8) : Prop := ∀ d, (D d).length ≤ 10 ∧ (∀ w, TabS w → Calls Tryd.prog 11 #[.int .i64 d] w fun e w' => e = .returned (.tuple #[.string ⟨(D d).toArray⟩, .bool (dayOk d)]) ∧ Below w.heap.size w w') ∧ (∀ w, TabS w → Calls Tryd.prog 14 #[.int .i64 d] w fun e w' => e = .returned (.tuple #[.string ⟨(D d).toArray⟩, .bool (dayOk d)]) ∧ Below w.heap.size w w')
theorem day_both (d : Int) : ∃ t : List UInt8, t.length ≤ 10 ∧ (∀ w, TabS w → Calls Tryd.prog 11 #[.int .i64 d] w fun e w' => e = .returned (.tuple #[.string ⟨t.toArray⟩, .bool (dayOk d)]) ∧ Below w.heap.size w w') ∧ (∀ w, TabS w → Calls Tryd.prog 14 #[.int .i64 d] w fun e w' => e = .returned (.tuple #[.string ⟨t.toArray⟩, .bool (dayOk d)]) ∧ Below w.heap.size w w') := by
  by_cases h : 1 ≤ d ∧ d ≤ 3652059
  · have e : dayOk d = true := decide_eq_true h
    rw [e]
    obtain ⟨y0, m0, k0, ok0, ed0⟩ := civil_exists d h.1 h.2
    obtain ⟨y, m, k, rfl, rfl, rfl⟩ : ∃ Y M K : Nat, y0 = Y ∧ m0 = M ∧ k0 = K := by
      obtain ⟨y1, y2, m1, m2, k1, k2⟩ := ok0
      exact ⟨y0.toNat, m0.toNat, k0.toNat, by omega, by omega, by omega⟩
    exact ⟨dateT y m k, Nat.le_of_eq rfl, fun w hT => fdate_at y m k d ok0 ed0 w hT.1 hT.2.1, fun w hT => refFormat_at y m k d ok0 ed0 w hT.2.1⟩
  · have e : dayOk d = false := decide_eq_false h
    rw [e]
    exact ⟨[], by decide, fun w _ => fdate_no d h w, fun w _ => refFormat_no d h w⟩
theorem day_at : ∃ D : Int → List UInt8, DayAt D := ⟨fun d => Classical.choose (day_both d), fun d => Classical.choose_spec (day_both d)⟩
/-- Amounts told by both. -/
theorem fmt_at (x : Int) (h0 : -9223372036854775808 ≤ x) (h1 : x ≤ 9223372036854775807) (w : World) (hT : TabS w) : Calls Tryd.prog 23 #[.int .i64 x] w fun e w' => e = .returned (.string ⟨(fmtL x).toArray⟩) ∧ Below w.heap.size w w' := format_at x h0 h1 w hT.2.1
theorem rfmt_at (x : Int) (h0 : -9223372036854775808 ≤ x) (h1 : x ≤ 9223372036854775807) (w : World) (hT : TabS w) : Calls Tryd.prog 45 #[.int .i64 x] w fun e w' => e = .returned (.string ⟨(fmtL x).toArray⟩) ∧ Below w.heap.size w w' := rformat_at x h0 h1 w hT.2.1
set_option maxRecDepth 20000 in
theorem signed_at (x : Int) (h0 : -9223372036854775808 ≤ x) (h1 : x ≤ 9223372036854775807) (w : World) (hT : TabS w) : Calls Tryd.prog 24 #[.int .i64 x] w fun e w' => e = .returned (.string ⟨(tellL true x).toArray⟩) ∧ Below w.heap.size w w' := by
  have FA : Hid (Calls Tryd.prog 23 #[.int .i64 x] w fun e w' => e = .returned (.string ⟨(fmtL x).toArray⟩) ∧ Below w.heap.size w w') := fmt_at x h0 h1 w hT
  have l := (fmt_parts x h0 h1).1
  unfold tellL
  clear hT h0 h1
  generalize fmtL x = F at *
  by_cases hx : x > 0
  · rw [show (true && decide (0 < x)) = true from by simpa using hx, if_pos rfl]
    go_enter Tryd.func24, Tryd.ntmps24
    go_wp2_with fail
    refine FA.out.mono ?_
    rintro e w1 ⟨rfl, b1⟩
    have B1 : Hid (Below w.heap.size w w1) := b1
    clear FA b1
    go_wp2_with fail
    go_ret
    refine ⟨ret_s ?_, B1.out⟩
    apply ByteArray.ext
    simp [ByteArray.data_append]
  · rw [show (true && decide (0 < x)) = false from by simpa using hx, if_neg Bool.false_ne_true]
    have hx2 : decide (0 < x) = false := decide_eq_false hx
    go_enter Tryd.func24, Tryd.ntmps24
    go_wp2_with fail
    refine FA.out.mono ?_
    rintro e w1 ⟨rfl, b1⟩
    have B1 : Hid (Below w.heap.size w w1) := b1
    clear FA b1
    go_wp2_with fail
    go_ret
    exact ⟨rfl, B1.out⟩
set_option maxRecDepth 20000 in
theorem rtell_at (x : Int) (sg : Bool) (h0 : -9223372036854775808 ≤ x) (h1 : x ≤ 9223372036854775807) (w : World) (hT : TabS w) : Calls Tryd.prog 29 #[.int .i64 x, .bool sg] w fun e w' => e = .returned (.string ⟨(tellL sg x).toArray⟩) ∧ Below w.heap.size w w' := by
  have FA : Hid (Calls Tryd.prog 45 #[.int .i64 x] w fun e w' => e = .returned (.string ⟨(fmtL x).toArray⟩) ∧ Below w.heap.size w w') := rfmt_at x h0 h1 w hT
  have l := (fmt_parts x h0 h1).1
  unfold tellL
  clear hT h0 h1
  generalize fmtL x = F at *
  cases sg with
  | false =>
    rw [Bool.false_and, if_neg Bool.false_ne_true]
    go_enter Tryd.func29, Tryd.ntmps29
    go_wp2_with fail
    refine FA.out.mono ?_
    rintro e w1 ⟨rfl, b1⟩
    have B1 : Hid (Below w.heap.size w w1) := b1
    clear FA b1
    go_wp2_with fail
    go_ret
    exact ⟨rfl, B1.out⟩
  | true =>
    by_cases hx : x > 0
    · rw [show (true && decide (0 < x)) = true from by simpa using hx, if_pos rfl]
      go_enter Tryd.func29, Tryd.ntmps29
      go_wp2_with fail
      refine FA.out.mono ?_
      rintro e w1 ⟨rfl, b1⟩
      have B1 : Hid (Below w.heap.size w w1) := b1
      clear FA b1
      go_wp2_with fail
      go_ret
      refine ⟨ret_s ?_, B1.out⟩
      apply ByteArray.ext
      simp [ByteArray.data_append]
    · rw [show (true && decide (0 < x)) = false from by simpa using hx, if_neg Bool.false_ne_true]
      have hx2 : decide (0 < x) = false := decide_eq_false hx
      go_enter Tryd.func29, Tryd.ntmps29
      go_wp2_with fail
      refine FA.out.mono ?_
      rintro e w1 ⟨rfl, b1⟩
      have B1 : Hid (Below w.heap.size w w1) := b1
      clear FA b1
      go_wp2_with fail
      go_ret
      exact ⟨rfl, B1.out⟩
end Go.Proofs.YtmennknknecgjaaDoor

namespace Go.Proofs.YtmennknknecgjaaDoor
open Go.RowKit LedM StM CalM

namespace StM
def colV (b : List Int) (k : Nat) : Int := if k = 3 then -(b.getD 4 0) else b.getD (k + 1) 0
def preL (sg : Bool) (b : List Int) : Nat → List UInt8
  | 0 => []
  | k + 1 => preL sg b k ++ 32 :: tellL sg (colV b k)
theorem pre_all (sg : Bool) (b : List Int) : preL sg b 4 = colsL sg b := by simp [preL, colsL, colV]
theorem colV_i64 {b : List Int} (h : BkOk b) (ho : colsOk b = true) (k : Nat) : -9223372036854775808 ≤ colV b k ∧ colV b k ≤ 9223372036854775807 := by
  unfold colV
  have h4 := h.2 4
  have hk := h.2 (k + 1)
  have ho : b.getD 4 0 ≠ -9223372036854775808 := by simpa [colsOk] using ho
  unfold i64 at h4 hk
  split <;> omega
theorem colV_i64' {b : List Int} (h : BkOk b) {k : Nat} (hk : k < 3) : -9223372036854775808 ≤ colV b k ∧ colV b k ≤ 9223372036854775807 := by
  unfold colV
  rw [if_neg (by omega)]
  exact h.2 (k + 1)
theorem pre_len (sg : Bool) {b : List Int} (h : BkOk b) : ∀ k, k ≤ 3 → (preL sg b k).length ≤ 23 * k
  | 0, _ => by simp [preL]
  | k + 1, hk => by
    have ih := pre_len sg h k (by omega)
    have c := colV_i64' h (k := k) (by omega)
    have := tell_len sg c.1 c.2
    simp only [preL, List.length_append, List.length_cons]
    omega
theorem bal_lo {b : List Int} {k : Nat} (hk : k < 3) : balV b ((k : Int) + 1) = colV b k ∧ balE b ((k : Int) + 1) = 0 := by
  have : k = 0 ∨ k = 1 ∨ k = 2 := by omega
  rcases this with rfl | rfl | rfl <;> simp [balV, balE, isA, isD, colV]
theorem bal_hi {b : List Int} (ho : colsOk b = true) : balV b 4 = colV b 3 ∧ balE b 4 = 0 := by
  have ho : b.getD 4 0 ≠ -9223372036854775808 := by simpa [colsOk] using ho
  rw [List.getD_eq_getElem?_getD] at ho
  simp [balV, balE, isA, isD, colV, ho]
theorem bal_no {b : List Int} (ho : colsOk b = false) : balV b 4 = 0 ∧ balE b 4 = 3 := by
  have ho : b.getD 4 0 = -9223372036854775808 := by simpa [colsOk] using ho
  rw [List.getD_eq_getElem?_getD] at ho
  simp [balV, balE, isA, isD, ho]
end StM
theorem tell_of (x : Int) (h0 : -9223372036854775808 ≤ x) (h1 : x ≤ 9223372036854775807) (w : World) (hT : TabS w) : Calls Tryd.prog 23 #[.int .i64 x] w fun e w' => e = .returned (.string ⟨(tellL false x).toArray⟩) ∧ Below w.heap.size w w' := fmt_at x h0 h1 w hT
/-- What a telling of the four columns answers. -/
def TelAns (sg : Bool) (b : List Int) (w : World) (e : Ending) (w' : World) : Prop := e = .returned (.tuple #[.string ⟨(if colsOk b then colsL sg b else []).toArray⟩, .bool (colsOk b)]) ∧ Below w.heap.size w w'
theorem bytes_cat {a b c : List UInt8} (h : a ++ b = c) : (⟨a.toArray⟩ : ByteArray) ++ ⟨b.toArray⟩ = ⟨c.toArray⟩ := by
  subst h
  apply ByteArray.ext
  simp [ByteArray.data_append]
set_option maxRecDepth 20000 in
set_option maxHeartbeats 4000000 in
theorem tellF_at (b : List Int) (hb : BkOk b) (w : World) (hT : TabS w) : Calls Tryd.prog 22 #[.agg (bkL b).toArray, .func (.func 23) #[] #[]] w (TelAns false b w) := by
  have BL : Hid (b.length = 12) := hb.1
  have FA : Hid (∀ k w', k ≤ 3 → (k = 3 → colsOk b = true) → Below w.heap.size w w' → Calls Tryd.prog 23 #[.int .i64 (colV b k)] w' fun e w2 => e = .returned (.string ⟨(tellL false (colV b k)).toArray⟩) ∧ Below w'.heap.size w' w2) := fun k w' hk ho hw => by
    have c : -9223372036854775808 ≤ colV b k ∧ colV b k ≤ 9223372036854775807 := by
      by_cases e : k = 3
      · exact colV_i64 hb (ho e) k
      · exact colV_i64' hb (by omega)
    exact tell_of (colV b k) c.1 c.2 w' (hT.later hw)
  have TL : Hid (∀ k, k ≤ 3 → (k = 3 → colsOk b = true) → (tellL false (colV b k)).length ≤ 22) := fun k hk ho => by
    have c : -9223372036854775808 ≤ colV b k ∧ colV b k ≤ 9223372036854775807 := by
      by_cases e : k = 3
      · exact colV_i64 hb (ho e) k
      · exact colV_i64' hb (by omega)
    exact tell_len _ c.1 c.2
  have PL : Hid (∀ k, k ≤ 3 → (preL false b k).length ≤ 69) := fun k hk => by have := pre_len false hb k hk; omega
  have PS : Hid (∀ k, preL false b (k + 1) = preL false b k ++ (32 :: tellL false (colV b k))) := fun k => rfl
  have BLo : Hid (∀ k : Nat, k < 3 → ∀ w', Below w.heap.size w w' → Calls Tryd.prog 35 #[.agg (bkL b).toArray, .int .i64 ((k : Int) + 1)] w' fun e w2 => e = .returned (.tuple #[.int .i64 (colV b k), .int .i64 0]) ∧ Below w'.heap.size w' w2) := fun k hk w' hw => by
    have := balance_at b ((k : Int) + 1) w' hb (hT.later hw).2.2.1
    rwa [(bal_lo hk).1, (bal_lo hk).2] at this
  have BHi : Hid (colsOk b = true → ∀ w', Below w.heap.size w w' → Calls Tryd.prog 35 #[.agg (bkL b).toArray, .int .i64 4] w' fun e w2 => e = .returned (.tuple #[.int .i64 (colV b 3), .int .i64 0]) ∧ Below w'.heap.size w' w2) := fun ho w' hw => by
    have := balance_at b 4 w' hb (hT.later hw).2.2.1
    rwa [(bal_hi ho).1, (bal_hi ho).2] at this
  have BNo : Hid (colsOk b = false → ∀ w', Below w.heap.size w w' → Calls Tryd.prog 35 #[.agg (bkL b).toArray, .int .i64 4] w' fun e w2 => e = .returned (.tuple #[.int .i64 0, .int .i64 3]) ∧ Below w'.heap.size w' w2) := fun ho w' hw => by
    have := balance_at b 4 w' hb (hT.later hw).2.2.1
    rwa [(bal_no ho).1, (bal_no ho).2] at this
  have B0 : Hid (Blk w.heap.size 27 (bkL b) (w.alloc (.cells (bkL b).toArray 27)) ∧ Below w.heap.size w (w.alloc (.cells (bkL b).toArray 27))) := ⟨Blk.new _ (bkL b) w, below_alloc w _⟩
  have GC : Hid (World.rangeAt (w.alloc (.cells (bkL b).toArray 27)) 1 0 [.int .i64 1, .int .i64 2, .int .i64 3, .int .i64 4]) := by
    have tc := (hT.later (below_alloc w (.cells (bkL b).toArray 27))).2.2.2.2
    intro j v hj
    have h0 := tc 0 (by omega)
    have h1 := tc 1 (by omega)
    have h2 := tc 2 (by omega)
    have h3 := tc 3 (by omega)
    match j, hj with
    | 0, hj => cases hj; exact h0
    | 1, hj => cases hj; exact h1
    | 2, hj => cases hj; exact h2
    | 3, hj => cases hj; exact h3
  have PA : Hid (preL false b 4 = colsL false b) := pre_all false b
  unfold TelAns
  clear hT hb
  go_enter Tryd.func22, Tryd.ntmps22
  go_upto_region 2 with fail
  generalize hW : w.alloc (.cells (bkL b).toArray 27) = W at *
  clear hW
  go_wp2_with (refine step_load rfl 60 _ rfl 1 0 rfl [.int .i64 1, .int .i64 2, .int .i64 3, .int .i64 4] _ GC.out Tryd.underlying60 rfl (by kernel_rfl) ?_)
  clear GC
  go_loopw [6, 8, 9, 10, 12] (fun vt _ _ _ vk wr => ∃ k : Nat, vk = .int .i64 (k : Int) ∧ vt = .string ⟨(preL false b k).toArray⟩ ∧ k ≤ 4 ∧ (k = 4 → colsOk b = true) ∧ Hid (Blk w.heap.size 27 (bkL b) wr ∧ Below w.heap.size w wr)) (fun _ _ _ _ vk _ => 4 - (intOf vk).toNat)
  case atStart => exact ⟨0, rfl, rfl, by omega, by omega, B0⟩
  case round =>
    clear B0
    obtain ⟨k, rfl, rfl, hk, hk4, HB⟩ := hrel
    by_cases hlt : (k : Int) < 4
    · have hks : k = 0 ∨ k = 1 ∨ k = 2 ∨ k = 3 := by omega
      rcases hks with rfl | rfl | rfl | rfl
      · have CA : Hid (Calls Tryd.prog 35 #[.agg (bkL b).toArray, .int .i64 1] wr _) := BLo.out 0 (by omega) wr HB.out.2
        have ix : ∀ w', Sem.run Tryd.prog (Instr.index 60 (.agg #[.int .i64 1, .int .i64 2, .int .i64 3, .int .i64 4]) (.int .i64 0)) w' = .ok (.int .i64 1) w' := fun w' => by kernel_rfl
        have FB : Hid (∀ w', Below w.heap.size w w' → Calls Tryd.prog 23 #[.int .i64 (colV b 0)] w' fun e w2 => e = .returned (.string ⟨(tellL false (colV b 0)).toArray⟩) ∧ Below w'.heap.size w' w2) := fun w' hw => FA.out 0 w' (by omega) (fun h => by omega) hw
        have tl := TL.out 0 (by omega) (fun h => by omega)
        have pl := PL.out 0 (by omega)
        have ps : Hid (preL false b 1 = preL false b 0 ++ (32 :: tellL false (colV b 0))) := PS.out 0
        clear BHi BNo BLo FA TL PL PS hk4
        generalize colV b 0 = V at *
        generalize tellL false V = TV at *
        generalize preL false b 0 = P0 at *
        go_wp2_with (refine step_load rfl 27 _ rfl w.heap.size 0 rfl (bkL b) _ HB.out.1.all Tryd.underlying27 rfl (infoBl BL.out) ?_)
        refine CA.out.mono ?_
        rintro e w2 ⟨rfl, b2⟩
        have H2 : Hid (Blk w.heap.size 27 (bkL b) w2 ∧ Below w.heap.size w w2) := ⟨HB.out.1.below b2, below_trans HB.out.2 b2⟩
        clear CA b2 HB
        go_wp2_with fail
        refine (FB.out _ H2.out.2).mono ?_
        rintro e w3 ⟨rfl, b3⟩
        have H3 : Hid (Blk w.heap.size 27 (bkL b) w3 ∧ Below w.heap.size w w3) := ⟨H2.out.1.below b3, below_trans H2.out.2 b3⟩
        clear FB b3 H2
        go_wp2_with fail
        go_roundw
        case rel => exact ⟨1, by go_num, by
          rw [ps.out]; congr 1, by omega, by omega, H3⟩
        case measure => first | (simp [intOf]; done) | (simp [intOf]; omega)
      · have CA : Hid (Calls Tryd.prog 35 #[.agg (bkL b).toArray, .int .i64 2] wr _) := BLo.out 1 (by omega) wr HB.out.2
        have ix : ∀ w', Sem.run Tryd.prog (Instr.index 60 (.agg #[.int .i64 1, .int .i64 2, .int .i64 3, .int .i64 4]) (.int .i64 1)) w' = .ok (.int .i64 2) w' := fun w' => by kernel_rfl
        have FB : Hid (∀ w', Below w.heap.size w w' → Calls Tryd.prog 23 #[.int .i64 (colV b 1)] w' fun e w2 => e = .returned (.string ⟨(tellL false (colV b 1)).toArray⟩) ∧ Below w'.heap.size w' w2) := fun w' hw => FA.out 1 w' (by omega) (fun h => by omega) hw
        have tl := TL.out 1 (by omega) (fun h => by omega)
        have pl := PL.out 1 (by omega)
        have ps : Hid (preL false b 2 = preL false b 1 ++ (32 :: tellL false (colV b 1))) := PS.out 1
        clear BHi BNo BLo FA TL PL PS hk4
        generalize colV b 1 = V at *
        generalize tellL false V = TV at *
        generalize preL false b 1 = P0 at *
        go_wp2_with (refine step_load rfl 27 _ rfl w.heap.size 0 rfl (bkL b) _ HB.out.1.all Tryd.underlying27 rfl (infoBl BL.out) ?_)
        refine CA.out.mono ?_
        rintro e w2 ⟨rfl, b2⟩
        have H2 : Hid (Blk w.heap.size 27 (bkL b) w2 ∧ Below w.heap.size w w2) := ⟨HB.out.1.below b2, below_trans HB.out.2 b2⟩
        clear CA b2 HB
        go_wp2_with fail
        refine (FB.out _ H2.out.2).mono ?_
        rintro e w3 ⟨rfl, b3⟩
        have H3 : Hid (Blk w.heap.size 27 (bkL b) w3 ∧ Below w.heap.size w w3) := ⟨H2.out.1.below b3, below_trans H2.out.2 b3⟩
        clear FB b3 H2
        go_wp2_with fail
        go_roundw
        case rel => exact ⟨2, by go_num, by
          rw [ps.out]; congr 1, by omega, by omega, H3⟩
        case measure => first | (simp [intOf]; done) | (simp [intOf]; omega)
      · have CA : Hid (Calls Tryd.prog 35 #[.agg (bkL b).toArray, .int .i64 3] wr _) := BLo.out 2 (by omega) wr HB.out.2
        have ix : ∀ w', Sem.run Tryd.prog (Instr.index 60 (.agg #[.int .i64 1, .int .i64 2, .int .i64 3, .int .i64 4]) (.int .i64 2)) w' = .ok (.int .i64 3) w' := fun w' => by kernel_rfl
        have FB : Hid (∀ w', Below w.heap.size w w' → Calls Tryd.prog 23 #[.int .i64 (colV b 2)] w' fun e w2 => e = .returned (.string ⟨(tellL false (colV b 2)).toArray⟩) ∧ Below w'.heap.size w' w2) := fun w' hw => FA.out 2 w' (by omega) (fun h => by omega) hw
        have tl := TL.out 2 (by omega) (fun h => by omega)
        have pl := PL.out 2 (by omega)
        have ps : Hid (preL false b 3 = preL false b 2 ++ (32 :: tellL false (colV b 2))) := PS.out 2
        clear BHi BNo BLo FA TL PL PS hk4
        generalize colV b 2 = V at *
        generalize tellL false V = TV at *
        generalize preL false b 2 = P0 at *
        go_wp2_with (refine step_load rfl 27 _ rfl w.heap.size 0 rfl (bkL b) _ HB.out.1.all Tryd.underlying27 rfl (infoBl BL.out) ?_)
        refine CA.out.mono ?_
        rintro e w2 ⟨rfl, b2⟩
        have H2 : Hid (Blk w.heap.size 27 (bkL b) w2 ∧ Below w.heap.size w w2) := ⟨HB.out.1.below b2, below_trans HB.out.2 b2⟩
        clear CA b2 HB
        go_wp2_with fail
        refine (FB.out _ H2.out.2).mono ?_
        rintro e w3 ⟨rfl, b3⟩
        have H3 : Hid (Blk w.heap.size 27 (bkL b) w3 ∧ Below w.heap.size w w3) := ⟨H2.out.1.below b3, below_trans H2.out.2 b3⟩
        clear FB b3 H2
        go_wp2_with fail
        go_roundw
        case rel => exact ⟨3, by go_num, by
          rw [ps.out]; congr 1, by omega, by omega, H3⟩
        case measure => first | (simp [intOf]; done) | (simp [intOf]; omega)
      · have ix : ∀ w', Sem.run Tryd.prog (Instr.index 60 (.agg #[.int .i64 1, .int .i64 2, .int .i64 3, .int .i64 4]) (.int .i64 3)) w' = .ok (.int .i64 4) w' := fun w' => by kernel_rfl
        cases hc : colsOk b with
        | true =>
          have CA : Hid (Calls _ _ _ _ _) := BHi.out hc wr HB.out.2
          have FB : Hid (∀ w', Below w.heap.size w w' → Calls Tryd.prog 23 #[.int .i64 (colV b 3)] w' fun e w2 => e = .returned (.string ⟨(tellL false (colV b 3)).toArray⟩) ∧ Below w'.heap.size w' w2) := fun w' hw => FA.out 3 w' (by omega) (fun _ => hc) hw
          have tl := TL.out 3 (by omega) (fun _ => hc)
          have pl := PL.out 3 (by omega)
          have ps : Hid (preL false b 4 = preL false b 3 ++ (32 :: tellL false (colV b 3))) := PS.out 3
          have HC : Hid (colsOk b = true) := hc
          clear BHi BNo BLo FA TL PL PS hc hk4
          generalize colV b 3 = V at *
          generalize tellL false V = TV at *
          generalize preL false b 3 = P0 at *
          go_wp2_with (refine step_load rfl 27 _ rfl w.heap.size 0 rfl (bkL b) _ HB.out.1.all Tryd.underlying27 rfl (infoBl BL.out) ?_)
          refine CA.out.mono ?_
          rintro e w2 ⟨rfl, b2⟩
          have H2 : Hid (Blk w.heap.size 27 (bkL b) w2 ∧ Below w.heap.size w w2) := ⟨HB.out.1.below b2, below_trans HB.out.2 b2⟩
          clear CA b2 HB
          go_wp2_with fail
          refine (FB.out _ H2.out.2).mono ?_
          rintro e w3 ⟨rfl, b3⟩
          have H3 : Hid (Blk w.heap.size 27 (bkL b) w3 ∧ Below w.heap.size w w3) := ⟨H2.out.1.below b3, below_trans H2.out.2 b3⟩
          clear FB b3 H2
          go_wp2_with fail
          go_roundw
          case rel => exact ⟨4, by go_num, by
            rw [ps.out]; congr 1, by omega, by first | trivial | exact fun _ => HC.out | exact fun _ => rfl, H3⟩
          case measure => first | (simp [intOf]; done) | (simp [intOf]; omega)
        | false =>
          have CA : Hid (Calls _ _ _ _ _) := BNo.out hc wr HB.out.2
          clear BHi BNo BLo FA TL PL PS hk4
          go_wp2_with (refine step_load rfl 27 _ rfl w.heap.size 0 rfl (bkL b) _ HB.out.1.all Tryd.underlying27 rfl (infoBl BL.out) ?_)
          refine CA.out.mono ?_
          rintro e w2 ⟨rfl, b2⟩
          have H2 : Hid (Below w.heap.size w w2) := below_trans HB.out.2 b2
          clear CA b2 HB
          go_wp2_with fail
          all_goals
            go_ret2
            exact ⟨rfl, H2.out⟩
    · obtain rfl : k = 4 := by omega
      have hc := hk4 rfl
      rw [hc, PA.out]
      clear BHi BNo BLo FA TL PL PS hk4 PA
      go_wp2_with fail
      go_ret2
      exact ⟨rfl, HB.out.2⟩
set_option maxRecDepth 20000 in
set_option maxHeartbeats 4000000 in
theorem tellS_at (b : List Int) (hb : BkOk b) (w : World) (hT : TabS w) : Calls Tryd.prog 22 #[.agg (bkL b).toArray, .func (.func 24) #[] #[]] w (TelAns true b w) := by
  have BL : Hid (b.length = 12) := hb.1
  have FA : Hid (∀ k w', k ≤ 3 → (k = 3 → colsOk b = true) → Below w.heap.size w w' → Calls Tryd.prog 24 #[.int .i64 (colV b k)] w' fun e w2 => e = .returned (.string ⟨(tellL true (colV b k)).toArray⟩) ∧ Below w'.heap.size w' w2) := fun k w' hk ho hw => by
    have c : -9223372036854775808 ≤ colV b k ∧ colV b k ≤ 9223372036854775807 := by
      by_cases e : k = 3
      · exact colV_i64 hb (ho e) k
      · exact colV_i64' hb (by omega)
    exact signed_at (colV b k) c.1 c.2 w' (hT.later hw)
  have TL : Hid (∀ k, k ≤ 3 → (k = 3 → colsOk b = true) → (tellL true (colV b k)).length ≤ 22) := fun k hk ho => by
    have c : -9223372036854775808 ≤ colV b k ∧ colV b k ≤ 9223372036854775807 := by
      by_cases e : k = 3
      · exact colV_i64 hb (ho e) k
      · exact colV_i64' hb (by omega)
    exact tell_len _ c.1 c.2
  have PL : Hid (∀ k, k ≤ 3 → (preL true b k).length ≤ 69) := fun k hk => by have := pre_len true hb k hk; omega
  have PS : Hid (∀ k, preL true b (k + 1) = preL true b k ++ (32 :: tellL true (colV b k))) := fun k => rfl
  have BLo : Hid (∀ k : Nat, k < 3 → ∀ w', Below w.heap.size w w' → Calls Tryd.prog 35 #[.agg (bkL b).toArray, .int .i64 ((k : Int) + 1)] w' fun e w2 => e = .returned (.tuple #[.int .i64 (colV b k), .int .i64 0]) ∧ Below w'.heap.size w' w2) := fun k hk w' hw => by
    have := balance_at b ((k : Int) + 1) w' hb (hT.later hw).2.2.1
    rwa [(bal_lo hk).1, (bal_lo hk).2] at this
  have BHi : Hid (colsOk b = true → ∀ w', Below w.heap.size w w' → Calls Tryd.prog 35 #[.agg (bkL b).toArray, .int .i64 4] w' fun e w2 => e = .returned (.tuple #[.int .i64 (colV b 3), .int .i64 0]) ∧ Below w'.heap.size w' w2) := fun ho w' hw => by
    have := balance_at b 4 w' hb (hT.later hw).2.2.1
    rwa [(bal_hi ho).1, (bal_hi ho).2] at this
  have BNo : Hid (colsOk b = false → ∀ w', Below w.heap.size w w' → Calls Tryd.prog 35 #[.agg (bkL b).toArray, .int .i64 4] w' fun e w2 => e = .returned (.tuple #[.int .i64 0, .int .i64 3]) ∧ Below w'.heap.size w' w2) := fun ho w' hw => by
    have := balance_at b 4 w' hb (hT.later hw).2.2.1
    rwa [(bal_no ho).1, (bal_no ho).2] at this
  have B0 : Hid (Blk w.heap.size 27 (bkL b) (w.alloc (.cells (bkL b).toArray 27)) ∧ Below w.heap.size w (w.alloc (.cells (bkL b).toArray 27))) := ⟨Blk.new _ (bkL b) w, below_alloc w _⟩
  have GC : Hid (World.rangeAt (w.alloc (.cells (bkL b).toArray 27)) 1 0 [.int .i64 1, .int .i64 2, .int .i64 3, .int .i64 4]) := by
    have tc := (hT.later (below_alloc w (.cells (bkL b).toArray 27))).2.2.2.2
    intro j v hj
    have h0 := tc 0 (by omega)
    have h1 := tc 1 (by omega)
    have h2 := tc 2 (by omega)
    have h3 := tc 3 (by omega)
    match j, hj with
    | 0, hj => cases hj; exact h0
    | 1, hj => cases hj; exact h1
    | 2, hj => cases hj; exact h2
    | 3, hj => cases hj; exact h3
  have PA : Hid (preL true b 4 = colsL true b) := pre_all true b
  unfold TelAns
  clear hT hb
  go_enter Tryd.func22, Tryd.ntmps22
  go_upto_region 2 with fail
  generalize hW : w.alloc (.cells (bkL b).toArray 27) = W at *
  clear hW
  go_wp2_with (refine step_load rfl 60 _ rfl 1 0 rfl [.int .i64 1, .int .i64 2, .int .i64 3, .int .i64 4] _ GC.out Tryd.underlying60 rfl (by kernel_rfl) ?_)
  clear GC
  go_loopw [6, 8, 9, 10, 12] (fun vt _ _ _ vk wr => ∃ k : Nat, vk = .int .i64 (k : Int) ∧ vt = .string ⟨(preL true b k).toArray⟩ ∧ k ≤ 4 ∧ (k = 4 → colsOk b = true) ∧ Hid (Blk w.heap.size 27 (bkL b) wr ∧ Below w.heap.size w wr)) (fun _ _ _ _ vk _ => 4 - (intOf vk).toNat)
  case atStart => exact ⟨0, rfl, rfl, by omega, by omega, B0⟩
  case round =>
    clear B0
    obtain ⟨k, rfl, rfl, hk, hk4, HB⟩ := hrel
    by_cases hlt : (k : Int) < 4
    · have hks : k = 0 ∨ k = 1 ∨ k = 2 ∨ k = 3 := by omega
      rcases hks with rfl | rfl | rfl | rfl
      · have CA : Hid (Calls Tryd.prog 35 #[.agg (bkL b).toArray, .int .i64 1] wr _) := BLo.out 0 (by omega) wr HB.out.2
        have ix : ∀ w', Sem.run Tryd.prog (Instr.index 60 (.agg #[.int .i64 1, .int .i64 2, .int .i64 3, .int .i64 4]) (.int .i64 0)) w' = .ok (.int .i64 1) w' := fun w' => by kernel_rfl
        have FB : Hid (∀ w', Below w.heap.size w w' → Calls Tryd.prog 24 #[.int .i64 (colV b 0)] w' fun e w2 => e = .returned (.string ⟨(tellL true (colV b 0)).toArray⟩) ∧ Below w'.heap.size w' w2) := fun w' hw => FA.out 0 w' (by omega) (fun h => by omega) hw
        have tl := TL.out 0 (by omega) (fun h => by omega)
        have pl := PL.out 0 (by omega)
        have ps : Hid (preL true b 1 = preL true b 0 ++ (32 :: tellL true (colV b 0))) := PS.out 0
        clear BHi BNo BLo FA TL PL PS hk4
        generalize colV b 0 = V at *
        generalize tellL true V = TV at *
        generalize preL true b 0 = P0 at *
        go_wp2_with (refine step_load rfl 27 _ rfl w.heap.size 0 rfl (bkL b) _ HB.out.1.all Tryd.underlying27 rfl (infoBl BL.out) ?_)
        refine CA.out.mono ?_
        rintro e w2 ⟨rfl, b2⟩
        have H2 : Hid (Blk w.heap.size 27 (bkL b) w2 ∧ Below w.heap.size w w2) := ⟨HB.out.1.below b2, below_trans HB.out.2 b2⟩
        clear CA b2 HB
        go_wp2_with fail
        refine (FB.out _ H2.out.2).mono ?_
        rintro e w3 ⟨rfl, b3⟩
        have H3 : Hid (Blk w.heap.size 27 (bkL b) w3 ∧ Below w.heap.size w w3) := ⟨H2.out.1.below b3, below_trans H2.out.2 b3⟩
        clear FB b3 H2
        go_wp2_with fail
        go_roundw
        case rel => exact ⟨1, by go_num, by
          rw [ps.out]; congr 1, by omega, by omega, H3⟩
        case measure => first | (simp [intOf]; done) | (simp [intOf]; omega)
      · have CA : Hid (Calls Tryd.prog 35 #[.agg (bkL b).toArray, .int .i64 2] wr _) := BLo.out 1 (by omega) wr HB.out.2
        have ix : ∀ w', Sem.run Tryd.prog (Instr.index 60 (.agg #[.int .i64 1, .int .i64 2, .int .i64 3, .int .i64 4]) (.int .i64 1)) w' = .ok (.int .i64 2) w' := fun w' => by kernel_rfl
        have FB : Hid (∀ w', Below w.heap.size w w' → Calls Tryd.prog 24 #[.int .i64 (colV b 1)] w' fun e w2 => e = .returned (.string ⟨(tellL true (colV b 1)).toArray⟩) ∧ Below w'.heap.size w' w2) := fun w' hw => FA.out 1 w' (by omega) (fun h => by omega) hw
        have tl := TL.out 1 (by omega) (fun h => by omega)
        have pl := PL.out 1 (by omega)
        have ps : Hid (preL true b 2 = preL true b 1 ++ (32 :: tellL true (colV b 1))) := PS.out 1
        clear BHi BNo BLo FA TL PL PS hk4
        generalize colV b 1 = V at *
        generalize tellL true V = TV at *
        generalize preL true b 1 = P0 at *
        go_wp2_with (refine step_load rfl 27 _ rfl w.heap.size 0 rfl (bkL b) _ HB.out.1.all Tryd.underlying27 rfl (infoBl BL.out) ?_)
        refine CA.out.mono ?_
        rintro e w2 ⟨rfl, b2⟩
        have H2 : Hid (Blk w.heap.size 27 (bkL b) w2 ∧ Below w.heap.size w w2) := ⟨HB.out.1.below b2, below_trans HB.out.2 b2⟩
        clear CA b2 HB
        go_wp2_with fail
        refine (FB.out _ H2.out.2).mono ?_
        rintro e w3 ⟨rfl, b3⟩
        have H3 : Hid (Blk w.heap.size 27 (bkL b) w3 ∧ Below w.heap.size w w3) := ⟨H2.out.1.below b3, below_trans H2.out.2 b3⟩
        clear FB b3 H2
        go_wp2_with fail
        go_roundw
        case rel => exact ⟨2, by go_num, by
          rw [ps.out]; congr 1, by omega, by omega, H3⟩
        case measure => first | (simp [intOf]; done) | (simp [intOf]; omega)
      · have CA : Hid (Calls Tryd.prog 35 #[.agg (bkL b).toArray, .int .i64 3] wr _) := BLo.out 2 (by omega) wr HB.out.2
        have ix : ∀ w', Sem.run Tryd.prog (Instr.index 60 (.agg #[.int .i64 1, .int .i64 2, .int .i64 3, .int .i64 4]) (.int .i64 2)) w' = .ok (.int .i64 3) w' := fun w' => by kernel_rfl
        have FB : Hid (∀ w', Below w.heap.size w w' → Calls Tryd.prog 24 #[.int .i64 (colV b 2)] w' fun e w2 => e = .returned (.string ⟨(tellL true (colV b 2)).toArray⟩) ∧ Below w'.heap.size w' w2) := fun w' hw => FA.out 2 w' (by omega) (fun h => by omega) hw
        have tl := TL.out 2 (by omega) (fun h => by omega)
        have pl := PL.out 2 (by omega)
        have ps : Hid (preL true b 3 = preL true b 2 ++ (32 :: tellL true (colV b 2))) := PS.out 2
        clear BHi BNo BLo FA TL PL PS hk4
        generalize colV b 2 = V at *
        generalize tellL true V = TV at *
        generalize preL true b 2 = P0 at *
        go_wp2_with (refine step_load rfl 27 _ rfl w.heap.size 0 rfl (bkL b) _ HB.out.1.all Tryd.underlying27 rfl (infoBl BL.out) ?_)
        refine CA.out.mono ?_
        rintro e w2 ⟨rfl, b2⟩
        have H2 : Hid (Blk w.heap.size 27 (bkL b) w2 ∧ Below w.heap.size w w2) := ⟨HB.out.1.below b2, below_trans HB.out.2 b2⟩
        clear CA b2 HB
        go_wp2_with fail
        refine (FB.out _ H2.out.2).mono ?_
        rintro e w3 ⟨rfl, b3⟩
        have H3 : Hid (Blk w.heap.size 27 (bkL b) w3 ∧ Below w.heap.size w w3) := ⟨H2.out.1.below b3, below_trans H2.out.2 b3⟩
        clear FB b3 H2
        go_wp2_with fail
        go_roundw
        case rel => exact ⟨3, by go_num, by
          rw [ps.out]; congr 1, by omega, by omega, H3⟩
        case measure => first | (simp [intOf]; done) | (simp [intOf]; omega)
      · have ix : ∀ w', Sem.run Tryd.prog (Instr.index 60 (.agg #[.int .i64 1, .int .i64 2, .int .i64 3, .int .i64 4]) (.int .i64 3)) w' = .ok (.int .i64 4) w' := fun w' => by kernel_rfl
        cases hc : colsOk b with
        | true =>
          have CA : Hid (Calls _ _ _ _ _) := BHi.out hc wr HB.out.2
          have FB : Hid (∀ w', Below w.heap.size w w' → Calls Tryd.prog 24 #[.int .i64 (colV b 3)] w' fun e w2 => e = .returned (.string ⟨(tellL true (colV b 3)).toArray⟩) ∧ Below w'.heap.size w' w2) := fun w' hw => FA.out 3 w' (by omega) (fun _ => hc) hw
          have tl := TL.out 3 (by omega) (fun _ => hc)
          have pl := PL.out 3 (by omega)
          have ps : Hid (preL true b 4 = preL true b 3 ++ (32 :: tellL true (colV b 3))) := PS.out 3
          have HC : Hid (colsOk b = true) := hc
          clear BHi BNo BLo FA TL PL PS hc hk4
          generalize colV b 3 = V at *
          generalize tellL true V = TV at *
          generalize preL true b 3 = P0 at *
          go_wp2_with (refine step_load rfl 27 _ rfl w.heap.size 0 rfl (bkL b) _ HB.out.1.all Tryd.underlying27 rfl (infoBl BL.out) ?_)
          refine CA.out.mono ?_
          rintro e w2 ⟨rfl, b2⟩
          have H2 : Hid (Blk w.heap.size 27 (bkL b) w2 ∧ Below w.heap.size w w2) := ⟨HB.out.1.below b2, below_trans HB.out.2 b2⟩
          clear CA b2 HB
          go_wp2_with fail
          refine (FB.out _ H2.out.2).mono ?_
          rintro e w3 ⟨rfl, b3⟩
          have H3 : Hid (Blk w.heap.size 27 (bkL b) w3 ∧ Below w.heap.size w w3) := ⟨H2.out.1.below b3, below_trans H2.out.2 b3⟩
          clear FB b3 H2
          go_wp2_with fail
          go_roundw
          case rel => exact ⟨4, by go_num, by
            rw [ps.out]; congr 1, by omega, by first | trivial | exact fun _ => HC.out | exact fun _ => rfl, H3⟩
          case measure => first | (simp [intOf]; done) | (simp [intOf]; omega)
        | false =>
          have CA : Hid (Calls _ _ _ _ _) := BNo.out hc wr HB.out.2
          clear BHi BNo BLo FA TL PL PS hk4
          go_wp2_with (refine step_load rfl 27 _ rfl w.heap.size 0 rfl (bkL b) _ HB.out.1.all Tryd.underlying27 rfl (infoBl BL.out) ?_)
          refine CA.out.mono ?_
          rintro e w2 ⟨rfl, b2⟩
          have H2 : Hid (Below w.heap.size w w2) := below_trans HB.out.2 b2
          clear CA b2 HB
          go_wp2_with fail
          all_goals
            go_ret2
            exact ⟨rfl, H2.out⟩
    · obtain rfl : k = 4 := by omega
      have hc := hk4 rfl
      rw [hc, PA.out]
      clear BHi BNo BLo FA TL PL PS hk4 PA
      go_wp2_with fail
      go_ret2
      exact ⟨rfl, HB.out.2⟩
end Go.Proofs.YtmennknknecgjaaDoor

namespace Go.Proofs.YtmennknknecgjaaDoor
open Go.RowKit LedM StM CalM

theorem rcols_held {G : Nat} {W w1 w2 : World} {p1 p2 p3 : Addr} {v1 v2 v3 : Value} (hG : W.heap.size = G) (hU : Below w1.heap.size w1 w2) (h : Below G W w1 ∧ w1.cell? p1 = some v1 ∧ w1.cell? p2 = some v2 ∧ w1.cell? p3 = some v3) : Below G W w2 ∧ w2.cell? p1 = some v1 ∧ w2.cell? p2 = some v2 ∧ w2.cell? p3 = some v3 :=
  have k : ∀ {p : Addr} {v : Value}, w1.cell? p = some v → w2.cell? p = some v := fun hc => (hU.cell (World.block_lt_of_cell? _ _ hc)).trans hc
  ⟨by subst hG; exact below_trans h.1 hU, k h.2.1, k h.2.2.1, k h.2.2.2⟩
set_option maxRecDepth 20000 in
set_option maxHeartbeats 4000000 in
theorem rcols_at (sg : Bool) (b : List Int) (hb : BkOk b) (w : World) (hT : TabS w) : Calls Tryd.prog 17 #[.agg (bkL b).toArray, .bool sg] w (TelAns sg b w) := by
  have BL : Hid (b.length = 12) := hb.1
  have NB := Blk.new 27 (bkL b) w
  have WB := below_alloc w (.cells (bkL b).toArray 27)
  have c1 := NB.cell 1 _ (bkL_at (by rw [hb.1]; decide))
  have c2 := NB.cell 2 _ (bkL_at (by rw [hb.1]; decide))
  have c3 := NB.cell 3 _ (bkL_at (by rw [hb.1]; decide))
  have c4 := NB.cell 4 _ (bkL_at (by rw [hb.1]; decide))
  have SU : Hid (∀ w', Calls Tryd.prog 28 #[.int .i64 0, .int .i64 (b.getD 4 0)] w' fun e w2 => e = .returned (.tuple #[.int .i64 (smV (0 - b.getD 4 0)), .bool (smOk (0 - b.getD 4 0))]) ∧ w2 = w') := fun w' => rsub_any 0 (b.getD 4 0) (by decide) (by decide) (hb.2 4).1 (hb.2 4).2 w'
  have FT : Hid (∀ x w', -9223372036854775808 ≤ x → x ≤ 9223372036854775807 → Below w.heap.size w w' → Calls Tryd.prog 29 #[.int .i64 x, .bool sg] w' fun e w2 => e = .returned (.string ⟨(tellL sg x).toArray⟩) ∧ Below w'.heap.size w' w2) := fun x w' h0 h1 hw => rtell_at x sg h0 h1 w' (hT.later hw)
  have WA : Hid (Below w.heap.size w (w.alloc (.cells (bkL b).toArray 27))) := WB
  have x4 := hb.2 4
  unfold TelAns
  cases hc : colsOk b with
  | false =>
    have ho : b.getD 4 0 = -9223372036854775808 := by simpa [colsOk] using hc
    rw [if_neg Bool.false_ne_true]
    have e1 : smOk (0 - b.getD 4 0) = false := by rw [ho]; decide
    rw [e1] at SU
    generalize smV (0 - b.getD 4 0) = V at *
    generalize b.getD 4 0 = x at *
    generalize bkL b = cs at *
    clear FT hT hb hc c1 c2 c3 NB ho e1 x4
    go_enter Tryd.func17, Tryd.ntmps17
    go_wp2_with fail
    refine (SU.out _).mono ?_
    rintro e w1 ⟨rfl, hw⟩
    rw [hw]
    clear hw w1 SU
    go_wp2_with fail
    go_ret2
    exact ⟨rfl, WA.out⟩
  | true =>
    have ho : b.getD 4 0 ≠ -9223372036854775808 := by simpa [colsOk] using hc
    rw [if_pos rfl]
    unfold i64 at x4
    have e1 : smOk (0 - b.getD 4 0) = true := by unfold smOk; exact decide_eq_true ⟨by omega, by omega⟩
    have e2 : smV (0 - b.getD 4 0) = -(b.getD 4 0) := by unfold smV; rw [e1, if_pos rfl]; omega
    rw [e1, e2] at SU
    have T1 : Hid (∀ w', Below w.heap.size w w' → Calls Tryd.prog 29 #[.int .i64 (b.getD 1 0), .bool sg] w' fun e w2 => e = .returned (.string ⟨(tellL sg (b.getD 1 0)).toArray⟩) ∧ Below w'.heap.size w' w2) := fun w' hw => FT.out _ w' (hb.2 1).1 (hb.2 1).2 hw
    have T2 : Hid (∀ w', Below w.heap.size w w' → Calls Tryd.prog 29 #[.int .i64 (b.getD 2 0), .bool sg] w' fun e w2 => e = .returned (.string ⟨(tellL sg (b.getD 2 0)).toArray⟩) ∧ Below w'.heap.size w' w2) := fun w' hw => FT.out _ w' (hb.2 2).1 (hb.2 2).2 hw
    have T3 : Hid (∀ w', Below w.heap.size w w' → Calls Tryd.prog 29 #[.int .i64 (b.getD 3 0), .bool sg] w' fun e w2 => e = .returned (.string ⟨(tellL sg (b.getD 3 0)).toArray⟩) ∧ Below w'.heap.size w' w2) := fun w' hw => FT.out _ w' (hb.2 3).1 (hb.2 3).2 hw
    have T4 : Hid (∀ w', Below w.heap.size w w' → Calls Tryd.prog 29 #[.int .i64 (-(b.getD 4 0)), .bool sg] w' fun e w2 => e = .returned (.string ⟨(tellL sg (-(b.getD 4 0))).toArray⟩) ∧ Below w'.heap.size w' w2) := fun w' hw => FT.out _ w' (by omega) (by omega) hw
    have l1 := tell_len sg (hb.2 1).1 (hb.2 1).2
    have l2 := tell_len sg (hb.2 2).1 (hb.2 2).2
    have l3 := tell_len sg (hb.2 3).1 (hb.2 3).2
    have l4 := tell_len sg (c := -(b.getD 4 0)) (by omega) (by omega)
    have CL : Hid (colsL sg b = 32 :: (tellL sg (b.getD 1 0) ++ 32 :: (tellL sg (b.getD 2 0) ++ 32 :: (tellL sg (b.getD 3 0) ++ 32 :: tellL sg (-(b.getD 4 0)))))) := rfl
    clear FT hT hb hc NB e1 e2 ho x4
    generalize colsL sg b = L at *
    generalize tellL sg (b.getD 1 0) = L1 at *
    generalize tellL sg (b.getD 2 0) = L2 at *
    generalize tellL sg (b.getD 3 0) = L3 at *
    generalize tellL sg (-(b.getD 4 0)) = L4 at *
    generalize hx4 : -(b.getD 4 0) = y4 at *
    generalize b.getD 1 0 = x1 at *
    generalize b.getD 2 0 = x2 at *
    generalize b.getD 3 0 = x3 at *
    generalize b.getD 4 0 = x4 at *
    clear hx4
    go_enter Tryd.func17, Tryd.ntmps17
    go_wp2_with fail
    refine (SU.out _).mono ?_
    rintro e w1 ⟨rfl, hw⟩
    rw [hw]
    clear hw w1 SU
    generalize hW : w.alloc (.cells (bkL b).toArray 27) = W at *
    clear hW
    obtain ⟨G, hG⟩ : ∃ G, w.heap.size = G := ⟨_, rfl⟩
    have HG : Hid (w.heap.size = G) := hG
    rw [hG] at c1 c2 c3 c4 ⊢
    clear hG
    have W0 := WA.out
    go_wp2_with fail
    have KK : Hid (∀ (a : World) (x : Int) (l : List UInt8), Below G w a → ((x = x1 ∧ l = L1) ∨ (x = x2 ∧ l = L2) ∨ (x = x3 ∧ l = L3)) → Calls Tryd.prog 29 #[.int .i64 x, .bool sg] a fun e w' => e = .returned (.string ⟨l.toArray⟩) ∧ Below a.heap.size a w') := fun a x l h hc => by
      rw [← HG.out] at h
      rcases hc with ⟨rfl, rfl⟩ | ⟨rfl, rfl⟩ | ⟨rfl, rfl⟩
      · exact T1.out a h
      · exact T2.out a h
      · exact T3.out a h
    clear c4 T1 T2 T3
    rw [HG.out] at W0
    have D0 : Hid (Below G w W.drew ∧ W.drew.cell? ⟨G, 1, none⟩ = some (.int .i64 x1) ∧ W.drew.cell? ⟨G, 2, none⟩ = some (.int .i64 x2) ∧ W.drew.cell? ⟨G, 3, none⟩ = some (.int .i64 x3)) := ⟨W0.drew, c1, c2, c3⟩
    have q1 : ¬ 9223372036854775807 < 1 + L1.length := by omega
    have q2 : ¬ 9223372036854775807 < 1 + L1.length + 1 := by omega
    have q3 : ¬ 9223372036854775807 < 1 + L1.length + 1 + L2.length := by omega
    have q4 : ¬ 9223372036854775807 < 1 + L1.length + 1 + L2.length + 1 := by omega
    have q5 : ¬ 9223372036854775807 < 1 + L1.length + 1 + L2.length + 1 + L3.length := by omega
    go_region_held3 (fun w' => Below G w w' ∧ w'.cell? ⟨G, 1, none⟩ = some (.int .i64 x1) ∧ w'.cell? ⟨G, 2, none⟩ = some (.int .i64 x2) ∧ w'.cell? ⟨G, 3, none⟩ = some (.int .i64 x3)) (first | assumption | exact D0.out | exact rcols_held HG.out hU (by assumption)) ((go_at_call 29; refine (KK.out _ _ _ (And.left (by assumption)) (by first | exact .inl ⟨rfl, rfl⟩ | exact .inr (.inl ⟨rfl, rfl⟩) | exact .inr (.inr ⟨rfl, rfl⟩))).mono ?_; rintro e w1 ⟨rfl, hU⟩))
    all_goals
      have BW : Hid (Below G w w1) := And.left (b := w1.cell? ⟨G, 1, none⟩ = some (.int .i64 x1) ∧ w1.cell? ⟨G, 2, none⟩ = some (.int .i64 x2) ∧ w1.cell? ⟨G, 3, none⟩ = some (.int .i64 x3)) (by assumption)
      clear KK D0
      go_wp2_with fail
      refine (T4.out _ (by rw [HG.out]; exact BW.out)).mono ?_
      rintro e w9 ⟨rfl, b9⟩
      have B9 : Hid (Below w.heap.size w w9) := below_trans (by rw [HG.out]; exact BW.out) b9
      clear T4 b9 BW
      go_wp2_with fail
      go_ret2
      refine ⟨ret_sb ?_ rfl, B9.out⟩
      rw [CL.out]
      apply ByteArray.ext
      simp [ByteArray.data_append]
set_option maxRecDepth 20000 in
theorem rword_at (k : Int) (w : World) : Calls Tryd.prog 18 #[.int .i64 k] w fun e w' => e = .returned (.string ⟨(wordL k).toArray⟩) ∧ w' = w := by
  by_cases h : 1 ≤ k ∧ k ≤ 8
  · have hk : k = 1 ∨ k = 2 ∨ k = 3 ∨ k = 4 ∨ k = 5 ∨ k = 6 ∨ k = 7 ∨ k = 8 := by omega
    rcases hk with rfl | rfl | rfl | rfl | rfl | rfl | rfl | rfl
    all_goals
      go_enter Tryd.func18, Tryd.ntmps18
      go_wp2_with fail
      go_ret
      exact ⟨rfl, rfl⟩
  · have e : wordL k = [] := by
      unfold wordL
      repeat (rw [if_neg (by omega)])
    rw [e]
    have n1 : (k == 1) = false := by simp; omega
    have n2 : (k == 2) = false := by simp; omega
    have n3 : (k == 3) = false := by simp; omega
    have n4 : (k == 4) = false := by simp; omega
    have n5 : (k == 5) = false := by simp; omega
    have n6 : (k == 6) = false := by simp; omega
    have n7 : (k == 7) = false := by simp; omega
    have n8 : (k == 8) = false := by simp; omega
    go_enter Tryd.func18, Tryd.ntmps18
    go_wp2_with fail
    go_ret
    exact ⟨rfl, rfl⟩
end Go.Proofs.YtmennknknecgjaaDoor

namespace Go.Proofs.YtmennknknecgjaaDoor
open Go.RowKit LedM StM CalM

namespace StM
/-- What stands behind a day can be told. -/
def stdOk (ms : List (List Int)) (d : Int) : Bool := fitsL (sumB (upl ms d)) && colsOk (bookL (sumB (upl ms d)))
def stdL (wd : List UInt8) (ms : List (List Int)) (d : Int) : List UInt8 := wd ++ colsL false (bookL (sumB (upl ms d)))
end StM
theorem stored_belowS {w w2 w3 : World} {o : Obj} (b : Below w.heap.size w w2) (g3 : (w2.alloc o).grownBy w3 (some w2.heap.size)) : Below w.heap.size w w3 := (b.alloc b.size _).grown g3 (by have := b.size; simp; omega) (fun q e => by cases e; exact b.size)
/-- What a line of a balance answers. -/
def StdAns (wd : List UInt8) (ms : List (List Int)) (d : Int) (w : World) (e : Ending) (w' : World) : Prop := ∃ t : List UInt8, t.length ≤ 110 ∧ (stdOk ms d = true → t = stdL wd ms d) ∧ e = .returned (.tuple #[.string ⟨t.toArray⟩, .bool (stdOk ms d)]) ∧ Below w.heap.size w w'
theorem std_ret {wd : List UInt8} {ms : List (List Int)} {d : Int} {w w' : World} {s : ByteArray} {b : Bool} (t : List UInt8) (hl : t.length ≤ 110) (hs : s = ⟨t.toArray⟩) (hb : b = stdOk ms d) (ht : b = true → t = stdL wd ms d) (h : Below w.heap.size w w') : StdAns wd ms d w (.returned (.tuple #[.string s, .bool b])) w' := by
  subst hs hb
  exact ⟨t, hl, ht, rfl, h⟩
set_option maxRecDepth 20000 in
set_option maxHeartbeats 4000000 in
theorem balanceLine_at (wd : List UInt8) (hwd : wd.length ≤ 10) (ms : List (List Int)) (d : Int) (v : Value) (w : World) (h : RdMo w v ms) (ok : ∀ m ∈ ms, MoOk m) (hn : ms.length ≤ 1000000) (hT : TabS w) : Calls Tryd.prog 12 #[.string ⟨wd.toArray⟩, v, .int .i64 d] w (StdAns wd ms d w) := by
  have UP : Hid (Calls Tryd.prog 21 #[v, .int .i64 d] w (UptAns ms d w)) := upto_at ms d v w h ok hn
  have BK := bookL_ok (sumB_len (upl ms d))
  have TE : Hid (∀ w', Below w.heap.size w w' → Calls Tryd.prog 22 #[.agg (bkL (bookL (sumB (upl ms d)))).toArray, .func (.func 23) #[] #[]] w' (TelAns false (bookL (sumB (upl ms d))) w')) := fun w' hb => tellF_at _ BK w' (hT.later hb)
  have EO : Hid ((fitsL (sumB (upl ms d)) && colsOk (bookL (sumB (upl ms d)))) = stdOk ms d) := rfl
  have EL : Hid (wd ++ colsL false (bookL (sumB (upl ms d))) = stdL wd ms d) := rfl
  have CL := cols_len false BK
  have BL : Hid ((bookL (sumB (upl ms d))).length = 12) := BK.1
  unfold UptAns at UP
  unfold TelAns at TE
  clear h ok hn hT BK
  generalize bookL (sumB (upl ms d)) = B at *
  generalize fitsL (sumB (upl ms d)) = K at *
  go_enter Tryd.func12, Tryd.ntmps12
  go_wp2_with fail
  refine UP.out.mono ?_
  rintro e w2 ⟨rfl, b2⟩
  have B2 : Hid (Below w.heap.size w w2) := b2
  clear UP b2
  go_upto_region 2 with (refine step_store rfl 27 _ _ rfl w2.heap.size 0 27 (bkL zeroL) (bkL B) rfl rfl (Blk.new _ (bkL zeroL) w2) (by rw [bkL_len, BL.out]; exact Nat.le_refl _) (infoBl BL.out) (bkL_one _) ?_; intro w3 nb3 g3; rw [store_all (by rw [bkL_len, BL.out]; rfl)] at nb3; have B3 : Hid (Below w.heap.size w w3 ∧ Blk w2.heap.size 27 (bkL B) w3) := ⟨stored_belowS B2.out g3, nb3⟩; clear nb3 g3)
  generalize w2.heap.size = GA at *
  clear B2
  have TC : Hid (Calls _ _ _ _ _) := TE.out w3 B3.out.1
  clear TE
  cases K with
  | false =>
    clear TC
    go_wp2_with fail
    go_ret2
    exact std_ret [] (by decide) rfl (by rw [← EO.out]; rfl) (fun h => by cases h) B3.out.1
  | true =>
    cases hc : colsOk B with
    | false =>
      rw [hc, if_neg Bool.false_ne_true] at TC
      have EO2 : Hid (false = stdOk ms d) := by show _ = _; rw [← EO.out, hc]; rfl
      clear hc CL
      go_wp2_with (refine step_load rfl 27 _ rfl GA 0 rfl (bkL B) _ B3.out.2.all Tryd.underlying27 rfl (infoBl BL.out) ?_)
      refine TC.out.mono ?_
      rintro e w4 ⟨rfl, b4⟩
      have B4 : Hid (Below w.heap.size w w4) := below_trans B3.out.1 b4
      clear TC b4 B3
      go_wp2_with fail
      go_ret2
      exact std_ret [] (by decide) rfl EO2.out (fun h => by cases h) B4.out
    | true =>
      rw [hc, if_pos rfl] at TC
      have EO2 : Hid (true = stdOk ms d) := by show _ = _; rw [← EO.out, hc]; rfl
      have cl := CL hc
      clear hc CL
      generalize colsL false B = C at *
      go_wp2_with (refine step_load rfl 27 _ rfl GA 0 rfl (bkL B) _ B3.out.2.all Tryd.underlying27 rfl (infoBl BL.out) ?_)
      refine TC.out.mono ?_
      rintro e w4 ⟨rfl, b4⟩
      have B4 : Hid (Below w.heap.size w w4) := below_trans B3.out.1 b4
      clear TC b4 B3
      go_wp2_with fail
      go_ret2
      exact std_ret (wd ++ C) (by rw [List.length_append]; omega) (bytes_cat rfl) EO2.out (fun _ => EL.out) B4.out
set_option maxRecDepth 20000 in
set_option maxHeartbeats 4000000 in
theorem rstanding_at (wd : List UInt8) (hwd : wd.length ≤ 10) (ms : List (List Int)) (d : Int) (v : Value) (w : World) (h : RdMo w v ms) (ok : ∀ m ∈ ms, MoOk m) (hn : ms.length ≤ 1000000) (hT : TabS w) : Calls Tryd.prog 15 #[.string ⟨wd.toArray⟩, v, .int .i64 d] w (StdAns wd ms d w) := by
  have UP : Hid (Calls Tryd.prog 27 #[v, .int .i64 d] w (UptAns ms d w)) := rupto_at ms d v w h ok hn
  have BK := bookL_ok (sumB_len (upl ms d))
  have TE : Hid (∀ w', Below w.heap.size w w' → Calls Tryd.prog 17 #[.agg (bkL (bookL (sumB (upl ms d)))).toArray, .bool false] w' (TelAns false (bookL (sumB (upl ms d))) w')) := fun w' hb => rcols_at false _ BK w' (hT.later hb)
  have EO : Hid ((fitsL (sumB (upl ms d)) && colsOk (bookL (sumB (upl ms d)))) = stdOk ms d) := rfl
  have EL : Hid (wd ++ colsL false (bookL (sumB (upl ms d))) = stdL wd ms d) := rfl
  have CL := cols_len false BK
  have BL : Hid ((bookL (sumB (upl ms d))).length = 12) := BK.1
  unfold UptAns at UP
  unfold TelAns at TE
  clear h ok hn hT BK
  generalize bookL (sumB (upl ms d)) = B at *
  generalize fitsL (sumB (upl ms d)) = K at *
  go_enter Tryd.func15, Tryd.ntmps15
  go_wp2_with fail
  refine UP.out.mono ?_
  rintro e w2 ⟨rfl, b2⟩
  have B2 : Hid (Below w.heap.size w w2) := b2
  clear UP b2
  go_upto_region 2 with (refine step_store rfl 27 _ _ rfl w2.heap.size 0 27 (bkL zeroL) (bkL B) rfl rfl (Blk.new _ (bkL zeroL) w2) (by rw [bkL_len, BL.out]; exact Nat.le_refl _) (infoBl BL.out) (bkL_one _) ?_; intro w3 nb3 g3; rw [store_all (by rw [bkL_len, BL.out]; rfl)] at nb3; have B3 : Hid (Below w.heap.size w w3 ∧ Blk w2.heap.size 27 (bkL B) w3) := ⟨stored_belowS B2.out g3, nb3⟩; clear nb3 g3)
  generalize w2.heap.size = GA at *
  clear B2
  have TC : Hid (Calls _ _ _ _ _) := TE.out w3 B3.out.1
  clear TE
  cases hc : colsOk B with
  | false =>
    rw [hc, if_neg Bool.false_ne_true] at TC
    have EO2 : Hid (false = stdOk ms d) := by show _ = _; rw [← EO.out, hc, Bool.and_false]
    clear hc CL
    go_wp2_with (refine step_load rfl 27 _ rfl GA 0 rfl (bkL B) _ B3.out.2.all Tryd.underlying27 rfl (infoBl BL.out) ?_)
    refine TC.out.mono ?_
    rintro e w4 ⟨rfl, b4⟩
    have B4 : Hid (Below w.heap.size w w4) := below_trans B3.out.1 b4
    clear TC b4 B3
    cases K
    all_goals
      go_wp2_with fail
      go_ret2
      exact std_ret wd (by omega) (by first | rfl | exact bytes_cat (List.append_nil _)) EO2.out (fun h => by cases h) B4.out
  | true =>
    rw [hc, if_pos rfl] at TC
    have EO2 : Hid (K = stdOk ms d) := by show _ = _; rw [← EO.out, hc, Bool.and_true]
    have cl := CL hc
    clear hc CL
    generalize colsL false B = C at *
    go_wp2_with (refine step_load rfl 27 _ rfl GA 0 rfl (bkL B) _ B3.out.2.all Tryd.underlying27 rfl (infoBl BL.out) ?_)
    refine TC.out.mono ?_
    rintro e w4 ⟨rfl, b4⟩
    have B4 : Hid (Below w.heap.size w w4) := below_trans B3.out.1 b4
    clear TC b4 B3
    cases K
    all_goals
      go_wp2_with fail
      go_ret2
      exact std_ret (wd ++ C) (by rw [List.length_append]; omega) (bytes_cat rfl) EO2.out (fun _ => EL.out) B4.out
end Go.Proofs.YtmennknknecgjaaDoor

namespace Go.Proofs.YtmennknknecgjaaDoor
open Go.RowKit LedM StM CalM

namespace StM
def mvOk (m : List Int) : Bool := dayOk (m.getD 0 0) && lineOk m
def mvL (D : Int → List UInt8) (m : List Int) : List UInt8 := if mvOk m then lineL D m else []
end StM
def MvAns (D : Int → List UInt8) (m : List Int) (w : World) (e : Ending) (w' : World) : Prop := e = .returned (.tuple #[.string ⟨(mvL D m).toArray⟩, .bool (mvOk m)]) ∧ Below w.heap.size w w'
theorem bytes_cat3 {a b c l : List UInt8} (h : a ++ 32 :: (b ++ c) = l) : ((⟨a.toArray⟩ : ByteArray) ++ ⟨#[32]⟩) ++ ⟨b.toArray⟩ ++ ⟨c.toArray⟩ = ⟨l.toArray⟩ := by
  subst h
  apply ByteArray.ext
  simp [ByteArray.data_append]
set_option maxRecDepth 20000 in
set_option maxHeartbeats 4000000 in
theorem moveLine_at (D : Int → List UInt8) (HD : DayAt D) (m : List Int) (hm : MoOk m) (w : World) (hT : TabS w) : Calls Tryd.prog 13 #[.agg (bkL m).toArray] w (MvAns D m w) := by
  have NB := Blk.new 29 (bkL m) w
  have WB := below_alloc w (.cells (bkL m).toArray 29)
  have c0 := NB.cell 0 _ (bkL_at (by rw [hm.1]; decide))
  have c1 := NB.cell 1 _ (bkL_at (by rw [hm.1]; decide))
  have CH : Hid (World.rangeAt (w.alloc (.cells (bkL m).toArray 29)) w.heap.size 2 (bkL (m.drop 2))) := mo_change NB hm.1
  have WA : Hid (Below w.heap.size w (w.alloc (.cells (bkL m).toArray 29))) := WB
  have BK : BkOk (m.drop 2) := ⟨by rw [List.length_drop, hm.1], fun k => by
    have := hm.2 (2 + k)
    rwa [List.getD_eq_getElem?_getD, ← List.getElem?_drop, ← List.getD_eq_getElem?_getD] at this⟩
  have LB : Hid ((m.drop 2).length = 12) := BK.1
  have FD : Hid (∀ w', Below w.heap.size w w' → Calls Tryd.prog 11 #[.int .i64 (m.getD 0 0)] w' fun e w2 => e = .returned (.tuple #[.string ⟨(D (m.getD 0 0)).toArray⟩, .bool (dayOk (m.getD 0 0))]) ∧ Below w'.heap.size w' w2) := fun w' hb => (HD _).2.1 w' (hT.later hb)
  have TE : Hid (∀ w', Below w.heap.size w w' → Calls Tryd.prog 22 #[.agg (bkL (m.drop 2)).toArray, .func (.func 24) #[] #[]] w' (TelAns true (m.drop 2) w')) := fun w' hb => tellS_at _ BK w' (hT.later hb)
  have TQ : Hid (∀ w', Below w.heap.size w w' → TabQ w') := fun w' hb => (hT.later hb).2.2.2.1
  have dl := (HD (m.getD 0 0)).1
  have CL := cols_len true BK
  have EO : Hid ((dayOk (m.getD 0 0) && (decide (1 ≤ m.getD 1 0 ∧ m.getD 1 0 ≤ 8) && colsOk (m.drop 2))) = mvOk m) := rfl
  have EL : Hid (D (m.getD 0 0) ++ 32 :: (wordL (m.getD 1 0) ++ colsL true (m.drop 2)) = lineL D m) := rfl
  have wl := word_len (m.getD 1 0)
  have E0 : Hid (mvOk m = false → (⟨#[]⟩ : ByteArray) = ⟨(mvL D m).toArray⟩) := fun h => by unfold mvL; rw [h]; rfl
  have E1 : Hid (mvOk m = true → mvL D m = lineL D m) := fun h => by unfold mvL; rw [h]; rfl
  unfold TelAns at TE
  unfold MvAns
  clear hT hm NB WB BK HD
  generalize mvL D m = TX at *
  generalize mvOk m = OKM at *
  generalize lineL D m = LN at *
  generalize hk0 : m.getD 1 0 = k at *
  generalize D (m.getD 0 0) = DL at *
  generalize dayOk (m.getD 0 0) = DK at *
  generalize m.getD 0 0 = d at *
  generalize hCD : m.drop 2 = B at *
  clear hk0
  by_cases hk : 1 ≤ k ∧ k ≤ 8
  · obtain ⟨kn, rfl⟩ : ∃ kn : Nat, k = (kn : Int) := ⟨k.toNat, by omega⟩
    rw [show decide (1 ≤ (kn : Int) ∧ (kn : Int) ≤ 8) = true from decide_eq_true hk, Bool.true_and] at EO
    have k1 : ¬ (kn : Int) < 1 := by omega
    have k2 : ¬ (9 : Int) ≤ (kn : Int) := by omega
    have k3 : (0 : Int) ≤ (kn : Int) := by omega
    have k4 : (kn : Int) < 9 := by omega
    go_enter Tryd.func13, Tryd.ntmps13
    go_upto_region 3 with fail
    obtain ⟨W, hW⟩ : ∃ W, w.alloc (.cells (bkL m).toArray 29) = W := ⟨_, rfl⟩
    rw [hW] at c0 c1 CH WA ⊢
    clear hW
    have FC : Hid (Calls _ _ _ _ _) := FD.out W WA.out
    clear FD
    go_wp2_with fail
    refine FC.out.mono ?_
    rintro e w2 ⟨rfl, b2⟩
    have B2 : Hid (Below w.heap.size w w2) := below_trans WA.out b2
    have c1 : w2.cell? ⟨w.heap.size, 1, none⟩ = some (.int .i64 (kn : Int)) := (b2.cell (World.block_lt_of_cell? _ _ c1)).trans c1
    have CH : Hid (w2.rangeAt w.heap.size 2 (bkL B)) := range_laterB CH.out (World.block_lt_of_cell? _ _ c0) b2
    have TC : Hid (Calls _ _ _ _ _) := TE.out w2 B2.out
    clear FC b2 WA TE c0
    cases hc : colsOk B with
    | false =>
      rw [hc, if_neg Bool.false_ne_true] at TC
      have EO2 : Hid (OKM = false) := by show _ = _; rw [← EO.out, hc, Bool.and_false]
      clear hc CL
      go_wp2_with (refine step_load rfl 27 _ rfl w.heap.size 2 rfl (bkL B) _ CH.out Tryd.underlying27 rfl (infoBl LB.out) ?_)
      refine TC.out.mono ?_
      rintro e w4 ⟨rfl, b4⟩
      have B4 : Hid (Below w.heap.size w w4) := below_trans B2.out b4
      clear TC b4 B2
      cases DK
      all_goals
        go_wp2_with fail
        go_ret2
        exact ⟨ret_sb (E0.out EO2.out) EO2.out.symm, B4.out⟩
    | true =>
      rw [hc, if_pos rfl] at TC
      have EO2 : Hid (OKM = DK) := by show _ = _; rw [← EO.out, hc, Bool.and_true]
      have cl := CL hc
      clear hc CL
      generalize colsL true B = C at *
      go_wp2_with (refine step_load rfl 27 _ rfl w.heap.size 2 rfl (bkL B) _ CH.out Tryd.underlying27 rfl (infoBl LB.out) ?_)
      refine TC.out.mono ?_
      rintro e w4 ⟨rfl, b4⟩
      have B4 : Hid (Below w.heap.size w w4) := below_trans B2.out b4
      have c1 : w4.cell? ⟨w.heap.size, 1, none⟩ = some (.int .i64 (kn : Int)) := (b4.cell (World.block_lt_of_cell? _ _ c1)).trans c1
      have cw : w4.cell? ⟨0, kn, none⟩ = some (.string ⟨(wordL (kn : Int)).toArray⟩) := TQ.out w4 B4.out kn (by omega)
      clear TC b4 B2 TQ
      generalize wordL (kn : Int) = WD at *
      cases DK with
      | false =>
        go_wp2_with fail
        go_ret2
        exact ⟨ret_sb (E0.out EO2.out) EO2.out.symm, B4.out⟩
      | true =>
        go_wp2_with fail
        go_ret2
        exact ⟨ret_sb (bytes_cat3 (by rw [E1.out EO2.out]; exact EL.out)) EO2.out.symm, B4.out⟩
  · have EO2 : Hid (OKM = false) := by show _ = _; rw [← EO.out, show decide (1 ≤ k ∧ k ≤ 8) = false from decide_eq_false hk, Bool.false_and, Bool.and_false]
    clear FD TE TQ EL EO CL
    by_cases k1 : k < 1
    · go_enter Tryd.func13, Tryd.ntmps13
      go_wp2_with fail
      go_ret2
      exact ⟨ret_sb (E0.out EO2.out) EO2.out.symm, WA.out⟩
    · have k2 : (9 : Int) ≤ k := by omega
      go_enter Tryd.func13, Tryd.ntmps13
      go_wp2_with fail
      go_ret2
      exact ⟨ret_sb (E0.out EO2.out) EO2.out.symm, WA.out⟩
end Go.Proofs.YtmennknknecgjaaDoor

namespace Go.Proofs.YtmennknknecgjaaDoor
open Go.RowKit LedM StM CalM

namespace StM
/-- A row of texts. -/
def txL (ts : List (List UInt8)) : List Value := ts.map fun t => .string ⟨t.toArray⟩
theorem txL_len (ts : List (List UInt8)) : (txL ts).length = ts.length := by simp [txL]
theorem txL_push (ts : List (List UInt8)) (t : List UInt8) : txL (ts ++ [t]) = txL ts ++ [.string ⟨t.toArray⟩] := by simp [txL]
def opnB : List UInt8 := [79, 80, 69, 78, 73, 78, 71]
def clsB : List UInt8 := [67, 76, 79, 83, 73, 78, 71]
def frmL (D : Int → List UInt8) (a b : Int) : List UInt8 := [70, 82, 79, 77, 32] ++ (D a ++ ([32, 84, 79, 32] ++ D b))
/-- The statement of account can be told; what it is. -/
def lnsOk (ms : List (List Int)) (a b : Int) : Bool := (dayOk a && dayOk b && decide (a ≤ b)) && (stdOk ms (a - 1) && stdOk ms b) && (win ms a b).all lineOk
def lnsL (D : Int → List UInt8) (ms : List (List Int)) (a b : Int) : List (List UInt8) := [frmL D a b, stdL opnB ms (a - 1)] ++ (win ms a b).map (lineL D) ++ [stdL clsB ms b]
theorem lns_no1 {ms : List (List Int)} {a b : Int} (h : (dayOk a && dayOk b && decide (a ≤ b)) = false) : lnsOk ms a b = false := by unfold lnsOk; rw [h]; rfl
theorem lns_no2 {ms : List (List Int)} {a b : Int} (h : (stdOk ms (a - 1) && stdOk ms b) = false) : lnsOk ms a b = false := by unfold lnsOk; rw [h, Bool.and_false]; rfl
theorem lns_no3 {ms : List (List Int)} {a b : Int} {m : List Int} (hm : m ∈ win ms a b) (h : lineOk m = false) : lnsOk ms a b = false := by
  unfold lnsOk
  have : (win ms a b).all lineOk = false := by
    rw [List.all_eq_false]
    exact ⟨m, hm, by rw [h]; exact Bool.false_ne_true⟩
  rw [this, Bool.and_false]
theorem lns_yes {ms : List (List Int)} {a b : Int} (h1 : (dayOk a && dayOk b && decide (a ≤ b)) = true) (h2 : (stdOk ms (a - 1) && stdOk ms b) = true) (h3 : ∀ m ∈ win ms a b, lineOk m = true) : lnsOk ms a b = true := by
  unfold lnsOk
  rw [h1, h2, List.all_eq_true.2 h3]; rfl
theorem win_day {ms : List (List Int)} {a b : Int} {m : List Int} (h1 : (dayOk a && dayOk b && decide (a ≤ b)) = true) (hm : m ∈ win ms a b) : dayOk (m.getD 0 0) = true := by
  have := (List.mem_filter.1 hm).2
  simp only [Bool.and_eq_true, decide_eq_true_eq, dayOk] at this h1 ⊢
  omega
theorem mv_line {D : Int → List UInt8} {m : List Int} (h : dayOk (m.getD 0 0) = true) : mvOk m = lineOk m ∧ (lineOk m = true → mvL D m = lineL D m) := by
  have e : mvOk m = lineOk m := by unfold mvOk; rw [h, Bool.true_and]
  exact ⟨e, fun hl => by unfold mvL; rw [e, hl]; rfl⟩
end StM
/-- What Lines answers. -/
def LnsAns (D : Int → List UInt8) (ms : List (List Int)) (a b : Int) (w : World) (e : Ending) (w' : World) : Prop := ∃ v, e = .returned (.tuple #[v, .bool (lnsOk ms a b)]) ∧ RowV 9 w.heap.size w' v (txL (if lnsOk ms a b then lnsL D ms a b else [])) ∧ Below w.heap.size w w'
theorem lns_nil {D : Int → List UInt8} {ms : List (List Int)} {a b : Int} {w w' : World} (h : lnsOk ms a b = false) (hb : Below w.heap.size w w') : LnsAns D ms a b w (.returned (.tuple #[.slice none 0 0, .bool false])) w' := by
  refine ⟨_, by rw [h], ?_, hb⟩
  rw [h]
  exact RowV.nil _ _ _
theorem RowV.of_blkS {e : TypeId} {base g : Nat} {w : World} {cs : List Value} (h : Blk g e cs w) (hb : base ≤ g) (hl : cs.length ≤ maxLen) : RowV e base w (.slice (some ⟨g, 0, none⟩) cs.length cs.length) cs :=
  ⟨by omega, .inr ⟨g, cs.length, cs.toArray, rfl, hb, h, Nat.le_refl _, hl, by simp, by simp⟩⟩
theorem RowV.keptS {e : TypeId} {base : Nat} {w w' : World} {v : Value} {row : Option Nat} {vs : List Value} (h : RowV e base w v vs) (hb : w.grownBy w' row) (hn : ∀ g, v.ownBlock = some g → row ≠ some g) : RowV e base w' v vs := by
  refine World.ownsRow.kept h hb ?_
  cases hv : v.ownBlock with
  | none => exact .inl rfl
  | some g => exact .inr fun e => hn g hv e.symm
theorem RowV.laterS {e : TypeId} {base : Nat} {w w' : World} {v : Value} {vs : List Value} (h : RowV e base w v vs) (hb : Below w.heap.size w w') : RowV e base w' v vs := by
  refine World.ownsRow.kept h (row := none) ⟨hb.os, hb.tape, hb.output, hb.size, fun k hk _ => hb.block k hk⟩ ?_
  cases hv : v.ownBlock <;> simp
/-- A row of texts while the movements are gone through: the texts' row, the movements' one, which is another. -/
def LnW (w : World) (Q : Nat) (vi v : Value) (ms : List (List Int)) (ts : List (List UInt8)) (wr : World) : Prop :=
  RowV 9 Q wr v (txL ts) ∧ RdMo wr vi ms ∧ (∀ g, vi.ownBlock = some g → v.ownBlock ≠ some g) ∧ Below Q w wr ∧ Q ≤ wr.heap.size
theorem LnW.later {w wr w2 : World} {Q : Nat} {vi v : Value} {ms : List (List Int)} {ts : List (List UInt8)} (h : LnW w Q vi v ms ts wr) (b : Below wr.heap.size wr w2) : LnW w Q vi v ms ts w2 :=
  ⟨h.1.laterS b, h.2.1.later b, h.2.2.1, h.2.2.2.1.trans (b.mono h.2.2.2.2), Nat.le_trans h.2.2.2.2 b.size⟩
theorem LnW.stored {w wr w2 : World} {Q : Nat} {vi v : Value} {ms : List (List Int)} {ts : List (List UInt8)} {o : Obj} (h : LnW w Q vi v ms ts wr) (g : (wr.alloc o).grownBy w2 (some wr.heap.size)) : LnW w Q vi v ms ts w2 := by
  have b : Below wr.heap.size wr w2 := ((Below.refl _ _).alloc (Nat.le_refl _) o).grown g (by simp) (fun q e => by cases e; exact Nat.le_refl _)
  exact h.later b
theorem LnW.push {w wr w2 : World} {Q : Nat} {vi v v2 : Value} {ms : List (List Int)} {ts : List (List UInt8)} {t : List UInt8} (h : LnW w Q vi v ms ts wr) (hv : ∀ g, vi.ownBlock = some g → g < wr.heap.size) (r : RowV 9 Q w2 v2 (txL ts ++ [.string ⟨t.toArray⟩])) (g : wr.grownBy w2 v.ownBlock) (n : Near wr v v2) : LnW w Q vi v2 ms (ts ++ [t]) w2 := by
  refine ⟨by rw [txL_push]; exact r, h.2.1.grown g (fun q hq => h.2.2.1 q hq), fun q hq e => ?_, h.2.2.2.1.grown g h.2.2.2.2 (fun q hq => (World.ownsRow.lt h.1 q hq).1), Nat.le_trans h.2.2.2.2 g.size⟩
  rcases n q e with h1 | h1
  · exact h.2.2.1 q hq h1
  · have := hv q hq; omega
theorem infoS16 : (Tryd.prog.info? 9).map (fun i => (i.zero, i.size, i.bytes)) = some (some (.string ⟨#[]⟩), 1, 16) := by kernel_rfl
set_option maxRecDepth 20000 in
set_option maxHeartbeats 4000000 in
theorem lines_at (D : Int → List UInt8) (HD : DayAt D) (ms : List (List Int)) (a b : Int) (ha0 : -9223372036854775808 ≤ a) (ha1 : a ≤ 9223372036854775807) (v : Value) (w : World) (h : RdMo w v ms) (ok : ∀ m ∈ ms, MoOk m) (hn : ms.length ≤ 1000000) (hT : TabS w) : Calls Tryd.prog 8 #[v, .int .i64 a, .int .i64 b] w (LnsAns D ms a b w) := by
  obtain ⟨i0, hi, hz0, hz1, hz2⟩ := info_parts infoS16
  have FD : Hid (∀ d w', Below w.heap.size w w' → Calls Tryd.prog 11 #[.int .i64 d] w' fun e w2 => e = .returned (.tuple #[.string ⟨(D d).toArray⟩, .bool (dayOk d)]) ∧ Below w'.heap.size w' w2) := fun d w' hb => (HD d).2.1 w' (hT.later hb)
  have BO : Hid (∀ w', Below w.heap.size w w' → Calls Tryd.prog 12 #[.string ⟨#[79, 80, 69, 78, 73, 78, 71]⟩, v, .int .i64 (a - 1)] w' (StdAns opnB ms (a - 1) w')) := fun w' hb => balanceLine_at opnB (by decide) ms (a - 1) v w' (h.later hb) ok hn (hT.later hb)
  have BC : Hid (∀ w', Below w.heap.size w w' → Calls Tryd.prog 12 #[.string ⟨#[67, 76, 79, 83, 73, 78, 71]⟩, v, .int .i64 b] w' (StdAns clsB ms b w')) := fun w' hb => balanceLine_at clsB (by decide) ms b v w' (h.later hb) ok hn (hT.later hb)
  have WI : Hid (∀ w', Below w.heap.size w w' → Calls Tryd.prog 6 #[v, .int .i64 a, .int .i64 b] w' (WinAns ms a b w')) := fun w' hb => within_at ms a b v w' (h.later hb) ok hn
  have ML : Hid (∀ m w', MoOk m → Below w.heap.size w w' → Calls Tryd.prog 13 #[.agg (bkL m).toArray] w' (MvAns D m w')) := fun m w' hm hb => moveLine_at D HD m hm w' (hT.later hb)
  have la := (HD a).1
  have lb := (HD b).1
  have OKW : Hid (∀ m ∈ win ms a b, MoOk m) := fun m hm => ok m (List.mem_filter.1 hm).1
  have WN : Hid ((win ms a b).length ≤ 1000000) := Nat.le_trans (win_le _ _ _) hn
  clear h ok hT HD hn
  cases h1 : (dayOk a && dayOk b && decide (a ≤ b)) with
  | false =>
    have NO : Hid (lnsOk ms a b = false) := lns_no1 h1
    clear BO BC WI ML OKW WN
    go_enter Tryd.func8, Tryd.ntmps8
    go_wp2_with fail
    refine (FD.out a w (Below.refl _ _)).mono ?_
    rintro e w1 ⟨rfl, b1⟩
    have B1 : Hid (Below w.heap.size w w1) := b1
    clear b1
    go_wp2_with fail
    refine (FD.out b w1 B1.out).mono ?_
    rintro e w2 ⟨rfl, b2⟩
    have B2 : Hid (Below w.heap.size w w2) := below_trans B1.out b2
    clear b2 B1 FD
    cases hda : dayOk a with
    | false =>
      clear h1
      generalize dayOk b = db at *
      go_wp2_with fail
      go_ret2
      exact lns_nil NO.out B2.out
    | true =>
      cases hdb : dayOk b with
      | false =>
        clear h1
        go_wp2_with fail
        go_ret2
        exact lns_nil NO.out B2.out
      | true =>
        rw [hda, hdb] at h1
        have hab : ¬ a ≤ b := by simpa using h1
        have hgt : b < a := by omega
        clear h1 hda hdb
        go_wp2_with fail
        go_ret2
        exact lns_nil NO.out B2.out
  | true =>
    have H1 : Hid ((dayOk a && dayOk b && decide (a ≤ b)) = true) := h1
    have hda : dayOk a = true := by cases hx : dayOk a <;> simp_all
    have hdb : dayOk b = true := by cases hx : dayOk b <;> simp_all
    have hab : a ≤ b := by rw [hda, hdb] at h1; simpa using h1
    have a1 : 1 ≤ a := by simp [dayOk] at hda; omega
    clear h1
    go_enter Tryd.func8, Tryd.ntmps8
    go_wp2_with fail
    refine (FD.out a w (Below.refl _ _)).mono ?_
    rintro e w1 ⟨rfl, b1⟩
    have B1 : Hid (Below w.heap.size w w1) := b1
    clear b1
    go_wp2_with fail
    refine (FD.out b w1 B1.out).mono ?_
    rintro e w2 ⟨rfl, b2⟩
    have B2 : Hid (Below w.heap.size w w2) := below_trans B1.out b2
    clear b2 B1 FD
    try rw [hda]
    try rw [hdb]
    clear hda hdb
    generalize hDa : D a = Da at *
    generalize hDb : D b = Db at *
    have FR : Hid (([70, 82, 79, 77, 32] : List UInt8) ++ (Da ++ ([32, 84, 79, 32] ++ Db)) = frmL D a b) := by show _ = _; rw [← hDa, ← hDb]; rfl
    clear hDa hDb
    go_wp2_with fail
    refine (BO.out w2 B2.out).mono ?_
    rintro e w3 ⟨t3, tl3, te3, rfl, b3⟩
    have B3 : Hid (Below w.heap.size w w3) := below_trans B2.out b3
    have TE3 : Hid (stdOk ms (a - 1) = true → t3 = stdL opnB ms (a - 1)) := te3
    clear te3 b3 B2 BO
    go_wp2_with fail
    refine (BC.out w3 B3.out).mono ?_
    rintro e w4 ⟨t4, tl4, te4, rfl, b4⟩
    have B4 : Hid (Below w.heap.size w w4) := below_trans B3.out b4
    have TE4 : Hid (stdOk ms b = true → t4 = stdL clsB ms b) := te4
    clear te4 b4 B3 BC
    cases h2 : (stdOk ms (a - 1) && stdOk ms b) with
    | false =>
      have NO : Hid (lnsOk ms a b = false) := lns_no2 h2
      clear WI ML TE3 TE4 FR
      cases h3 : stdOk ms (a - 1) with
      | false =>
        clear h2
        generalize stdOk ms b = db at *
        go_wp2_with fail
        go_ret2
        exact lns_nil NO.out B4.out
      | true =>
        rw [h3, Bool.true_and] at h2
        rw [h2]
        clear h2 h3
        go_wp2_with fail
        go_ret2
        exact lns_nil NO.out B4.out
    | true =>
      have H2 : Hid ((stdOk ms (a - 1) && stdOk ms b) = true) := h2
      have h3 : stdOk ms (a - 1) = true := by cases hx : stdOk ms (a - 1) <;> simp_all
      have h4 : stdOk ms b = true := by cases hx : stdOk ms b <;> simp_all
      try rw [h3]
      try rw [h4]
      have t3e : Hid (t3 = stdL opnB ms (a - 1)) := TE3.out h3
      have t4e : Hid (t4 = stdL clsB ms b) := TE4.out h4
      clear h2 h3 h4 TE3 TE4
      go_upto_region 10 with fail
      have FRE : (({ data := #[70, 82, 79, 77, 32] } : ByteArray) ++ { data := Da.toArray } ++ { data := #[32, 84, 79, 32] } ++ { data := Db.toArray }) = ⟨(frmL D a b).toArray⟩ := by
        rw [← FR.out]
        apply ByteArray.ext
        simp [ByteArray.data_append]
      rw [FRE]
      clear FRE
      obtain ⟨F, hF⟩ : ∃ F, frmL D a b = F := ⟨_, rfl⟩
      have FRX : Hid (frmL D a b = F) := hF
      rw [hF]
      clear hF
      obtain ⟨W0, hW0⟩ : ∃ W0, w4.alloc (.cells #[.string ⟨F.toArray⟩, .string ⟨t3.toArray⟩] 9) = W0 := ⟨_, rfl⟩
      obtain ⟨g4, hg4⟩ : ∃ g4, w4.heap.size = g4 := ⟨_, rfl⟩
      have S0 : Hid (RowV 9 w.heap.size W0 (.slice (some ⟨g4, 0, none⟩) 2 2) (txL [F, t3]) ∧ Below w.heap.size w W0 ∧ g4 < W0.heap.size) := by
        subst hW0 hg4
        exact ⟨RowV.of_blkS (cs := txL [F, t3]) (Blk.new _ (txL [F, t3]) w4) B4.out.size (by rw [txL_len]; unfold maxLen; simp), B4.out.alloc B4.out.size _, by simp⟩
      rw [hW0, hg4]
      clear hW0 hg4 B4
      have WC : Hid (Calls _ _ _ _ _) := WI.out W0 S0.out.2.1
      clear WI
      go_wp2_with fail
      refine WC.out.mono ?_
      rintro e w5 ⟨vi, rfl, r5, b5⟩
      have TW : T14 (win ms a b) := fun m hm => (OKW.out m hm).1
      obtain ⟨ai, ci, e8, hci, hni⟩ := (r5.rd TW).len
      subst e8
      have LW : Hid (LnW w w.heap.size (.slice ai (win ms a b).length ci) (.slice (some ⟨g4, 0, none⟩) 2 2) (win ms a b) [F, t3] w5) := ⟨S0.out.1.laterS b5, r5.rd TW, fun g hg e => by
        have h1 := r5.ge hg
        injection e with e
        have e : g4 = g := e
        have := S0.out.2.2
        omega, below_trans S0.out.2.1 b5, Nat.le_trans S0.out.2.1.size b5.size⟩
      have VB : Hid (∀ g, (Value.slice ai (win ms a b).length ci).ownBlock = some g → g < w5.heap.size) := fun g hg => r5.lt hg
      have DY : Hid (∀ m ∈ win ms a b, dayOk (m.getD 0 0) = true) := fun m hm => win_day H1.out hm
      have NO : Hid (∀ m ∈ win ms a b, lineOk m = false → lnsOk ms a b = false) := fun m hm hl => lns_no3 hm hl
      have YES : Hid ((∀ m ∈ win ms a b, lineOk m = true) → lnsOk ms a b = true) := fun hh => lns_yes H1.out H2.out hh
      have LE : Hid (lnsL D ms a b = [F, t3] ++ (win ms a b).map (lineL D) ++ [t4]) := by show _ = _; rw [t3e.out, t4e.out]; unfold lnsL; rw [FRX.out]
      clear WC b5 r5 TW S0 H1 H2 t3e t4e FR FRX
      generalize win ms a b = WW at *
      obtain ⟨N, hN⟩ : ∃ N, WW.length = N := ⟨_, rfl⟩
      have HN : Hid (WW.length = N) := hN
      rw [hN] at hci LW VB WN ⊢
      clear hN
      have wn := WN.out
      have W5 : Hid (w5.heap.size ≤ w5.heap.size) := Nat.le_refl _
      go_upto_region 11 with fail
      go_loopw [16, 18, 19, 20, 73] (fun vl _ _ _ vk wr => ∃ k : Nat, vk = .int .i64 (k : Int) ∧ k ≤ N ∧ Hid (LnW w w.heap.size (.slice ai N ci) vl WW ([F, t3] ++ (WW.take k).map (lineL D)) wr) ∧ w5.heap.size ≤ wr.heap.size ∧ Hid (∀ m ∈ WW.take k, lineOk m = true)) (fun _ _ _ _ vk _ => N - (intOf vk).toNat)
      case atStart => exact ⟨0, rfl, by omega, by rw [List.take_zero, List.map_nil, List.append_nil]; exact LW, Nat.le_refl _, fun m hm => by simp at hm⟩
      case round =>
        clear LW
        obtain ⟨k, rfl, hk, LK, hsz, OKK⟩ := hrel
        by_cases hlt : (k : Int) < (N : Int)
        · obtain ⟨m, hm⟩ : ∃ m, WW[k]? = some m := ⟨_, List.getElem?_eq_getElem (by rw [HN.out]; omega)⟩
          have hmem : m ∈ WW := List.mem_of_getElem? hm
          have mok := OKW.out m hmem
          obtain ⟨g, o, rfl, rg⟩ : ∃ g o, ai = some ⟨g, o, none⟩ ∧ wr.rangeAt g (o + k * 14) (bkL m) := by
            obtain ⟨ao', cap', e, _, _, H⟩ := LK.out.2.1
            injection e with e1 e2 e3
            subst e1
            obtain ⟨g, o, e, _, r⟩ := H k m hm
            exact ⟨g, o, e, r⟩
          have RG : Hid (wr.rangeAt g (o + k * 14) (bkL m)) := rg
          have IM : Hid ((Tryd.prog.info? 29).map (·.size) = some (bkL m).length) := infoMl mok.1
          have ML1 : Hid (m.length = 14) := mok.1
          have MC : Hid (∀ w', Below w.heap.size w w' → Calls Tryd.prog 13 #[.agg (bkL m).toArray] w' (MvAns D m w')) := fun w' hb => ML.out m w' mok hb
          have mv := mv_line (D := D) (DY.out m hmem)
          have NOM : Hid (lineOk m = false → lnsOk ms a b = false) := NO.out m hmem
          have ST : Hid (∀ w2, (wr.alloc z14o).grownBy w2 (some wr.heap.size) → LnW w w.heap.size (.slice (some ⟨g, o, none⟩) N ci) u16 WW ([F, t3] ++ (WW.take k).map (lineL D)) w2) := fun w2 hg => LK.out.stored hg
          have TS : Hid ([F, t3] ++ (WW.take (k + 1)).map (lineL D) = ([F, t3] ++ (WW.take k).map (lineL D)) ++ [lineL D m]) := by show _ = _; rw [take_push hm]; simp
          have TLn : Hid ((txL ([F, t3] ++ (WW.take k).map (lineL D))).length ≤ k + 2) := by show _ ≤ _; rw [txL_len]; simp; omega
          have OK1 : Hid (lineOk m = true → ∀ m' ∈ WW.take (k + 1), lineOk m' = true) := fun hl m' hm' => by
            rw [take_push hm] at hm'
            rcases List.mem_append.1 hm' with h' | h'
            · exact OKK.out m' h'
            · rw [List.mem_singleton.1 h']; exact hl
          have LM : Hid (lineOk m = true → mvL D m = lineL D m) := mv.2
          have EM : Hid (mvOk m = lineOk m) := mv.1
          unfold MvAns at MC
          rw [mv.1] at MC
          clear rg hm hmem mok mv DY NO YES OKW ML OKK LE HN
          go_upto_region 13 with (first
            | (refine step_load rfl 29 _ rfl g (o + k * 14) rfl (bkL m) _ RG.out Tryd.underlying29 rfl IM.out ?_)
            | (refine step_store rfl 29 _ _ rfl wr.heap.size 0 29 (bkL (List.replicate 14 0)) (bkL m) rfl rfl (Blk.new _ (bkL (List.replicate 14 0)) wr) (by rw [bkL_len, ML1.out]; exact Nat.le_refl _) IM.out (bkL_one _) ?_; intro w2 nb2 g2; rw [store_all (by rw [bkL_len, ML1.out]; rfl)] at nb2))
          have L2 : Hid (LnW w w.heap.size (.slice (some ⟨g, o, none⟩) N ci) u16 WW ([F, t3] ++ (WW.take k).map (lineL D)) w2) := ST.out w2 g2
          have sz2 : w5.heap.size ≤ w2.heap.size := by have := g2.size; simp at this; omega
          have NB : Hid (Blk wr.heap.size 29 (bkL m) w2) := nb2
          have MC2 : Hid (Calls _ _ _ _ _) := MC.out w2 L2.out.2.2.2.1
          clear nb2 g2 ST RG LK MC
          generalize wr.heap.size = GM at *
          cases hlo : lineOk m with
          | false =>
            rw [hlo] at MC2
            have NOF : Hid (lnsOk ms a b = false) := NOM.out hlo
            clear OK1 LM TS
            generalize mvL D m = TX at *
            go_wp2_with (refine step_load rfl 29 _ rfl GM 0 rfl (bkL m) _ NB.out.all Tryd.underlying29 rfl IM.out ?_)
            refine MC2.out.mono ?_
            rintro e w3 ⟨rfl, b3⟩
            have B3 : Hid (Below w.heap.size w w3) := (L2.out.later b3).2.2.2.1
            clear MC2 b3 L2 NB
            go_wp2_with fail
            go_ret2
            exact lns_nil NOF.out B3.out
          | true =>
            rw [hlo] at MC2
            have OK2 : Hid (∀ m' ∈ WW.take (k + 1), lineOk m' = true) := OK1.out hlo
            rw [LM.out hlo] at MC2
            clear OK1 LM NOM EM hlo
            generalize lineL D m = TX at *
            generalize [F, t3] ++ (WW.take k).map (lineL D) = TK at *
            go_wp2_with (refine step_load rfl 29 _ rfl GM 0 rfl (bkL m) _ NB.out.all Tryd.underlying29 rfl IM.out ?_)
            refine MC2.out.mono ?_
            rintro e w3 ⟨rfl, b3⟩
            have L3 : Hid (LnW w w.heap.size (.slice (some ⟨g, o, none⟩) N ci) u16 WW TK w3) := L2.out.later b3
            have sz3 : w5.heap.size ≤ w3.heap.size := Nat.le_trans sz2 b3.size
            have VB3 : Hid (∀ q, (Value.slice (some ⟨g, o, none⟩) N ci).ownBlock = some q → q < w3.heap.size) := fun q hq => Nat.lt_of_lt_of_le (VB.out q hq) sz3
            have tl := TLn.out
            have l1 : Hid ((txL TK).length + 1 ≤ maxLen) := by show _ ≤ _; unfold maxLen; omega
            have l2 : Hid (((txL TK).length + 1) * 16 ≤ 140737488355328) := by show _ ≤ _; omega
            clear MC2 b3 L2 NB tl
            go_wp2_with (at_builtin; refine wpList_pushN rfl (.tmp 84) (.tmp 86) 31 rfl 9 i0 (.string ⟨#[]⟩) 16 Tryd.underlying31 hi hz0 hz1 hz2 rfl w.heap.size u16 (txL TK) (.string ⟨TX.toArray⟩) rfl rfl L3.out.1 L3.out.2.2.2.2 rfl l1.out l2.out ?_; intro v7 w7 r7 g7 n7)
            have L7 : Hid (LnW w w.heap.size (.slice (some ⟨g, o, none⟩) N ci) v7 WW (TK ++ [TX]) w7) := L3.out.push VB3.out r7 g7 n7
            have sz7 : w5.heap.size ≤ w7.heap.size := Nat.le_trans sz3 g7.size
            clear L3 r7 g7 n7
            go_roundw
            case rel => exact ⟨k + 1, by go_num, by omega, by rw [TS.out]; exact L7, sz7, OK2⟩
            case measure => simp [intOf]; omega
        · obtain rfl : k = N := by omega
          have tk : WW.take k = WW := List.take_of_length_le (by rw [HN.out]; exact Nat.le_refl _)
          rw [tk] at LK OKK
          have OKE : Hid (lnsOk ms a b = true) := YES.out OKK.out
          have LEN : Hid ((txL ([F, t3] ++ WW.map (lineL D))).length = k + 2) := by show _ = _; rw [txL_len]; simp; exact HN.out
          have l1 : Hid ((txL ([F, t3] ++ WW.map (lineL D))).length + 1 ≤ maxLen) := by show _ ≤ _; rw [LEN.out]; unfold maxLen; omega
          have l2 : Hid (((txL ([F, t3] ++ WW.map (lineL D))).length + 1) * 16 ≤ 140737488355328) := by show _ ≤ _; rw [LEN.out]; omega
          have LE2 : Hid (txL ([F, t3] ++ WW.map (lineL D)) ++ [.string ⟨t4.toArray⟩] = txL (lnsL D ms a b)) := by show _ = _; rw [LE.out, txL_push]
          clear DY NO YES OKW ML OKK LE HN tk LEN
          generalize [F, t3] ++ WW.map (lineL D) = TK at *
          go_wp2_with (at_builtin; refine wpList_pushN rfl (.tmp 89) (.tmp 91) 31 rfl 9 i0 (.string ⟨#[]⟩) 16 Tryd.underlying31 hi hz0 hz1 hz2 rfl w.heap.size u16 (txL TK) (.string ⟨t4.toArray⟩) rfl rfl LK.out.1 LK.out.2.2.2.2 rfl l1.out l2.out ?_; intro v7 w7 r7 g7 _)
          have B7 : Hid (Below w.heap.size w w7) := LK.out.2.2.2.1.grown g7 LK.out.2.2.2.2 (fun q hq => (World.ownsRow.lt LK.out.1 q hq).1)
          rw [LE2.out] at r7
          clear g7 LK
          go_ret2
          exact ⟨_, by rw [OKE.out]; rfl, by rw [OKE.out, if_pos rfl]; exact r7, B7.out⟩
end Go.Proofs.YtmennknknecgjaaDoor

namespace Go.Proofs.YtmennknknecgjaaDoor
open Go.RowKit LedM StM CalM

theorem range_dropS {w : World} {g o : Nat} {m : List Int} (h : w.rangeAt g o (bkL m)) (k : Nat) : w.rangeAt g (o + k) (bkL (m.drop k)) := fun j v hj => by
  have e : (bkL m)[k + j]? = some v := by
    rw [← drop_bkL, List.getElem?_drop] at hj
    exact hj
  have := h (k + j) v e
  rwa [← Nat.add_assoc] at this
theorem mo_bk {m : List Int} (hm : MoOk m) : BkOk (m.drop 2) := ⟨by rw [List.length_drop, hm.1], fun k => by
  have := hm.2 (2 + k)
  rwa [List.getD_eq_getElem?_getD, ← List.getElem?_drop, ← List.getD_eq_getElem?_getD] at this⟩
theorem word_emp {k : Int} (h : ¬ (1 ≤ k ∧ k ≤ 8)) : wordL k = [] := by
  unfold wordL
  repeat (rw [if_neg (by omega)])
theorem word_non {k : Int} (h : 1 ≤ k ∧ k ≤ 8) : wordL k ≠ [] := by
  have hk : k = 1 ∨ k = 2 ∨ k = 3 ∨ k = 4 ∨ k = 5 ∨ k = 6 ∨ k = 7 ∨ k = 8 := by omega
  rcases hk with rfl | rfl | rfl | rfl | rfl | rfl | rfl | rfl <;> decide
set_option maxRecDepth 20000 in
set_option maxHeartbeats 4000000 in
theorem rlines_at (D : Int → List UInt8) (HD : DayAt D) (ms : List (List Int)) (a b : Int) (ha0 : -9223372036854775808 ≤ a) (ha1 : a ≤ 9223372036854775807) (v : Value) (w : World) (h : RdMo w v ms) (ok : ∀ m ∈ ms, MoOk m) (hn : ms.length ≤ 1000000) (hT : TabS w) : Calls Tryd.prog 10 #[v, .int .i64 a, .int .i64 b] w (LnsAns D ms a b w) := by
  obtain ⟨i0, hi, hz0, hz1, hz2⟩ := info_parts infoS16
  have FD : Hid (∀ d w', Below w.heap.size w w' → Calls Tryd.prog 14 #[.int .i64 d] w' fun e w2 => e = .returned (.tuple #[.string ⟨(D d).toArray⟩, .bool (dayOk d)]) ∧ Below w'.heap.size w' w2) := fun d w' hb => (HD d).2.2 w' (hT.later hb)
  have BO : Hid (∀ w', Below w.heap.size w w' → Calls Tryd.prog 15 #[.string ⟨#[79, 80, 69, 78, 73, 78, 71]⟩, v, .int .i64 (a - 1)] w' (StdAns opnB ms (a - 1) w')) := fun w' hb => rstanding_at opnB (by decide) ms (a - 1) v w' (h.later hb) ok hn (hT.later hb)
  have BC : Hid (∀ w', Below w.heap.size w w' → Calls Tryd.prog 15 #[.string ⟨#[67, 76, 79, 83, 73, 78, 71]⟩, v, .int .i64 b] w' (StdAns clsB ms b w')) := fun w' hb => rstanding_at clsB (by decide) ms b v w' (h.later hb) ok hn (hT.later hb)
  have WI : Hid (∀ w', Below w.heap.size w w' → Calls Tryd.prog 16 #[v, .int .i64 a, .int .i64 b] w' (WinAns ms a b w')) := fun w' hb => rwithin_at ms a b v w' (h.later hb) ok hn
  have ML : Hid (∀ m w', MoOk m → Below w.heap.size w w' → Calls Tryd.prog 17 #[.agg (bkL (m.drop 2)).toArray, .bool true] w' (TelAns true (m.drop 2) w')) := fun m w' hm hb => rcols_at true _ (mo_bk hm) w' (hT.later hb)
  have DLN : Hid (∀ d, (D d).length ≤ 10) := fun d => (HD d).1
  have FD2 : Hid (∀ d w', Below w.heap.size w w' → Calls Tryd.prog 14 #[.int .i64 d] w' fun e w2 => e = .returned (.tuple #[.string ⟨(D d).toArray⟩, .bool (dayOk d)]) ∧ Below w'.heap.size w' w2) := fun d w' hb => (HD d).2.2 w' (hT.later hb)
  have la := (HD a).1
  have lb := (HD b).1
  have OKW : Hid (∀ m ∈ win ms a b, MoOk m) := fun m hm => ok m (List.mem_filter.1 hm).1
  have WN : Hid ((win ms a b).length ≤ 1000000) := Nat.le_trans (win_le _ _ _) hn
  clear h ok hT HD hn
  cases h1 : (dayOk a && dayOk b && decide (a ≤ b)) with
  | false =>
    have NO : Hid (lnsOk ms a b = false) := lns_no1 h1
    clear BO BC WI ML OKW WN FD2 DLN
    go_enter Tryd.func10, Tryd.ntmps10
    go_wp2_with fail
    refine (FD.out a w (Below.refl _ _)).mono ?_
    rintro e w1 ⟨rfl, b1⟩
    have B1 : Hid (Below w.heap.size w w1) := b1
    clear b1
    go_wp2_with fail
    refine (FD.out b w1 B1.out).mono ?_
    rintro e w2 ⟨rfl, b2⟩
    have B2 : Hid (Below w.heap.size w w2) := below_trans B1.out b2
    clear b2 B1 FD
    cases hda : dayOk a with
    | false =>
      clear h1
      generalize dayOk b = db at *
      go_wp2_with fail
      go_ret2
      exact lns_nil NO.out B2.out
    | true =>
      cases hdb : dayOk b with
      | false =>
        clear h1
        go_wp2_with fail
        go_ret2
        exact lns_nil NO.out B2.out
      | true =>
        rw [hda, hdb] at h1
        have hab : ¬ a ≤ b := by simpa using h1
        have hgt : b < a := by omega
        clear h1 hda hdb
        go_wp2_with fail
        go_ret2
        exact lns_nil NO.out B2.out
  | true =>
    have H1 : Hid ((dayOk a && dayOk b && decide (a ≤ b)) = true) := h1
    have hda : dayOk a = true := by cases hx : dayOk a <;> simp_all
    have hdb : dayOk b = true := by cases hx : dayOk b <;> simp_all
    have hab : a ≤ b := by rw [hda, hdb] at h1; simpa using h1
    have a1 : 1 ≤ a := by simp [dayOk] at hda; omega
    clear h1
    go_enter Tryd.func10, Tryd.ntmps10
    go_wp2_with fail
    refine (FD.out a w (Below.refl _ _)).mono ?_
    rintro e w1 ⟨rfl, b1⟩
    have B1 : Hid (Below w.heap.size w w1) := b1
    clear b1
    go_wp2_with fail
    refine (FD.out b w1 B1.out).mono ?_
    rintro e w2 ⟨rfl, b2⟩
    have B2 : Hid (Below w.heap.size w w2) := below_trans B1.out b2
    clear b2 B1 FD
    try rw [hda]
    try rw [hdb]
    clear hda hdb
    generalize hDa : D a = Da at *
    generalize hDb : D b = Db at *
    have FR : Hid (([70, 82, 79, 77, 32] : List UInt8) ++ (Da ++ ([32, 84, 79, 32] ++ Db)) = frmL D a b) := by show _ = _; rw [← hDa, ← hDb]; rfl
    clear hDa hDb
    go_wp2_with fail
    refine (BO.out w2 B2.out).mono ?_
    rintro e w3 ⟨t3, tl3, te3, rfl, b3⟩
    have B3 : Hid (Below w.heap.size w w3) := below_trans B2.out b3
    have TE3 : Hid (stdOk ms (a - 1) = true → t3 = stdL opnB ms (a - 1)) := te3
    clear te3 b3 B2 BO
    go_wp2_with fail
    refine (BC.out w3 B3.out).mono ?_
    rintro e w4 ⟨t4, tl4, te4, rfl, b4⟩
    have B4 : Hid (Below w.heap.size w w4) := below_trans B3.out b4
    have TE4 : Hid (stdOk ms b = true → t4 = stdL clsB ms b) := te4
    clear te4 b4 B3 BC
    cases h2 : (stdOk ms (a - 1) && stdOk ms b) with
    | false =>
      have NO : Hid (lnsOk ms a b = false) := lns_no2 h2
      clear WI ML TE3 TE4 FR
      cases h3 : stdOk ms (a - 1) with
      | false =>
        clear h2
        generalize stdOk ms b = db at *
        go_wp2_with fail
        go_ret2
        exact lns_nil NO.out B4.out
      | true =>
        rw [h3, Bool.true_and] at h2
        rw [h2]
        clear h2 h3
        go_wp2_with fail
        go_ret2
        exact lns_nil NO.out B4.out
    | true =>
      have H2 : Hid ((stdOk ms (a - 1) && stdOk ms b) = true) := h2
      have h3 : stdOk ms (a - 1) = true := by cases hx : stdOk ms (a - 1) <;> simp_all
      have h4 : stdOk ms b = true := by cases hx : stdOk ms b <;> simp_all
      try rw [h3]
      try rw [h4]
      have t3e : Hid (t3 = stdL opnB ms (a - 1)) := TE3.out h3
      have t4e : Hid (t4 = stdL clsB ms b) := TE4.out h4
      clear h2 h3 h4 TE3 TE4
      have FRE : (({ data := #[70, 82, 79, 77, 32] } : ByteArray) ++ { data := Da.toArray } ++ { data := #[32, 84, 79, 32] } ++ { data := Db.toArray }) = ⟨(frmL D a b).toArray⟩ := by
        rw [← FR.out]
        apply ByteArray.ext
        simp [ByteArray.data_append]
      have FRE : Hid (_ = _) := FRE
      obtain ⟨F, hF⟩ : ∃ F, frmL D a b = F := ⟨_, rfl⟩
      have FRX : Hid (frmL D a b = F) := hF
      rw [hF] at FRE
      clear hF
      have R4 : Hid (RowV 9 w.heap.size w4 (.slice none 0 0) []) := RowV.nil _ _ _
      have la1 : Hid (([] : List Value).length + 1 ≤ maxLen) := by show _ ≤ _; unfold maxLen; simp
      have la2 : Hid ((([] : List Value).length + 1) * 16 ≤ 140737488355328) := by show _ ≤ _; simp
      go_upto_region 11 with (at_builtin; refine wpList_pushN rfl (.tmp 63) (.tmp 69) 31 rfl 9 i0 (.string ⟨#[]⟩) 16 Tryd.underlying31 hi hz0 hz1 hz2 rfl w.heap.size (.slice none 0 0) [] (.string _) rfl rfl R4.out B4.out.size rfl la1.out la2.out ?_; intro v5 x5 r5 g5 _)
      rw [FRX.out] at r5
      have S5 : Hid (RowV 9 w.heap.size x5 v5 (txL [F]) ∧ Below w.heap.size w x5 ∧ w.heap.size ≤ x5.heap.size) := ⟨r5, B4.out.grown g5 B4.out.size (fun q hq => by cases hq), Nat.le_trans B4.out.size g5.size⟩
      have la3 : Hid ((txL [F]).length + 1 ≤ maxLen) := by show _ ≤ _; rw [txL_len]; unfold maxLen; simp
      have la4 : Hid (((txL [F]).length + 1) * 16 ≤ 140737488355328) := by show _ ≤ _; rw [txL_len]; simp
      clear r5 g5 R4 B4 FRE la1 la2
      go_upto_region 12 with (at_builtin; refine wpList_pushN rfl (.tmp 71) (.tmp 73) 31 rfl 9 i0 (.string ⟨#[]⟩) 16 Tryd.underlying31 hi hz0 hz1 hz2 rfl w.heap.size v5 (txL [F]) (.string ⟨t3.toArray⟩) rfl rfl S5.out.1 S5.out.2.2 rfl la3.out la4.out ?_; intro v6 W0 r6 g6 _)
      have S0 : Hid (RowV 9 w.heap.size W0 v6 (txL [F, t3]) ∧ Below w.heap.size w W0) := ⟨r6, S5.out.2.1.grown g6 S5.out.2.2 (fun q hq => (World.ownsRow.lt S5.out.1 q hq).1)⟩
      clear r6 g6 S5 la3 la4
      have WC : Hid (Calls _ _ _ _ _) := WI.out W0 S0.out.2
      clear WI
      go_wp2_with fail
      refine WC.out.mono ?_
      rintro e w5 ⟨vi, rfl, r5, b5⟩
      have TW : T14 (win ms a b) := fun m hm => (OKW.out m hm).1
      obtain ⟨ai, ci, e8, hci, hni⟩ := (r5.rd TW).len
      subst e8
      have LW : Hid (LnW w w.heap.size (.slice ai (win ms a b).length ci) v6 (win ms a b) [F, t3] w5) := ⟨S0.out.1.laterS b5, r5.rd TW, fun g hg e => by
        have h1 := r5.ge hg
        have h2 := (World.ownsRow.lt S0.out.1 g e).2
        omega, below_trans S0.out.2 b5, Nat.le_trans S0.out.2.size b5.size⟩
      have VB : Hid (∀ g, (Value.slice ai (win ms a b).length ci).ownBlock = some g → g < w5.heap.size) := fun g hg => r5.lt hg
      have DY : Hid (∀ m ∈ win ms a b, dayOk (m.getD 0 0) = true) := fun m hm => win_day H1.out hm
      have NO : Hid (∀ m ∈ win ms a b, lineOk m = false → lnsOk ms a b = false) := fun m hm hl => lns_no3 hm hl
      have YES : Hid ((∀ m ∈ win ms a b, lineOk m = true) → lnsOk ms a b = true) := fun hh => lns_yes H1.out H2.out hh
      have LE : Hid (lnsL D ms a b = [F, t3] ++ (win ms a b).map (lineL D) ++ [t4]) := by show _ = _; rw [t3e.out, t4e.out]; unfold lnsL; rw [FRX.out]
      clear WC b5 r5 TW S0 H1 H2 t3e t4e FR FRX
      generalize win ms a b = WW at *
      obtain ⟨N, hN⟩ : ∃ N, WW.length = N := ⟨_, rfl⟩
      have HN : Hid (WW.length = N) := hN
      rw [hN] at hci LW VB WN ⊢
      clear hN
      have wn := WN.out
      have W5 : Hid (w5.heap.size ≤ w5.heap.size) := Nat.le_refl _
      have vn := VB.out
      go_upto_region 14 with fail
      go_loopw [16, 18, 19, 20, 21, 22] (fun vl vk _ _ _ _ wr => ∃ k : Nat, vk = .int .i64 (k : Int) ∧ k ≤ N ∧ Hid (LnW w w.heap.size (.slice ai N ci) vl WW ([F, t3] ++ (WW.take k).map (lineL D)) wr) ∧ w5.heap.size ≤ wr.heap.size ∧ Hid (∀ m ∈ WW.take k, lineOk m = true)) (fun _ vk _ _ _ _ _ => N - (intOf vk).toNat)
      case atStart => exact ⟨0, rfl, by omega, by rw [List.take_zero, List.map_nil, List.append_nil]; exact LW, Nat.le_refl _, fun m hm => by simp at hm⟩
      case round =>
        clear LW vn
        obtain ⟨k, rfl, hk, LK, hsz, OKK⟩ := hrel
        by_cases hlt : (k : Int) < (N : Int)
        · obtain ⟨m, hm⟩ : ∃ m, WW[k]? = some m := ⟨_, List.getElem?_eq_getElem (by rw [HN.out]; omega)⟩
          have hmem : m ∈ WW := List.mem_of_getElem? hm
          have mok := OKW.out m hmem
          obtain ⟨g, o, rfl, rg⟩ : ∃ g o, ai = some ⟨g, o, none⟩ ∧ ∀ w2, Below wr.heap.size wr w2 → w2.rangeAt g (o + k * 14) (bkL m) := by
            obtain ⟨ao', cap', e, _, _, H⟩ := LK.out.2.1
            injection e with e1 e2 e3
            subst e1
            obtain ⟨g, o, e, l, r⟩ := H k m hm
            exact ⟨g, o, e, fun w2 b => range_laterB r l b⟩
          have CD : Hid (∀ w2, Below wr.heap.size wr w2 → w2.cell? ⟨g, o + k * 14, none⟩ = some (.int .i64 (m.getD 0 0)) ∧ w2.cell? ⟨g, o + k * 14 + 1, none⟩ = some (.int .i64 (m.getD 1 0)) ∧ w2.rangeAt g (o + k * 14 + 2) (bkL (m.drop 2))) := fun w2 b => by
            have r := rg w2 b
            have c0 := r 0 _ (bkL_at (by rw [mok.1]; decide))
            have c1 := r 1 _ (bkL_at (by rw [mok.1]; decide))
            exact ⟨by simpa using c0, c1, range_dropS r 2⟩
          have LB : Hid ((m.drop 2).length = 12) := (mo_bk mok).1
          have MC : Hid (∀ w', Below w.heap.size w w' → Calls Tryd.prog 17 #[.agg (bkL (m.drop 2)).toArray, .bool true] w' (TelAns true (m.drop 2) w')) := fun w' hb => ML.out m w' mok hb
          have FC : Hid (∀ w', Below w.heap.size w w' → Calls Tryd.prog 14 #[.int .i64 (m.getD 0 0)] w' fun e w2 => e = .returned (.tuple #[.string ⟨(D (m.getD 0 0)).toArray⟩, .bool true]) ∧ Below w'.heap.size w' w2) := fun w' hb => by
            have := FD2.out (m.getD 0 0) w' hb
            rwa [DY.out m hmem] at this
          have WR : Hid (∀ w', Calls Tryd.prog 18 #[.int .i64 (m.getD 1 0)] w' fun e w2 => e = .returned (.string ⟨(wordL (m.getD 1 0)).toArray⟩) ∧ w2 = w') := fun w' => rword_at _ w'
          have dl := DLN.out (m.getD 0 0)
          have wl := word_len (m.getD 1 0)
          have clx := cols_len true (mo_bk mok)
          have NOM : Hid (lineOk m = false → lnsOk ms a b = false) := NO.out m hmem
          have LO : Hid (lineOk m = (decide (1 ≤ m.getD 1 0 ∧ m.getD 1 0 ≤ 8) && colsOk (m.drop 2))) := rfl
          have LL : Hid (D (m.getD 0 0) ++ 32 :: (wordL (m.getD 1 0) ++ colsL true (m.drop 2)) = lineL D m) := rfl
          have TS : Hid ([F, t3] ++ (WW.take (k + 1)).map (lineL D) = ([F, t3] ++ (WW.take k).map (lineL D)) ++ [lineL D m]) := by show _ = _; rw [take_push hm]; simp
          have TLn : Hid ((txL ([F, t3] ++ (WW.take k).map (lineL D))).length ≤ k + 2) := by show _ ≤ _; rw [txL_len]; simp; omega
          have OK1 : Hid (lineOk m = true → ∀ m' ∈ WW.take (k + 1), lineOk m' = true) := fun hl m' hm' => by
            rw [take_push hm] at hm'
            rcases List.mem_append.1 hm' with h' | h'
            · exact OKK.out m' h'
            · rw [List.mem_singleton.1 h']; exact hl
          unfold TelAns at MC
          clear rg hm hmem mok DY NO YES OKW ML OKK LE HN FD2 DLN
          have WEM : Hid (¬ (1 ≤ m.getD 1 0 ∧ m.getD 1 0 ≤ 8) → wordL (m.getD 1 0) = []) := word_emp
          have WNO : Hid ((1 ≤ m.getD 1 0 ∧ m.getD 1 0 ≤ 8) → wordL (m.getD 1 0) ≠ []) := word_non
          generalize lineL D m = TX at *
          generalize lineOk m = LOK at *
          generalize D (m.getD 0 0) = DD at *
          generalize wordL (m.getD 1 0) = WD at *
          generalize m.getD 0 0 = dy at *
          generalize m.getD 1 0 = kd at *
          generalize m.drop 2 = B at *
          generalize [F, t3] ++ (WW.take k).map (lineL D) = TK at *
          obtain ⟨d0, _, _⟩ := CD.out wr (Below.refl _ _)
          go_wp2_with fail
          refine (FC.out wr LK.out.2.2.2.1).mono ?_
          rintro e w3 ⟨rfl, b3⟩
          have L3 : Hid (LnW w w.heap.size (.slice (some ⟨g, o, none⟩) N ci) u16 WW TK w3 ∧ w5.heap.size ≤ w3.heap.size ∧ Below wr.heap.size wr w3) := ⟨LK.out.later b3, Nat.le_trans hsz b3.size, b3⟩
          have CB3 : Hid (w3.rangeAt g (o + k * 14 + 2) (bkL B)) := (CD.out w3 b3).2.2
          have M3 : Hid (Calls _ _ _ _ _) := MC.out w3 L3.out.1.2.2.2.1
          clear FC b3 LK d0 MC
          go_wp2_with (refine step_load rfl 27 _ rfl g (o + k * 14 + 2) rfl (bkL B) _ CB3.out Tryd.underlying27 rfl (infoBl LB.out) ?_)
          refine M3.out.mono ?_
          rintro e w4 ⟨rfl, b4⟩
          have L4 : Hid (LnW w w.heap.size (.slice (some ⟨g, o, none⟩) N ci) u16 WW TK w4 ∧ w5.heap.size ≤ w4.heap.size) := ⟨L3.out.1.later b4, Nat.le_trans L3.out.2.1 b4.size⟩
          have cd := (CD.out w4 (below_trans L3.out.2.2 b4)).2.1
          clear M3 b4 L3 CB3 CD
          cases hco : colsOk B with
          | false =>
            have NOF : Hid (lnsOk ms a b = false) := NOM.out (by rw [LO.out, hco, Bool.and_false])
            rw [if_neg Bool.false_ne_true]
            clear OK1 TS LL WEM WNO LO NOM hco clx
            go_wp2_with fail
            go_ret2
            exact lns_nil NOF.out L4.out.1.2.2.2.1
          | true =>
            rw [if_pos rfl]
            have cl := clx hco
            rw [hco, Bool.and_true] at LO
            clear hco clx
            generalize colsL true B = CC at *
            by_cases hkd : 1 ≤ kd ∧ kd ≤ 8
            · have lok : LOK = true := by rw [LO.out]; exact decide_eq_true hkd
              have OK2 : Hid (∀ m' ∈ WW.take (k + 1), lineOk m' = true) := OK1.out lok
              have wne : (WD == []) = false := by have := WNO.out hkd; simpa using this
              have vbs : Hid (∀ q, (Value.slice (some ⟨g, o, none⟩) N ci).ownBlock = some q → q < w4.heap.size) := fun q hq => Nat.lt_of_lt_of_le (VB.out q hq) L4.out.2
              have tl := TLn.out
              have l1 : Hid ((txL TK).length + 1 ≤ maxLen) := by show _ ≤ _; unfold maxLen; omega
              have l2 : Hid (((txL TK).length + 1) * 16 ≤ 140737488355328) := by show _ ≤ _; omega
              have LLB : ((({ data := DD.toArray } : ByteArray) ++ { data := #[32] }) ++ { data := WD.toArray } ++ { data := CC.toArray }) = ⟨TX.toArray⟩ := bytes_cat3 LL.out
              have LLB : Hid (_ = _) := LLB
              clear OK1 NOM LO WEM WNO lok hkd tl LL
              go_wp2_with fail
              refine (WR.out w4).mono ?_
              rintro e w5' ⟨rfl, hw⟩
              rw [hw]
              clear hw w5'
              go_wp2_with fail
              refine (WR.out w4).mono ?_
              rintro e w5' ⟨rfl, hw⟩
              rw [hw]
              clear hw w5' WR
              go_wp2_with (at_builtin; refine wpList_pushN rfl (.tmp 114) (.tmp 126) 31 rfl 9 i0 (.string ⟨#[]⟩) 16 Tryd.underlying31 hi hz0 hz1 hz2 rfl w.heap.size u16 (txL TK) (.string _) rfl rfl L4.out.1.1 L4.out.1.2.2.2.2 rfl l1.out l2.out ?_; intro v7 w7 r7 g7 n7)
              have L7 : Hid (LnW w w.heap.size (.slice (some ⟨g, o, none⟩) N ci) v7 WW (TK ++ [TX]) w7) := L4.out.1.push vbs.out r7 g7 n7
              have sz7 : w5.heap.size ≤ w7.heap.size := Nat.le_trans L4.out.2 g7.size
              clear r7 g7 n7 LLB L4
              go_roundw
              case rel => exact ⟨k + 1, by go_num, by omega, by rw [TS.out]; exact L7, sz7, OK2⟩
              case measure => simp [intOf]; omega
            · have NOF : Hid (lnsOk ms a b = false) := NOM.out (by rw [LO.out]; exact decide_eq_false hkd)
              have we := WEM.out hkd
              subst we
              clear OK1 TS LL LO NOM WEM WNO hkd
              go_wp2_with fail
              refine (WR.out w4).mono ?_
              rintro e w5' ⟨rfl, hw⟩
              rw [hw]
              clear hw w5' WR
              go_wp2_with fail
              go_ret2
              exact lns_nil NOF.out L4.out.1.2.2.2.1
        · obtain rfl : k = N := by omega
          have tk : WW.take k = WW := List.take_of_length_le (by rw [HN.out]; exact Nat.le_refl _)
          rw [tk] at LK OKK
          have OKE : Hid (lnsOk ms a b = true) := YES.out OKK.out
          have LEN : Hid ((txL ([F, t3] ++ WW.map (lineL D))).length = k + 2) := by show _ = _; rw [txL_len]; simp; exact HN.out
          have l1 : Hid ((txL ([F, t3] ++ WW.map (lineL D))).length + 1 ≤ maxLen) := by show _ ≤ _; rw [LEN.out]; unfold maxLen; omega
          have l2 : Hid (((txL ([F, t3] ++ WW.map (lineL D))).length + 1) * 16 ≤ 140737488355328) := by show _ ≤ _; rw [LEN.out]; omega
          have LE2 : Hid (txL ([F, t3] ++ WW.map (lineL D)) ++ [.string ⟨t4.toArray⟩] = txL (lnsL D ms a b)) := by show _ = _; rw [LE.out, txL_push]
          clear DY NO YES OKW ML OKK LE HN tk LEN
          generalize [F, t3] ++ WW.map (lineL D) = TK at *
          go_wp2_with (at_builtin; refine wpList_pushN rfl (.tmp 128) (.tmp 130) 31 rfl 9 i0 (.string ⟨#[]⟩) 16 Tryd.underlying31 hi hz0 hz1 hz2 rfl w.heap.size u16 (txL TK) (.string ⟨t4.toArray⟩) rfl rfl LK.out.1 LK.out.2.2.2.2 rfl l1.out l2.out ?_; intro v7 w7 r7 g7 _)
          have B7 : Hid (Below w.heap.size w w7) := LK.out.2.2.2.1.grown g7 LK.out.2.2.2.2 (fun q hq => (World.ownsRow.lt LK.out.1 q hq).1)
          rw [LE2.out] at r7
          clear g7 LK
          go_ret2
          exact ⟨_, by rw [OKE.out]; rfl, by rw [OKE.out, if_pos rfl]; exact r7, B7.out⟩
end Go.Proofs.YtmennknknecgjaaDoor
