/-
  Ours: the walk of MoneyRoundTrip.
-/
import Derived.Test.YtkabfdajpilomacDoorMrtParse
namespace Go.Proofs.YtkabfdajpilomacDoor
open Go.RowKit Go.Sort Go.Lib

def PrOk (l : List UInt8) (p : Int × Bool) : Prop :=
  (p.2 = true → fmtL p.1 = l ∧ -9223372036854775808 ≤ p.1 ∧ p.1 ≤ 9223372036854775807) ∧
  (p.2 = false → p.1 = 0 ∧ ∀ x, -9223372036854775808 ≤ x → x ≤ 9223372036854775807 → fmtL x ≠ l)

theorem par_fmt (x : Int) (h0 : -9223372036854775808 ≤ x) (h1 : x ≤ 9223372036854775807) : parseIntB 64 (unL (fmtL x)) = .ok x := by
  unfold unL
  rw [(fmt_parts x h0 h1).2.2]
  exact par_raw x h0 h1
theorem fmt_inj {x y : Int} (h0 : -9223372036854775808 ≤ x) (h1 : x ≤ 9223372036854775807) (k0 : -9223372036854775808 ≤ y) (k1 : y ≤ 9223372036854775807) (h : fmtL x = fmtL y) : x = y := by
  have a := par_fmt x h0 h1
  rw [h, par_fmt y k0 k1] at a
  injection a with a
  exact a.symm

/-- money.Parse of any text. -/
theorem parse_any (l : List UInt8) (hs : l.length ≤ 9223372036854775807) (w : World) (ht : TabW w) (he : ErrW w) :
    ∃ p : Int × Bool, PrOk l p ∧ Calls Tryd.prog 5 #[.string ⟨l.toArray⟩] w fun e w' => Below w.heap.size w w' ∧ e = .returned (.tuple #[.int .i64 p.1, .bool p.2]) := by
  by_cases hl : 4 ≤ l.length ∧ l.length ≤ 21
  · by_cases hp : ∃ v, parseIntB 64 (unL l) = .ok v
    · obtain ⟨v, hv⟩ := hp
      have vb := Lib.parseIntB_bounds hv
      have v0 : -9223372036854775808 ≤ v := by simpa using vb.1
      have v1 : v ≤ 9223372036854775807 := by have := vb.2; simp at this; omega
      by_cases hf : fmtL v = l
      · exact ⟨(v, true), ⟨fun _ => ⟨hf, v0, v1⟩, (fun e => by cases e)⟩, parse_ok l hl.1 hl.2 v hv true (decide_eq_true hf) w ht he⟩
      · refine ⟨(0, false), ⟨(fun e => by cases e), fun _ => ⟨rfl, fun x h0 h1 e => hf ?_⟩⟩, parse_ok l hl.1 hl.2 v hv false (decide_eq_false hf) w ht he⟩
        subst e
        rw [par_fmt x h0 h1] at hv
        injection hv with hv
        rw [hv]
    · refine ⟨(0, false), ⟨(fun e => by cases e), fun _ => ⟨rfl, fun x h0 h1 e => hp ⟨x, ?_⟩⟩⟩, parse_err l hl.1 hl.2 (fun v h => hp ⟨v, h⟩) w he⟩
      subst e
      exact par_fmt x h0 h1
  · refine ⟨(0, false), ⟨(fun e => by cases e), fun _ => ⟨rfl, fun x h0 h1 e => hl ?_⟩⟩, (parse_long l hl hs w).mono ?_⟩
    · subst e
      exact ⟨(fmt_parts x h0 h1).2.1, (fmt_parts x h0 h1).1⟩
    · rintro e w' ⟨rfl, rfl⟩
      exact ⟨Below.refl _ _, rfl⟩
theorem parse_fmt (x : Int) (h0 : -9223372036854775808 ≤ x) (h1 : x ≤ 9223372036854775807) (w : World) (ht : TabW w) (he : ErrW w) :
    Calls Tryd.prog 5 #[.string ⟨(fmtL x).toArray⟩] w fun e w' => Below w.heap.size w w' ∧ e = .returned (.tuple #[.int .i64 x, .bool true]) :=
  parse_ok (fmtL x) (fmt_parts x h0 h1).2.1 (fmt_parts x h0 h1).1 x (par_fmt x h0 h1) true (decide_eq_true rfl) w ht he

set_option maxHeartbeats 2000000 in
theorem roundtrip_any (x : Int) (h0 : -9223372036854775808 ≤ x) (h1 : x ≤ 9223372036854775807) (l : List UInt8) (hs : l.length ≤ 9223372036854775807) (w : World) (ht : TabW w) (he : ErrW w) :
    Calls Tryd.prog 3 #[.int .i64 x, .string ⟨l.toArray⟩] w fun e w' => Below w.heap.size w w' ∧ e = .returned (.bool true) := by
  have FM : Hid (∀ v w, -9223372036854775808 ≤ v → v ≤ 9223372036854775807 → TabW w → Calls Tryd.prog 6 #[.int .i64 v] w fun e w' => e = .returned (.string ⟨(fmtL v).toArray⟩) ∧ Below w.heap.size w w') := fun v w a b h => format_at v a b w h
  have PF : Hid (∀ w, TabW w → ErrW w → Calls Tryd.prog 5 #[.string ⟨(fmtL x).toArray⟩] w fun e w' => Below w.heap.size w w' ∧ e = .returned (.tuple #[.int .i64 x, .bool true])) := fun w a b => parse_fmt x h0 h1 w a b
  have PL : Hid (∀ w, TabW w → ErrW w → ∃ p : Int × Bool, PrOk l p ∧ Calls Tryd.prog 5 #[.string ⟨l.toArray⟩] w fun e w' => Below w.heap.size w w' ∧ e = .returned (.tuple #[.int .i64 p.1, .bool p.2])) := fun w a b => parse_any l hs w a b
  have QE : Hid (∀ a b : List UInt8, (({ data := a.toArray } : ByteArray).toList == ({ data := b.toArray } : ByteArray).toList) = decide (a = b)) := bytes_ne
  have HT : Hid (TabW w) := ht
  have HE : Hid (ErrW w) := he
  have H0 : Hid (-9223372036854775808 ≤ x ∧ x ≤ 9223372036854775807) := ⟨h0, h1⟩
  clear ht he hs
  go_enter Tryd.func3, Tryd.ntmps3
  go_wp2_with fail
  refine (FM.out x w H0.out.1 H0.out.2 HT.out).mono ?_
  rintro e w1 ⟨rfl, U1⟩
  have T1 : Hid (TabW w1) := tab_below HT.out U1
  have E1 : Hid (ErrW w1) := HE.out.below U1
  go_wp2_with fail
  refine (PF.out w1 T1.out E1.out).mono ?_
  rintro e w2 ⟨U2, rfl⟩
  have T2 : Hid (TabW w2) := tab_below T1.out U2
  have E2 : Hid (ErrW w2) := E1.out.below U2
  go_wp2_with fail
  obtain ⟨⟨v, b⟩, hp, hc⟩ := PL.out w2 T2.out E2.out
  refine hc.mono ?_
  clear hc
  rintro e w3 ⟨U3, rfl⟩
  have T3 : Hid (TabW w3) := tab_below T2.out U3
  have UU : Hid (Below w.heap.size w w3) := below_trans U1 (below_trans U2 U3)
  cases b with
  | true =>
    obtain ⟨hf, v0, v1⟩ := hp.1 rfl
    have HF : Hid (fmtL v = l ∧ -9223372036854775808 ≤ v ∧ v ≤ 9223372036854775807) := ⟨hf, v0, v1⟩
    have q1 : (({ data := (fmtL v).toArray } : ByteArray).toList == ({ data := l.toArray } : ByteArray).toList) = true := by rw [QE.out]; exact decide_eq_true hf
    clear hf v0 v1 hp
    generalize hF : ({ data := (fmtL v).toArray } : ByteArray) = F at *
    generalize hL : ({ data := l.toArray } : ByteArray) = L at *
    go_wp2_with fail
    refine (FM.out v w3 HF.out.2.1 HF.out.2.2 T3.out).mono ?_
    rintro e w4 ⟨rfl, U4⟩
    rw [hF]
    go_wp2_with fail
    go_ret
    exact ⟨below_trans UU.out U4, rfl⟩
  | false =>
    obtain ⟨hv, hn⟩ := hp.2 rfl
    have hv : v = 0 := hv
    subst hv
    have q1 : (({ data := l.toArray } : ByteArray).toList == ({ data := (fmtL x).toArray } : ByteArray).toList) = false := by rw [QE.out]; exact decide_eq_false (fun e => hn x H0.out.1 H0.out.2 e.symm)
    clear hn hp
    generalize hF : ({ data := (fmtL x).toArray } : ByteArray) = F at *
    generalize hL : ({ data := l.toArray } : ByteArray) = L at *
    go_wp2_with fail
    refine (FM.out x w3 H0.out.1 H0.out.2 T3.out).mono ?_
    rintro e w4 ⟨rfl, U4⟩
    rw [hF]
    go_wp2_with fail
    go_ret
    exact ⟨below_trans UU.out U4, rfl⟩
end Go.Proofs.YtkabfdajpilomacDoor
