/-
  Ours: money.Parse of any text.
-/
import Derived.Test.YtpkgdkgbbbbaoaaDoorMrtParse
namespace Go.Proofs.YtpkgdkgbbbbaoaaDoor
open Go.RowKit Go.Sort Go.Lib

def PrOk (l : List UInt8) (p : Int × Bool) : Prop :=
  (p.2 = true → fmtL p.1 = l ∧ -9223372036854775808 ≤ p.1 ∧ p.1 ≤ 9223372036854775807) ∧
  (p.2 = false → p.1 = 0 ∧ ∀ x, -9223372036854775808 ≤ x → x ≤ 9223372036854775807 → fmtL x ≠ l)

theorem par_fmt (x : Int) (h0 : -9223372036854775808 ≤ x) (h1 : x ≤ 9223372036854775807) : parseIntB 64 (unL (fmtL x)) = .ok x := by
  unfold unL
  rw [(fmt_parts x h0 h1).2.2]
  exact par_raw x h0 h1
theorem fmt_inj {x y : Int} (h0 : -9223372036854775808 ≤ x) (h1 : x ≤ 9223372036854775807) (k0 : -9223372036854775808 ≤ y) (k1 : y ≤ 9223372036854775807) (h : fmtL x = fmtL y) : x = y := by
  have a := par_fmt x h0 h1
  rw [h, par_fmt y k0 k1] at a
  injection a with a
  exact a.symm

/-- money.Parse of any text. -/
theorem parse_any (l : List UInt8) (hs : l.length ≤ 9223372036854775807) (w : World) (ht : TabW w) (he : ErrW w) :
    ∃ p : Int × Bool, PrOk l p ∧ Calls Tryd.prog 28 #[.string ⟨l.toArray⟩] w fun e w' => Below w.heap.size w w' ∧ e = .returned (.tuple #[.int .i64 p.1, .bool p.2]) := by
  by_cases hl : 4 ≤ l.length ∧ l.length ≤ 21
  · by_cases hp : ∃ v, parseIntB 64 (unL l) = .ok v
    · obtain ⟨v, hv⟩ := hp
      have vb := Lib.parseIntB_bounds hv
      have v0 : -9223372036854775808 ≤ v := by simpa using vb.1
      have v1 : v ≤ 9223372036854775807 := by have := vb.2; simp at this; omega
      by_cases hf : fmtL v = l
      · exact ⟨(v, true), ⟨fun _ => ⟨hf, v0, v1⟩, (fun e => by cases e)⟩, parse_ok l hl.1 hl.2 v hv true (decide_eq_true hf) w ht he⟩
      · refine ⟨(0, false), ⟨(fun e => by cases e), fun _ => ⟨rfl, fun x h0 h1 e => hf ?_⟩⟩, parse_ok l hl.1 hl.2 v hv false (decide_eq_false hf) w ht he⟩
        subst e
        rw [par_fmt x h0 h1] at hv
        injection hv with hv
        rw [hv]
    · refine ⟨(0, false), ⟨(fun e => by cases e), fun _ => ⟨rfl, fun x h0 h1 e => hp ⟨x, ?_⟩⟩⟩, parse_err l hl.1 hl.2 (fun v h => hp ⟨v, h⟩) w he⟩
      subst e
      exact par_fmt x h0 h1
  · refine ⟨(0, false), ⟨(fun e => by cases e), fun _ => ⟨rfl, fun x h0 h1 e => hl ?_⟩⟩, (parse_long l hl hs w).mono ?_⟩
    · subst e
      exact ⟨(fmt_parts x h0 h1).2.1, (fmt_parts x h0 h1).1⟩
    · rintro e w' ⟨rfl, rfl⟩
      exact ⟨Below.refl _ _, rfl⟩
theorem parse_fmt (x : Int) (h0 : -9223372036854775808 ≤ x) (h1 : x ≤ 9223372036854775807) (w : World) (ht : TabW w) (he : ErrW w) :
    Calls Tryd.prog 28 #[.string ⟨(fmtL x).toArray⟩] w fun e w' => Below w.heap.size w w' ∧ e = .returned (.tuple #[.int .i64 x, .bool true]) :=
  parse_ok (fmtL x) (fmt_parts x h0 h1).2.1 (fmt_parts x h0 h1).1 x (par_fmt x h0 h1) true (decide_eq_true rfl) w ht he

end Go.Proofs.YtpkgdkgbbbbaoaaDoor
