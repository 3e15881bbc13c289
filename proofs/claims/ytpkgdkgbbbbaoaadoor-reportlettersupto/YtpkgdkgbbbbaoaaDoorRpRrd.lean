/-
  Ours: the reference's ReadLetter.
-/
import Derived.Test.YtpkgdkgbbbbaoaaDoorRpRn
namespace Go.Proofs.YtpkgdkgbbbbaoaaDoor
open Go.RowKit Go.Lib CalM RpM

theorem wrap64_id (x : Int) (h0 : -9223372036854775808 ≤ x) (h1 : x ≤ 9223372036854775807) : wrap64 x = x := by unfold wrap64; omega
theorem cand_of {l : List UInt8} {m : RpM.Nt} (hm : may m) (om : m.Ok) (h : letN m = l) : ∃ x0 x1 x2 x3 x4 x5 x6 : Int, runsL l = [x0, x1, x2, x3, x4, x5, x6] ∧ CalM.Ok x1 x2 x3 ∧ dA x1 x2 + x3 = m.day ∧ x0 = m.id ∧
    ((x4 = m.loan ∧ wrap64 (wrap64 (x5 * 100) + x6) = m.amt) ∨ (x6 = m.loan ∧ wrap64 (wrap64 (x4 * 100) + x5) = m.amt)) := by
  obtain ⟨h1, h2, h3, h4, h5, h6, h7⟩ := hm
  obtain ⟨⟨_, o1⟩, ⟨_, o2⟩, _, _, ⟨_, o5⟩⟩ := om
  obtain ⟨y, mo, d, ok, e1, e2⟩ := dateL_is h5 h6
  have ok' := ok
  obtain ⟨y1, y2, m1, m2, d1, d2⟩ := ok'
  have hl := len_high y mo
  have R := runs_let m.kind.toNat (by omega) (by omega) m.id.toNat y mo d m.loan.toNat m.amt.natAbs (by omega) (by omega) (by omega) (by omega) (by omega) (by omega)
  have e : letT m.kind.toNat (decDigits m.id.toNat) (dateT y mo d) (decDigits m.loan.toNat) (amtL m.amt.natAbs) = l := by rw [← h, ← e2]; rfl
  rw [e] at R
  have hw : wrap64 (wrap64 (((m.amt.natAbs / 100 : Nat) : Int) * 100) + ((m.amt.natAbs % 100 : Nat) : Int)) = m.amt := by
    have q : ((m.amt.natAbs / 100 : Nat) : Int) * 100 + ((m.amt.natAbs % 100 : Nat) : Int) = m.amt := by omega
    generalize ((m.amt.natAbs / 100 : Nat) : Int) = A at *
    have hr : (0 : Int) ≤ ((m.amt.natAbs % 100 : Nat) : Int) ∧ ((m.amt.natAbs % 100 : Nat) : Int) < 100 := by omega
    generalize ((m.amt.natAbs % 100 : Nat) : Int) = B at *
    rw [wrap64_id (A * 100) (by omega) (by omega), wrap64_id _ (by omega) (by omega)]
    exact q
  have g0 : ((m.id.toNat : Nat) : Int) = m.id := by omega
  have g4 : ((m.loan.toNat : Nat) : Int) = m.loan := by omega
  cases hf : (wrd m.kind.toNat).f with
  | true =>
    rw [hf] at R
    simp only [if_true, List.cons_append, List.nil_append] at R
    exact ⟨_, _, _, _, _, _, _, R, ok, e1, g0, .inr ⟨g4, hw⟩⟩
  | false =>
    rw [hf] at R
    simp only [Bool.false_eq_true, if_false, List.cons_append, List.nil_append] at R
    exact ⟨_, _, _, _, _, _, _, R, ok, e1, g0, .inl ⟨g4, hw⟩⟩
theorem rnumber_at (y m k : Int) (w : World) : Calls Tryd.prog 18 #[.agg #[.int .i64 y, .int .i64 m, .int .i64 k]] w fun e w' => e = .returned (.tuple #[.int .i64 (if CalM.Ok y m k then dA y m + k else 0), .bool (decide (CalM.Ok y m k))]) ∧ Below w.heap.size w w' := by
  by_cases h : CalM.Ok y m k
  · rw [if_pos h, decide_eq_true h]
    refine (refNumber_at y m k _ h rfl w).mono ?_
    rintro e w' ⟨rfl, hb⟩
    first | exact ⟨rfl, hb⟩ | (obtain ⟨o, n, rfl⟩ := hb; exact ⟨rfl, below_drewN (below_alloc _ _) n⟩) | (subst hb; exact ⟨rfl, below_alloc _ _⟩)
  · rw [if_neg h, decide_eq_false h]
    refine (refNumber_no y m k h w).mono ?_
    rintro e w' ⟨rfl, hb⟩
    first | exact ⟨rfl, hb⟩ | (obtain ⟨o, n, rfl⟩ := hb; exact ⟨rfl, below_drewN (below_alloc _ _) n⟩) | (subst hb; exact ⟨rfl, below_alloc _ _⟩)
end Go.Proofs.YtpkgdkgbbbbaoaaDoor
