/-
  Ours: Balance, the program's and the document's; the walk of LedgerBalances.
-/
import Derived.Test.YtmennknknecgjaaDoorLedBal
import Derived.Test.YtmennknknecgjaaDoorLedNet
namespace Go.Proofs.YtmennknknecgjaaDoor
open Go.RowKit LedM

namespace LedM
def balV (l : List Int) (a : Int) : Int := if isA a then (if isD a then l.getD a.toNat 0 else if l.getD a.toNat 0 = -9223372036854775808 then 0 else -(l.getD a.toNat 0)) else 0
def balE (l : List Int) (a : Int) : Int := if isA a then (if isD a then 0 else if l.getD a.toNat 0 = -9223372036854775808 then 3 else 0) else 80
end LedM

set_option maxHeartbeats 1000000 in
theorem balance_at (l : List Int) (a : Int) (w : World) (hl : BkOk l) (hT : TabD w) : Calls Tryd.prog 35 #[.agg (bkL l).toArray, .int .i64 a] w fun e w' => e = .returned (.tuple #[.int .i64 (balV l a), .int .i64 (balE l a)]) ∧ Below w.heap.size w w' := by
  have BA := below_alloc w (.cells (bkL l).toArray 27)
  have NB := Blk.new 27 (bkL l) w
  have FIN : Hid (Below w.heap.size w (w.alloc (.cells (bkL l).toArray 27))) := BA
  have KN : Hid (∀ w, Calls Tryd.prog 50 #[.int .i64 a] w fun e w' => e = .returned (.bool (isA a)) ∧ w' = w) := fun w => known_at a w
  unfold balV balE
  by_cases hA : isA a = true
  · have hn : 0 ≤ a ∧ a < 12 := by simpa [isA] using hA
    rw [hA] at KN
    rw [if_pos hA, if_pos hA]
    obtain ⟨k, rfl⟩ : ∃ k : Nat, a = (k : Int) := ⟨a.toNat, by omega⟩
    have hk : k < 12 := by omega
    rw [Int.toNat_natCast]
    have c := (hT.later BA) k hk
    have c0 := NB.cell k _ (bkL_at (by rw [hl.1]; exact hk))
    have hb := hl.2 k
    generalize isD (k : Int) = b at *
    generalize l.getD k 0 = x at *
    generalize bkL l = cs at *
    clear hT hn hA BA NB hl
    obtain ⟨b0, b1⟩ := hb
    cases b
    · simp only [Bool.false_eq_true, ↓reduceIte]
      by_cases hx : x = -9223372036854775808
      · subst hx
        simp only [↓reduceIte]
        go_enter Tryd.func35, Tryd.ntmps35
        go_wp2_with fail
        refine (KN.out _).mono ?_
        rintro e w1 ⟨rfl, rfl⟩
        go_wp2_with fail
        go_ret2
        exact ⟨rfl, FIN.out⟩
      · rw [if_neg hx, if_neg hx]
        have e1 : (x == -9223372036854775808) = false := beq_eq_false_iff_ne.2 hx
        have e2 : Hid (wrap64 (-x) = -x) := by show _ = _; unfold wrap64; omega
        clear hx
        go_enter Tryd.func35, Tryd.ntmps35
        go_wp2_with fail
        refine (KN.out _).mono ?_
        rintro e w1 ⟨rfl, rfl⟩
        go_wp2_with fail
        go_ret2
        refine ⟨?_, FIN.out⟩
        show Ending.returned (.tuple #[.int .i64 (wrap64 (-x)), .int .i64 0]) = _
        rw [e2.out]
    · simp only [↓reduceIte]
      go_enter Tryd.func35, Tryd.ntmps35
      go_wp2_with fail
      refine (KN.out _).mono ?_
      rintro e w1 ⟨rfl, rfl⟩
      go_wp2_with fail
      go_ret2
      exact ⟨rfl, FIN.out⟩
  · rw [if_neg hA, if_neg hA]
    have hA' : isA a = false := by simpa using hA
    rw [hA'] at KN
    clear hT BA NB hl hA
    go_enter Tryd.func35, Tryd.ntmps35
    go_wp2_with fail
    refine (KN.out _).mono ?_
    rintro e w1 ⟨rfl, rfl⟩
    go_wp2_with fail
    go_ret2
    exact ⟨rfl, FIN.out⟩

end Go.Proofs.YtmennknknecgjaaDoor
