/-
  Ours: the document's Trial; the walk of LedgerTrials.
-/
import Derived.Test.YtmennknknecgjaaDoorLedTrial
import Derived.Test.YtmennknknecgjaaDoorRefSum
import Derived.Test.YtmennknknecgjaaDoorWirNear
namespace Go.Proofs.YtmennknknecgjaaDoor
open Go.RowKit LedM

theorem infoL : (Tryd.prog.info? 2).map (fun i => (i.zero, i.size, i.bytes)) = some (some (.int .i64 0), 1, 8) := by kernel_rfl
theorem RowV.row {e : TypeId} {base : Nat} {w : World} {v : Value} {xs : List Int} (h : RowV e base w v (bkL xs)) : Row e base w v xs := by
  unfold RowV at h
  rw [bkL_len] at h
  exact h
theorem rsum_row {e : TypeId} {base : Nat} {w : World} {v : Value} {xs : List Int} (h : RowV e base w v (bkL xs)) (hx : I64 xs) (hl : xs.length ≤ 4194304) :
    Calls Tryd.prog 41 #[v] w fun e w' => e = .returned (.tuple #[.int .i64 (smV (total xs)), .bool (smOk (total xs))]) ∧ w' = w := rsum_reads h.row.reads hx hl
theorem bkL_push (xs : List Int) (x : Int) : bkL (xs ++ [x]) = bkL xs ++ [.int .i64 x] := by simp [bkL]

namespace LedM
theorem rtr_ok (l : List Int) : (smOk (trD l) && (smOk (total (dns l)) && !(smV (total (dns l)) == -9223372036854775808))) = trOk l := by
  have := trC_pos l
  unfold trOk
  congr 1
  have e : trC l = -total (dns l) := rfl
  generalize trC l = c at *
  rw [show total (dns l) = -c from by omega]
  clear e
  unfold smV smOk
  by_cases h : -9223372036854775808 ≤ c ∧ c ≤ 9223372036854775807
  · rw [decide_eq_true h, decide_eq_true (p := -9223372036854775808 ≤ -c ∧ -c ≤ 9223372036854775807) (by omega)]
    simp; omega
  · rw [decide_eq_false h]
    by_cases h2 : -9223372036854775808 ≤ -c ∧ -c ≤ 9223372036854775807
    · rw [decide_eq_true h2]; simp; omega
    · rw [decide_eq_false h2]; simp
theorem rtr_val (l : List Int) (h : trOk l = true) : smV (trD l) = trD l ∧ wrap64 (-smV (total (dns l))) = trC l := by
  have e := rtr_ok l
  rw [h] at e
  simp only [Bool.and_eq_true] at e
  refine ⟨by unfold smV; rw [e.1]; rfl, ?_⟩
  have : smV (total (dns l)) = total (dns l) := by unfold smV; rw [e.2.1]; rfl
  rw [this]
  have k : smOk (trC l) = true := by unfold trOk at h; simp only [Bool.and_eq_true] at h; exact h.2
  have k2 : -9223372036854775808 ≤ trC l ∧ trC l ≤ 9223372036854775807 := of_decide_eq_true k
  show wrap64 (trC l) = trC l
  unfold wrap64; omega
end LedM

end Go.Proofs.YtmennknknecgjaaDoor
