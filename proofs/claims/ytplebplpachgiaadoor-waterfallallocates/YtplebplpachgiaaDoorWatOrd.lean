/-
  Ours: the six orders; Order.
-/
import Derived.Test.YtplebplpachgiaaDoorWatM
import Derived.Test.YtplebplpachgiaaDoorLedBal
import Derived.Deep.QuietTactic
import Derived.BigQuiet
namespace Go.Proofs.YtplebplpachgiaaDoor
open Go.RowKit LedM WatM

namespace WatM
def kd (n j : Nat) : Nat := (([[3, 2, 1], [3, 1, 2], [2, 3, 1], [2, 1, 3], [1, 3, 2], [1, 2, 3]] : List (List Nat)).getD n []).getD j 0
theorem kd_all : ∀ n, n < 6 → ∀ j, j < 3 → kd n j = 1 ∨ kd n j = 2 ∨ kd n j = 3 := by decide
def ordL (o : Int) : List Int := if 0 ≤ o ∧ o < 6 then [(kd o.toNat 0 : Int), (kd o.toNat 1 : Int), (kd o.toNat 2 : Int)] else [0, 0, 0]
def ordB (o : Int) : Bool := decide (0 ≤ o ∧ o < 6)
theorem ordL_in (n : Nat) (h : n < 6) : ordL (n : Int) = [(kd n 0 : Int), (kd n 1 : Int), (kd n 2 : Int)] := by
  unfold ordL; rw [if_pos ⟨by omega, by omega⟩]; simp
theorem ordL_three (o : Int) : ∃ a b c, ordL o = [a, b, c] := by unfold ordL; split <;> exact ⟨_, _, _, rfl⟩
end WatM
def TabO (w : World) : Prop := ∀ n j : Nat, n < 6 → j < 3 → w.cell? ⟨0, n * 3 + j, none⟩ = some (.int .i64 (kd n j : Int))
theorem TabO.later {w w' : World} (h : TabO w) (hb : Below w.heap.size w w') : TabO w' := fun n j hn hj => (hb.cell (p := ⟨0, n * 3 + j, none⟩) (block_lt_of_cell (h n j hn hj))).trans (h n j hn hj)
theorem TabO.range {w : World} (h : TabO w) {n : Nat} (hn : n < 6) : w.rangeAt 0 (n * 3) (bkL [(kd n 0 : Int), (kd n 1 : Int), (kd n 2 : Int)]) := fun j v hv => by
  match j, hv with
  | 0, hv => cases hv; exact h n 0 hn (by omega)
  | 1, hv => cases hv; exact h n 1 hn (by omega)
  | 2, hv => cases hv; exact h n 2 hn (by omega)
theorem infoT {a b c : Int} : (Tryd.prog.info? 25).map (·.size) = some (bkL [a, b, c]).length := by
  have : (Tryd.prog.info? 25).map (·.size) = some 3 := by kernel_rfl
  exact this
abbrev z3o : Obj := .cells #[.int .i64 0, .int .i64 0, .int .i64 0] 25

set_option maxRecDepth 20000 in
set_option maxHeartbeats 800000 in
theorem order_at (o : Int) (w : World) (ho : i64 o) (hT : TabO w) : Calls Tryd.prog 7 #[.int .i64 o] w fun e w' => e = .returned (.tuple #[.agg (bkL (ordL o)).toArray, .bool (ordB o)]) ∧ Below w.heap.size w w' := by
  unfold i64 at ho
  by_cases h1 : 0 ≤ o ∧ o < 6
  · have E2 : Hid (ordB o = true) := decide_eq_true h1
    obtain ⟨n, rfl⟩ : ∃ n : Nat, o = (n : Int) := ⟨o.toNat, by omega⟩
    have hn : n < 6 := by omega
    have E1 : Hid (ordL (n : Int) = [(kd n 0 : Int), (kd n 1 : Int), (kd n 2 : Int)]) := ordL_in n hn
    have RG : Hid ((w.alloc z3o).rangeAt 0 (n * 3) (bkL [(kd n 0 : Int), (kd n 1 : Int), (kd n 2 : Int)])) := (hT.later (below_alloc w _)).range hn
    have N0 : Hid (Blk w.heap.size 25 (bkL [0, 0, 0]) (w.alloc z3o)) := Blk.new 25 (bkL [0, 0, 0]) w
    have B0 : Hid (Below w.heap.size w (w.alloc z3o)) := below_alloc w _
    have d1 : decide ((n : Int) < 0) = false := by simp
    have d2 : decide ((6 : Int) ≤ (n : Int)) = false := by simp; omega
    rw [E1.out, E2.out]
    generalize (kd n 0 : Int) = k0 at *
    generalize (kd n 1 : Int) = k1 at *
    generalize (kd n 2 : Int) = k2 at *
    clear hT E1 E2
    obtain ⟨h1, h2⟩ := h1
    go_enter Tryd.func7, Tryd.ntmps7
    go_wp2_with (first
      | (refine step_load rfl 25 _ rfl 0 (n * 3) rfl (bkL [k0, k1, k2]) _ RG.out Tryd.underlying25 rfl infoT ?_)
      | (refine step_store rfl 25 _ _ rfl w.heap.size 0 25 (bkL [0, 0, 0]) (bkL [k0, k1, k2]) rfl rfl N0.out (Nat.le_refl _) infoT (bkL_one _) ?_; intro w2 nb2 g2; have N2 : Hid (Blk w.heap.size 25 (bkL [k0, k1, k2]) w2) := nb2; have B2 : Hid (Below w.heap.size w w2) := below_row B0.out g2 (Nat.le_refl _); clear nb2 g2 N0 B0))
    refine ret_blk_tmp rfl rfl w.heap.size 25 (bkL [k0, k1, k2]) _ rfl N2.out Tryd.underlying25 rfl infoT ?_
    exact ⟨rfl, B2.out⟩
  · have E2 : Hid (ordB o = false) := decide_eq_false h1
    have E1 : Hid (ordL o = [0, 0, 0]) := if_neg h1
    rw [E1.out, E2.out]
    clear hT E1 E2
    by_cases h2 : o < 0
    · go_enter Tryd.func7, Tryd.ntmps7
      clear h1
      go_wp2_with fail
      refine ret_blk_tmp rfl rfl w.heap.size 25 (bkL [0, 0, 0]) _ rfl (Blk.new 25 (bkL [0, 0, 0]) w) Tryd.underlying25 rfl infoT ?_
      exact ⟨rfl, below_alloc w _⟩
    · have h3 : 6 ≤ o := by omega
      clear h1
      go_enter Tryd.func7, Tryd.ntmps7
      go_wp2_with fail
      refine ret_blk_tmp rfl rfl w.heap.size 25 (bkL [0, 0, 0]) _ rfl (Blk.new 25 (bkL [0, 0, 0]) w) Tryd.underlying25 rfl infoT ?_
      exact ⟨rfl, below_alloc w _⟩
end Go.Proofs.YtplebplpachgiaaDoor
