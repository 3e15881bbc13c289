/-
  Ours: two payments' parts alike.
-/
import Derived.Test.YtplebplpachgiaaDoorWatM
import Derived.Deep.QuietTactic
import Derived.BigQuiet
namespace Go.Proofs.YtplebplpachgiaaDoor
open Go.RowKit LedM WatM

set_option maxRecDepth 20000 in
set_option maxHeartbeats 1600000 in
theorem equal_yes (a b c d e : Int) (w : World) : Calls Tryd.prog 10 #[.agg (bkL [a, b, c, d, e]).toArray, .agg (bkL [a, b, c, d, e]).toArray] w fun r w' => r = .returned (.bool true) ∧ Below w.heap.size w w' := by
  have ea : (a == a) = true := by simp
  have eb : (b == b) = true := by simp
  have ec : (c == c) = true := by simp
  have ed : (d == d) = true := by simp
  have ee : (e == e) = true := by simp
  have NB := (Blk.new 29 (bkL [a, b, c, d, e]) w).old (.cells (bkL [a, b, c, d, e]).toArray 29)
  have NC := Blk.new2 29 (bkL [a, b, c, d, e]) w (.cells (bkL [a, b, c, d, e]).toArray 29)
  have b0 := NB.cell 0 _ rfl
  have b1 := NB.cell 1 _ rfl
  have b2 := NB.cell 2 _ rfl
  have b3 := NB.cell 3 _ rfl
  have b4 := NB.cell 4 _ rfl
  have c0 := NC.cell 0 _ rfl
  have c1 := NC.cell 1 _ rfl
  have c2 := NC.cell 2 _ rfl
  have c3 := NC.cell 3 _ rfl
  have c4 := NC.cell 4 _ rfl
  have BE : Hid (∀ o o' : Obj, Below w.heap.size w ((w.alloc o).alloc o')) := fun o o' => (below_alloc w o).alloc (by simp) o'
  clear NB NC
  generalize bkL [a, b, c, d, e] = cs at *
  go_enter Tryd.func10, Tryd.ntmps10
  go_wp2_with fail
  go_ret
  exact ⟨rfl, BE.out _ _⟩
end Go.Proofs.YtplebplpachgiaaDoor
