/-
  Ours: contracts of calendar.MonthLen, calendar.Number.
-/
import Derived.Test.YtmennknknecgjaaDoorCalTab
import Derived.Laws.Rows
import Derived.Deep.QuietTactic
import Derived.BigQuiet
import Derived.WalkSmall
namespace Go.Proofs.YtmennknknecgjaaDoor
open Go.RowKit CalM

theorem lp_of {y : Int} {b : Bool} (hb : leapB y = b) : lp y = if b then 1 else 0 := by
  have := lp_leap y
  have := lp_01 y
  cases b <;> simp_all
theorem lenI_of (y m : Int) (m2 : ¬ m = 2) : lenI y m = lenT m := by unfold lenI lenT; simp [m2]

theorem TabA.al {w : World} (h : TabA w) (o : Obj) : TabA (w.alloc o) := h.up ((Up.refl w).alloc o)
theorem TabA.dr {w : World} (h : TabA w) (n : Nat) : TabA (w.drewN n) := h
theorem up_drewN {a w : World} (h : Up a w) (n : Nat) : Up a (w.drewN n) := below_drewN h n

theorem cell_new (w : World) (cs : Array Value) (t : TypeId) (i b : Nat) (v : Value) (h : cs[i]? = some v) (hb : w.heap.size = b) : (w.alloc (.cells cs t)).cell? ⟨b, i, none⟩ = some v := by
  subst hb
  rw [cell_of_row (w.alloc (.cells cs t)) w.heap.size i cs t (0, 0) (heap_alloc_new w _)]; exact h
theorem size_al (w : World) (o : Obj) (n : Nat) (h : w.heap.size = n) : (w.alloc o).heap.size = n + 1 := by
  show (w.heap.push o).size = _
  rw [Array.size_push, h]

end Go.Proofs.YtmennknknecgjaaDoor
