/-
  Ours: rows that are written to: what stays; the statements' helper goneOn.
-/
import Derived.Test.YtkabfdajpilomabDoorIntAlike
import Derived.Test.YtkabfdajpilomabDoorIntPlan
import Derived.ArgAppend
import Derived.Laws.OwnMore
import Derived.Deep.RegionWith
namespace Go.Proofs.YtkabfdajpilomabDoor
open Go.RowKit IntM CalM

/-- A row of instalments by its cells. -/
abbrev RowC (base : Nat) (w : World) (v : Value) (n : Nat) (vs : List Value) : Prop := w.ownsRow base 30 4 v n vs

theorem grownBy_trans {a b c : World} {row : Option Nat} (h : a.grownBy b row) (k : b.grownBy c row) : a.grownBy c row :=
  ⟨k.os.trans h.os, k.tape.trans h.tape, k.output.trans h.output, Nat.le_trans h.size k.size, fun i hi hn => (k.block i (Nat.lt_of_lt_of_le hi h.size) hn).trans (h.block i hi hn)⟩
theorem grownBy_refl (a : World) (row : Option Nat) : a.grownBy a row := ⟨rfl, rfl, rfl, Nat.le_refl _, fun _ _ _ => rfl⟩
theorem grownBy_drewN {a b : World} {row : Option Nat} (h : a.grownBy b row) (n : Nat) : a.grownBy (b.drewN n) row := ⟨h.os, h.tape, h.output, h.size, h.block⟩
theorem grownBy_below {a b : World} (h : Below a.heap.size a b) (row : Option Nat) : a.grownBy b row := ⟨h.os, h.tape, h.output, h.size, fun k hk _ => h.block k hk⟩
theorem grownBy_none {a b : World} (h : a.grownBy b none) (row : Option Nat) : a.grownBy b row := ⟨h.os, h.tape, h.output, h.size, fun k hk _ => h.block k hk (by simp)⟩

/-- Writes behind the last row leave the rows. -/
theorem setCells_past {base g n cap : Nat} {vs : List Value} : ∀ (news : List Value) (o : Nat) (w : World), RowC base w (.slice (some ⟨g, 0, none⟩) n cap) n vs → n * 4 ≤ o →
    RowC base (w.setCells g o news) (.slice (some ⟨g, 0, none⟩) n cap) n vs ∧ w.grownBy (w.setCells g o news) (some g)
  | [], _, w, h, _ => ⟨h, grownBy_refl w _⟩
  | u :: news, o, w, h, ho => by
    obtain ⟨h1, h2⟩ := World.ownsRow.stored h o u
    rw [List.set_eq_of_length_le (by rw [h.1]; exact ho)] at h1
    obtain ⟨h3, h4⟩ := setCells_past news (o + 1) _ h1 (by omega)
    exact ⟨h3, grownBy_trans h2 h4⟩

theorem rep_getD (k i : Nat) (d : Int) (h : i < k) : (List.replicate k ((d, 0, 0) : Int × Int × Int)).getD i (0, 0, 0) = (d, 0, 0) := by
  rw [List.getD_eq_getElem?_getD, List.getElem?_replicate, if_pos h]; rfl
end Go.Proofs.YtkabfdajpilomabDoor
