/-
  Ours: rows of operations: as they came in, of the call's own.
-/
import Derived.Test.YtkjnklagjhhhkaaGreatDoorScFmt
import Derived.Test.YtkjnklagjhhhkaaGreatDoorWirOwn
namespace Go.Proofs.YtkjnklagjhhhkaaGreatDoor
open Go.RowKit Go.Lib ScF

theorem opL_len (o : Cm) : (opL o).length = 7 := rfl
/-- Operations that came in. -/
def RdQ (w : World) (v : Value) (os : List Cm) : Prop :=
  ∃ ao cap, v = .slice ao os.length cap ∧ ∀ i o, os[i]? = some o → ∃ g off, ao = some ⟨g, off, none⟩ ∧ g < w.heap.size ∧ ∀ j u, (opL o)[j]? = some u → w.cell? ⟨g, off + i * 7 + j, none⟩ = some u
theorem RdQ.len {w : World} {v : Value} {os : List Cm} (h : RdQ w v os) : ∃ a c, v = .slice a os.length c := by
  obtain ⟨a, c, e, _⟩ := h
  exact ⟨a, c, e⟩
theorem RdQ.at {w w' : World} {a : Option Addr} {n c : Nat} {os : List Cm} (h : RdQ w (.slice a n c) os) (b : Below w.heap.size w w') {i : Nat} {o : Cm} (hi : os[i]? = some o) :
    ∃ g off, a = some ⟨g, off, none⟩ ∧ g < w'.heap.size ∧ w'.rangeAt g (off + i * 7) (opL o) := by
  obtain ⟨ao, cap, e, H⟩ := h
  injection e with e _ _
  subst e
  obtain ⟨g, off, e1, lt, hc⟩ := H i o hi
  exact ⟨g, off, e1, Nat.lt_of_lt_of_le lt b.size, fun j u hu => (b.cell (p := ⟨g, off + i * 7 + j, none⟩) lt).trans (hc j u hu)⟩

theorem own_heap {w : World} {base sz n g : Nat} {e : TypeId} {v : Value} {xs : List Value} (h : w.ownsRow base e sz v n xs) (hg : v.ownBlock = some g) : base ≤ g ∧ ∃ cur, w.heap[g]? = some (.cells cur e (0, 0)) := by
  rcases h.2 with ⟨rfl, _⟩ | ⟨g', cap, cur, rfl, hb, hh, _⟩
  · simp [Value.ownBlock] at hg
  · have : g' = g := by simpa [Value.ownBlock] using hg
    subst this
    exact ⟨hb, cur, hh⟩
theorem own_grown {w w' : World} {base sz n : Nat} {e : TypeId} {v : Value} {xs : List Value} {row : Option Nat} (h : w.ownsRow base e sz v n xs) (hg : w.grownBy w' row) (hn : ∀ g, v.ownBlock = some g → row ≠ some g) : w'.ownsRow base e sz v n xs := by
  refine World.ownsRow.kept h hg ?_
  cases hv : v.ownBlock with
  | none => exact .inl rfl
  | some g => exact .inr fun e => hn g hv e.symm
theorem own_later {w w' : World} {base sz n : Nat} {e : TypeId} {v : Value} {xs : List Value} (h : w.ownsRow base e sz v n xs) (hb : Below w.heap.size w w') : w'.ownsRow base e sz v n xs := own_grown h (grownBy_below hb none) (fun _ _ e => by cases e)
/-- Rows of two types are apart. -/
theorem own_apart {w : World} {base base' sz sz' n n' : Nat} {e e' : TypeId} {v v' : Value} {xs xs' : List Value} (h : w.ownsRow base e sz v n xs) (h' : w.ownsRow base' e' sz' v' n' xs') (ne : e ≠ e') : ∀ g, v.ownBlock = some g → v'.ownBlock ≠ some g := fun g hg hg' => by
  obtain ⟨_, c, h1⟩ := own_heap h hg
  obtain ⟨_, c', h2⟩ := own_heap h' hg'
  rw [h1] at h2
  injection h2 with h2
  injection h2 with _ h2
  exact ne h2
theorem own_below {w w1 w2 : World} {sz n : Nat} {e : TypeId} {v : Value} {xs : List Value} (b : Below w.heap.size w w1) (h : w1.ownsRow w.heap.size e sz v n xs) (hg : w1.grownBy w2 v.ownBlock) : Below w.heap.size w w2 :=
  ⟨hg.os.trans b.os, hg.tape.trans b.tape, hg.output.trans b.output, Nat.le_trans b.size hg.size, fun k hk => (hg.block k (Nat.lt_of_lt_of_le hk b.size) (fun q => by have := (own_heap h q.symm).1; omega)).trans (b.block k hk)⟩

theorem op_at : ∀ (os : List Cm) (i j : Nat) (o : Cm), os[i]? = some o → j < 7 → (os.flatMap opL)[i * 7 + j]? = (opL o)[j]?
  | e :: r, 0, j, x, h, hj => by
    simp only [List.getElem?_cons_zero, Option.some.injEq] at h
    subst h
    rw [Nat.zero_mul, Nat.zero_add, List.flatMap_cons, List.getElem?_append_left (by rw [opL_len]; exact hj)]
  | e :: r, i + 1, j, x, h, hj => by
    have ih := op_at r i j x (by simpa using h) hj
    rw [List.flatMap_cons, List.getElem?_append_right (by rw [opL_len]; omega)]
    rw [show (i + 1) * 7 + j - (opL e).length = i * 7 + j from by rw [opL_len]; omega, ih]
/-- Operations of the call's own. -/
abbrev RowQ (base : Nat) (w : World) (v : Value) (os : List Cm) : Prop := w.ownsRow base 24 7 v os.length (os.flatMap opL)
theorem RowQ.nil (base : Nat) (w : World) : RowQ base w (.slice none 0 0) [] := World.ownsRow_nil _ _ _ _
theorem RowQ.at {base : Nat} {w : World} {v : Value} {os : List Cm} (h : RowQ base w v os) {i : Nat} {o : Cm} (hi : os[i]? = some o) : ∃ g cap, v = .slice (some ⟨g, 0, none⟩) os.length cap ∧ g < w.heap.size ∧ w.rangeAt g (i * 7) (opL o) := by
  have hl := (List.getElem?_eq_some_iff.1 hi).1
  rcases h.2 with ⟨_, h0⟩ | ⟨g, cap, cur, rfl, hb, hh, hn, hm, hs, ht⟩
  · omega
  · refine ⟨g, cap, rfl, (Array.getElem?_eq_some_iff.1 hh).1, fun j u hu => ?_⟩
    have hj : j < 7 := (List.getElem?_eq_some_iff.1 hu).1
    have e := op_at os i j o hi hj
    have hfl : (os.flatMap opL).length = os.length * 7 := h.1
    have := World.ownsRow.cells h (g := g) rfl (i * 7 + j) u (by rw [e]; exact hu)
    rwa [show (⟨g, 0, none⟩ : Addr).add (i * 7 + j) = ⟨g, i * 7 + j, none⟩ by unfold Addr.add; split <;> simp_all] at this
theorem RowQ.len {base : Nat} {w : World} {v : Value} {os : List Cm} (h : RowQ base w v os) : ∃ a cap, v = .slice a os.length cap := by
  rcases h.2 with ⟨h1, h0⟩ | ⟨g, cap, cur, h1, _⟩
  · exact ⟨none, 0, by rw [h1, h0]⟩
  · exact ⟨_, cap, h1⟩
end Go.Proofs.YtkjnklagjhhhkaaGreatDoor
