/-
  Ours: a list of rows that grows, each row in memory of its own.
-/
import Derived.Test.YteflbdlfjebccaaDoorFrmTold2
namespace Go.Proofs.YteflbdlfjebccaaDoor
open Go.RowKit

theorem getD_app {α : Type} (a b : List α) (i : Nat) (d : α) : (a ++ b).getD i d = if i < a.length then a.getD i d else b.getD (i - a.length) d := by
  split
  · rename_i h; rw [List.getD_eq_getElem?_getD, List.getElem?_append_left h, ← List.getD_eq_getElem?_getD]
  · rename_i h; rw [List.getD_eq_getElem?_getD, List.getElem?_append_right (by omega), ← List.getD_eq_getElem?_getD]

/-- Rows of the given lengths, each in memory of its own, whose blocks all keep P. -/
structure OU (base : Nat) (P : Nat → Prop) (W : World) (v : Value) (vs : List Value) (ns : List Nat) : Prop where
  ti : TI base W v vs ns
  far : ∀ j, j < ns.length → ∀ g, (vs.getD j undef).ownBlock = some g → P g
variable {base : Nat} {P : Nat → Prop} {W W' : World} {v v' : Value} {vs : List Value} {ns : List Nat}
theorem OU.later (h : OU base P W v vs ns) (b : Below W.heap.size W W') : OU base P W' v vs ns := ⟨h.ti.later b, h.far⟩
theorem OU.nil : OU base P W (.slice none 0 0) [] [] := ⟨⟨RowV.nil _ _ _, rfl, fun i hi => by simp at hi, fun i j hi => by simp at hi⟩, fun j hj => by simp at hj⟩
theorem OU.lt (h : OU base P W v vs ns) : ∀ j, j < ns.length → ∀ g, (vs.getD j undef).ownBlock = some g → g < W.heap.size := fun j hj g hg => by
  obtain ⟨c, _, r⟩ := h.ti.it j hj
  exact r.block_lt hg
/-- Rows more. -/
theorem OU.cat (h : OU base P W v vs ns) {ys : List Value} {ps : List (List Nat)} (hl : ys.length = ps.length) (hr : ∀ i, i < ps.length → RowB 5 base W (ys.getD i undef) (ps.getD i []))
    (hpw : ∀ i j, i < ps.length → j < ps.length → i ≠ j → ∀ g, (ys.getD i undef).ownBlock = some g → (ys.getD j undef).ownBlock ≠ some g) (hp : ∀ i, i < ps.length → ∀ g, (ys.getD i undef).ownBlock = some g → P g)
    (ha : ∀ j i, j < ns.length → i < ps.length → ∀ g, (vs.getD j undef).ownBlock = some g → (ys.getD i undef).ownBlock ≠ some g) (hown : RowV 22 base W' v' (vs ++ ys)) (hg : W.grownBy W' v.ownBlock) : OU base P W' v' (vs ++ ys) (ns ++ ps.map List.length) := by
  have hlv := h.ti.len
  have kp : ∀ (y : Value) (c : List Nat), RowB 5 base W y c → RowB 5 base W' y c := fun y c r => RowV.kept r hg (fun q hq e => rows_ne h.ti.row r (by decide) e hq)
  have hnl : (ns ++ ps.map List.length).length = ns.length + ps.length := by simp
  refine ⟨⟨hown, by simp [hlv, hl], fun i hi => ?_, fun i j hi hj hne g h1 h2 => ?_⟩, fun j hj g h1 => ?_⟩
  · rw [getD_app, getD_app, hlv]
    split
    · rename_i hlt
      obtain ⟨c, h1, r⟩ := h.ti.it i hlt
      exact ⟨c, h1, kp _ _ r⟩
    · rename_i hge
      have hi' : i - ns.length < ps.length := by omega
      refine ⟨ps.getD (i - ns.length) [], ?_, kp _ _ (hr _ hi')⟩
      simp [List.getD_eq_getElem?_getD, List.getElem?_eq_getElem hi']
  · rw [getD_app, hlv] at h1 h2
    split at h1 <;> split at h2
    · exact h.ti.ap i j (by assumption) (by assumption) hne g h1 h2
    · exact ha i (j - ns.length) (by assumption) (by omega) g h1 h2
    · exact ha j (i - ns.length) (by assumption) (by omega) g h2 h1
    · exact hpw (i - ns.length) (j - ns.length) (by omega) (by omega) (by omega) g h1 h2
  · rw [getD_app, hlv] at h1
    split at h1
    · exact h.far j (by assumption) g h1
    · exact hp (j - ns.length) (by omega) g h1
/-- A row more. -/
theorem OU.push (h : OU base P W v vs ns) {x : Value} {c : List Nat} (hr : RowB 5 base W x c) (hp : ∀ g, x.ownBlock = some g → P g)
    (ha : ∀ j, j < ns.length → ∀ g, (vs.getD j undef).ownBlock = some g → x.ownBlock ≠ some g) (hown : RowV 22 base W' v' (vs ++ [x])) (hg : W.grownBy W' v.ownBlock) : OU base P W' v' (vs ++ [x]) (ns ++ [c.length]) := by
  refine h.cat (ys := [x]) (ps := [c]) rfl (fun i hi => ?_) (fun i j hi hj hne => ?_) (fun i hi => ?_) (fun j i hj hi => ?_) hown hg
  · obtain rfl : i = 0 := by simpa using hi
    exact hr
  · simp at hi hj; omega
  · obtain rfl : i = 0 := by simpa using hi
    exact hp
  · obtain rfl : i = 0 := by simpa using hi
    exact ha j hj
/-- The rows of a scan, as values. -/
theorem RowsV.open {ps : List (List Nat)} (h : RowsV base W v ps) : ∃ ys : List Value, RowV 22 base W v ys ∧ ys.length = ps.length ∧ (∀ i, i < ps.length → RowB 5 base W (ys.getD i undef) (ps.getD i [])) ∧ (∀ i j, i < ps.length → j < ps.length → i ≠ j → ∀ g, (ys.getD i undef).ownBlock = some g → (ys.getD j undef).ownBlock ≠ some g) := by
  obtain ⟨ys, h1, h2, h3, h4⟩ := h.row
  refine ⟨ys, h1, h2, fun i hi => ?_, fun i j hi hj hne g e1 e2 => ?_⟩
  · have := h3 (ys[i]'(by omega), ps[i]) (by rw [List.mem_iff_getElem]; exact ⟨i, by rw [List.length_zip]; omega, by simp⟩)
    simp only at this
    rw [List.getD_eq_getElem?_getD, List.getD_eq_getElem?_getD, List.getElem?_eq_getElem (by omega), List.getElem?_eq_getElem hi]
    exact this
  · rw [List.pairwise_iff_getElem] at h4
    rw [List.getD_eq_getElem?_getD, List.getElem?_eq_getElem (by omega)] at e1 e2
    rcases Nat.lt_or_gt_of_ne hne with hlt | hlt
    · exact h4 i j (by omega) (by omega) hlt g e1 e2
    · exact h4 j i (by omega) (by omega) hlt g e2 e1
theorem Marked.later (h : Marked W v vs ns) (b : Below W.heap.size W W') : Marked W' v vs ns := by
  obtain ⟨ao, c, e, hc, H⟩ := h
  refine ⟨ao, c, e, hc, fun i hi => ?_⟩
  obtain ⟨g, o, a', c', h1, h2, h3, h4⟩ := H i hi
  refine ⟨g, o, a', c', h1, (b.cell (p := ⟨g, o + i, none⟩) ?_).trans h2, h3, Rd.later h4 b⟩
  rcases Nat.lt_or_ge g W.heap.size with h | h
  · exact h
  · simp [World.cell?, Array.getElem?_eq_none h] at h2
end Go.Proofs.YteflbdlfjebccaaDoor
