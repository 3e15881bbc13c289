/-
  Ours: the reference's Lines.
-/
import Derived.Test.YtkjnklagjhhhkaaScLns
import Derived.Test.YtkjnklagjhhhkaaWirNear
namespace Go.Proofs.Ytkjnklagjhhhkaa
open Go.RowKit

/-- Rows of bytes and one more row, apart from them. -/
structure RfR (base : Nat) (wr : World) (vo vl : Value) (ls : List (List Nat)) (cur : List Nat) : Prop where
  row : ∃ vs : List Value, RowV 22 base wr vo vs ∧ vs.length = ls.length ∧ (∀ x ∈ vs.zip ls, RowB 5 base wr x.1 x.2) ∧ vs.Pairwise (fun a b => ∀ g, a.ownBlock = some g → b.ownBlock ≠ some g) ∧ ∀ y ∈ vs, ∀ g, y.ownBlock = some g → vl.ownBlock ≠ some g
  line : RowB 5 base wr vl cur
theorem RfR.rows {base : Nat} {wr : World} {vo vl : Value} {ls : List (List Nat)} {cur : List Nat} (h : RfR base wr vo vl ls cur) : RowsV base wr vo ls := by
  obtain ⟨vs, h1, h2, h3, h4, -⟩ := h.row
  exact ⟨vs, h1, h2, h3, h4⟩
theorem RfR.cleared {base : Nat} {wr : World} {vo vl : Value} {ls : List (List Nat)} {cur : List Nat} (h : RfR base wr vo vl ls cur) : RfR base wr vo (.slice none 0 0) ls [] := by
  obtain ⟨vs, h1, h2, h3, h4, -⟩ := h.row
  exact ⟨⟨vs, h1, h2, h3, h4, fun y _ g _ e => by simp [Value.ownBlock] at e⟩, RowV.nil _ _ _⟩
theorem RfR.of_rows {base : Nat} {wr : World} {vo : Value} {ls : List (List Nat)} (h : RowsV base wr vo ls) : RfR base wr vo (.slice none 0 0) ls [] := by
  obtain ⟨vs, h1, h2, h3, h4⟩ := h.row
  exact ⟨⟨vs, h1, h2, h3, h4, fun y _ g _ e => by simp [Value.ownBlock] at e⟩, RowV.nil _ _ _⟩
/-- A byte more in the line. -/
theorem RfR.grow {base : Nat} {wr w1 : World} {vo vl v' : Value} {ls : List (List Nat)} {cur : List Nat} {c : Nat} (h : RfR base wr vo vl ls cur) (r : RowB 5 base w1 v' (cur ++ [c])) (g : wr.grownBy w1 vl.ownBlock) (n : Near wr vl v') : RfR base w1 vo v' ls (cur ++ [c]) := by
  obtain ⟨vs, h1, h2, h3, h4, h5⟩ := h.row
  refine ⟨⟨vs, RowV.kept h1 g (fun q hq e => rows_ne h1 h.line (by decide) hq e), h2, fun x hx => RowV.kept (h3 x hx) g (fun q hq e => h5 x.1 (List.of_mem_zip hx).1 q hq e), h4, fun y hy q hq e => ?_⟩, r⟩
  rcases n q e with e' | e'
  · exact h5 y hy q hq e'
  · obtain ⟨z, hz⟩ := zip_mem h2 hy
    have := (h3 _ hz).block_lt hq
    omega
/-- The line put behind the rows. -/
theorem RfR.put {base : Nat} {wr w1 : World} {vo vl v' : Value} {ls : List (List Nat)} {cur : List Nat} {vs : List Value} (h1 : RowV 22 base wr vo vs) (h2 : vs.length = ls.length) (h3 : ∀ x ∈ vs.zip ls, RowB 5 base wr x.1 x.2) (h4 : vs.Pairwise (fun a b => ∀ g, a.ownBlock = some g → b.ownBlock ≠ some g)) (h5 : ∀ y ∈ vs, ∀ g, y.ownBlock = some g → vl.ownBlock ≠ some g) (hl : RowB 5 base wr vl cur) (r : RowV 22 base w1 v' (vs ++ [vl])) (g : wr.grownBy w1 vo.ownBlock) : RfR base w1 v' (.slice none 0 0) (ls ++ [cur]) [] :=
  RfR.of_rows (RowsV.push h1 h2 h3 h4 hl h5 r g)

structure RfI (bs : List Nat) (w : World) (vo vl : Value) (i : Nat) (ls : List (List Nat)) (cur : List Nat) (wr : World) : Prop where
  r : RfR w.heap.size wr vo vl ls cur
  bel : Below w.heap.size w wr
  le : i ≤ bs.length + 1
  a : i ≤ bs.length → ls ++ ScM.lnsA cur (bs.drop i) = ScM.lns bs
  b : i = bs.length + 1 → ls = ScM.lns bs
  cl : cur.length ≤ i
theorem RfI.cnt {bs cur : List Nat} {w wr : World} {vo vl : Value} {i : Nat} {ls : List (List Nat)} (h : RfI bs w vo vl i ls cur wr) : ls.length ≤ bs.length := by
  have h1 := ScM.lns_len bs
  by_cases hi : i ≤ bs.length
  · have := congrArg List.length (h.a hi); simp at this; omega
  · rw [h.b (by have := h.le; omega)]; exact h1
theorem drop_next {bs : List Nat} {i : Nat} (h : i < bs.length) : bs.drop i = bs.getD i 0 :: bs.drop (i + 1) := by
  rw [List.getD_eq_getElem?_getD, List.getElem?_eq_getElem h]
  exact List.drop_eq_getElem_cons h
/-- A byte is taken on. -/
theorem RfI.grow {bs cur : List Nat} {w wr w1 : World} {vo vl v' : Value} {i : Nat} {ls : List (List Nat)} (h : RfI bs w vo vl i ls cur wr) (hi : i < bs.length) (hc : ¬ bs.getD i 0 = 10) (r : RowB 5 w.heap.size w1 v' (cur ++ [bs.getD i 0])) (g : wr.grownBy w1 vl.ownBlock) (n : Near wr vl v') : RfI bs w vo v' (i + 1) ls (cur ++ [bs.getD i 0]) w1 := by
  refine ⟨h.r.grow r g n, below_grown h.bel h.r.line (Nat.le_refl _) h.bel.size g, by omega, fun _ => ?_, (fun e => by omega), by have := h.cl; simp; omega⟩
  have := h.a (by omega)
  rw [drop_next hi, ScM.lnsA, if_neg hc] at this
  exact this
/-- A line ends. -/
theorem RfI.ends {bs cur : List Nat} {w wr w1 : World} {vo vl v' : Value} {i : Nat} {ls ls' : List (List Nat)} (h : RfI bs w vo vl i ls cur wr) (hi : i ≤ bs.length) (hc : i < bs.length → bs.getD i 0 = 10) (hk : ls' = ls ++ ScM.keep cur) (r : RfR w.heap.size w1 v' (.slice none 0 0) ls' []) (b : Below w.heap.size w w1) : RfI bs w v' (.slice none 0 0) (i + 1) ls' [] w1 := by
  have ha := h.a hi
  refine ⟨r, b, by omega, fun hl => ?_, fun e => ?_, by simp⟩
  · have hi' : i < bs.length := by omega
    rw [drop_next hi', hc hi', ScM.lnsA, if_pos rfl, ← List.append_assoc] at ha
    rw [hk]; exact ha
  · have hi' : i = bs.length := by omega
    subst hi'
    rw [List.drop_length, ScM.lnsA] at ha
    rw [hk]; exact ha

end Go.Proofs.Ytkjnklagjhhhkaa
