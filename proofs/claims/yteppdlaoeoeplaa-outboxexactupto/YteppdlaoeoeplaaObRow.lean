/-
  Ours: rows of structs that grow, each with bytes in memory of its own.
-/
import Derived.Test.YteppdlaoeoeplaaObBox
import Derived.Deep.AppendLies
namespace Go.Proofs.Yteppdlaoeoeplaa
open Go.RowKit ObM LedM PolM

/-- 'v = append(v, x)' where x has k cells. -/
theorem wpList_pushR {P : Program} {wr : World} {ops : Array Oper} {rest : List Oper} {o : Oper} {a : Act} {Q : Exit → Act → World → Prop} (hgd : o.guard = none) (s x : Operand) (t : TypeId)
    (ho : o.op = .call { callee := .builtin .append, args := #[s, x], argTypes := #[t, t] })
    (e : TypeId) (i : TypeInfo) (z : Value) (k by' : Nat) (ht : P.underlying t = some (.slice e)) (hi : P.info? e = some i) (hz : i.zero = some z) (hsize : i.size = k) (hby : i.bytes = by') (hzc : z.cells.size = k) (hk : 0 < k)
    (base : Nat) (v : Value) (n : Nat) (vs cs : List Value) (hc : cs.length = k) (hy : ∀ u ∈ cs, u.oneCell' = true) (hs : a.eval s = v) (hown : wr.ownsRow base e k v n vs) (hsz : base ≤ wr.heap.size)
    (hx : a.eval x = .slice (some ⟨wr.heap.size, 0, none⟩) 1 1) (hl : n + 1 ≤ maxLen) (hl2 : (n + 1) * by' ≤ 140737488355328)
    (h : ∀ a' n' c' w', w'.ownsRow base e k (.slice a' n' c') (n + 1) (vs ++ cs) → wr.grownBy w' v.ownBlock → (∀ g, (Value.slice a' n' c').ownBlock = some g → v.ownBlock = some g ∨ wr.heap.size ≤ g) → wpList P ops Q rest (a.put o.dst (.slice a' n' c')) w') :
    wpList P ops Q (o :: rest) a (wr.alloc (.cells cs.toArray e)) := by
  have hW : (wr.alloc (.cells cs.toArray e)).heap.size = wr.heap.size + 1 := by simp
  refine wpList_append_lies _ hgd s x t ho base e i z k by' ht hi hz hsize hby hzc hk v n vs hs (World.ownsRow.alloc hown _) ⟨wr.heap.size, 0, none⟩ 1 1 cs hx (by omega) ?_ hy (by decide) hl hl2 (by omega) (wr.heap.size + 1) hW ?_
  · intro j u hj
    exact World.news_of_block (cs := cs.toArray) (t := e) (fr := (0, 0)) (MapKept.heap_alloc wr _).1 j u (by simpa using hj)
  · intro g cap w' hown' hgrow hg _
    refine h _ _ _ w' hown' ⟨hgrow.os, hgrow.tape, hgrow.output, Nat.le_trans (by simp) hgrow.size, fun k hk hn => ?_⟩ (fun g' e' => ?_)
    · rw [hgrow.block k (by omega) hn]
      exact (below_alloc wr (.cells cs.toArray e)).block k hk
    · have : g = g' := by simpa [Value.ownBlock] using e'
      subst this
      rcases hg with h1 | h1
      · exact .inl h1
      · exact .inr (by omega)
namespace ObM
/-- A packet; where its bytes lie, and the bytes. -/
structure Pk where
  id : Int
  ba : Option Addr
  bn : Nat
  bc : Nat
  bs : List Nat
abbrev Pk.bv (p : Pk) : Value := .slice p.ba p.bn p.bc
def pkL (p : Pk) : List Value := [.bool false, .int .i64 p.id, .slice p.ba p.bn p.bc]
end ObM
theorem pkL_one (p : Pk) : ∀ v ∈ pkL p, v.oneCell' = true := pkO_one p.id p.ba p.bn p.bc
theorem fl_snoc {α : Type} (f : α → List Value) (xs : List α) (x : α) : (xs ++ [x]).flatMap f = xs.flatMap f ++ f x := by simp
/-- A row of structs in memory of one's own, each with bytes in memory of its own. -/
structure Outs {α : Type} (e : TypeId) (k : Nat) (f : α → List Value) (bv : α → Value) (bs : α → List Nat) (base : Nat) (w : World) (v : Value) (xs : List α) : Prop where
  row : w.ownsRow base e k v xs.length (xs.flatMap f)
  bd : ∀ p ∈ xs, RowB 5 base w (bv p) (bs p)
  ap : xs.Pairwise (fun p q => ∀ g, (bv p).ownBlock = some g → (bv q).ownBlock ≠ some g)
section
variable {α : Type} {e : TypeId} {k : Nat} {f : α → List Value} {bv : α → Value} {bs : α → List Nat} {base : Nat} {w w' : World} {v : Value} {xs : List α}
theorem Outs.nil (e : TypeId) (k : Nat) (f : α → List Value) (bv : α → Value) (bs : α → List Nat) (base : Nat) (w : World) : Outs e k f bv bs base w (.slice none 0 0) [] := ⟨World.ownsRow_nil _ _ _ _, (fun p hp => by cases hp), List.Pairwise.nil⟩
theorem Outs.kp {M : Nat → Prop} (h : Outs e k f bv bs base w v xs) (q : Kp M w w') (hM : ∀ g, base ≤ g → ¬ M g) : Outs e k f bv bs base w' v xs :=
  ⟨own_kp h.row q (fun g hg => hM g (own_heap h.row hg).1), fun p hp => (h.bd p hp).kp q (fun g hg => hM g (RowV.block_ge (h.bd p hp) hg)), h.ap⟩
theorem Outs.below (h : Outs e k f bv bs base w v xs) (b : Below w.heap.size w w') : Outs e k f bv bs base w' v xs := h.kp (Kp.of_below b (fun _ => False)) (fun _ _ q => q)
theorem Outs.push (h : Outs e k f bv bs base w v xs) (he : e ≠ 5) {w1 w2 : World} {x : α} {v' : Value} (b : Below w.heap.size w w1) (hB : base ≤ w.heap.size) (hr : RowB 5 w.heap.size w1 (bv x) (bs x))
    (own' : w2.ownsRow base e k v' (xs.length + 1) (xs.flatMap f ++ f x)) (gr : w1.grownBy w2 v.ownBlock) : Outs e k f bv bs base w2 v' (xs ++ [x]) := by
  have ne : ∀ {y : Value} {ys : List Nat} {bb : Nat}, RowB 5 bb w1 y ys → ∀ g, y.ownBlock = some g → v.ownBlock ≠ some g := fun {y ys bb} r g hg q => by
    obtain ⟨_, c1, h1⟩ := own_heap r hg
    obtain ⟨_, c2, h2⟩ := own_heap (own_kp h.row (Kp.of_below b (fun _ => False)) (fun _ _ q => q)) q
    exact ne_ty h1 h2 (fun e' => he e'.symm) rfl
  refine ⟨?_, fun p hp => ?_, ?_⟩
  · rw [List.length_append, fl_snoc]; exact own'
  · rcases List.mem_append.1 hp with hp | hp
    · have r := RowV.later (h.bd p hp) b
      exact RowV.kept r gr (fun g hg q => ne r g hg q)
    · rw [List.mem_singleton.1 hp]
      exact RowV.mono (RowV.kept hr gr (fun g hg q => ne hr g hg q)) hB
  · rw [List.pairwise_append]
    refine ⟨h.ap, by simp, fun p hp y hy g hg q => ?_⟩
    rw [List.mem_singleton.1 hy] at q
    have := RowV.block_lt (h.bd p hp) hg
    have := RowV.block_ge hr q
    omega
/-- One of the structs, by its cells. -/
theorem Outs.len (h : Outs e k f bv bs base w v xs) : ∃ a c, v = .slice a xs.length c ∧ (a = none → xs = []) := by
  rcases h.row.2 with ⟨rfl, h0⟩ | ⟨g, cap, cur, rfl, _⟩
  · have : xs = [] := List.eq_nil_of_length_eq_zero h0
    subst this
    exact ⟨none, 0, rfl, fun _ => rfl⟩
  · exact ⟨_, cap, rfl, fun h => by cases h⟩
end
abbrev OutP := Outs (α := Pk) 67 3 pkL Pk.bv Pk.bs
abbrev OutQ := Outs (α := En) 72 4 enL En.bv En.bs
theorem infoPk : (Try.prog.info? 67).map (fun i => (i.zero, i.size, i.bytes)) = some (some (.agg #[.bool false, .int .i64 0, .slice none 0 0]), 3, 40) := by kernel_rfl
theorem infoPn : (Try.prog.info? 72).map (fun i => (i.zero, i.size, i.bytes)) = some (some (.agg #[.int .i64 0, .int .i64 0, .int .i64 0, .slice none 0 0]), 4, 48) := by kernel_rfl
theorem enL_len (e : En) : (enL e).length = 4 := rfl
theorem pkL_len (p : Pk) : (pkL p).length = 3 := rfl
end Go.Proofs.Yteppdlaoeoeplaa
