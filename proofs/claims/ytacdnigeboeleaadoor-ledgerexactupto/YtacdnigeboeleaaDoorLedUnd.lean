/-
  Ours: the Reverse takes a posting back: LedgerUndoes.
-/
import Derived.Test.YtacdnigeboeleaaDoorLedKept
import Derived.Test.YtacdnigeboeleaaDoorLedPure
import Derived.Test.YtacdnigeboeleaaDoorLedRev
import Derived.Deep.CutRange
namespace Go.Proofs.YtacdnigeboeleaaDoor
open Go.RowKit LedM

namespace LedM
theorem entE_swap (e : Ent) : entE (swapE e) = entE e := by
  have a : (e.c == e.d) = (e.d == e.c) := by cases h : e.d == e.c <;> simp at h ⊢ <;> omega
  unfold entE swapE
  simp only [a]
  cases isA e.c <;> cases isA e.d <;> rfl
theorem mem_revE {es : List Ent} {e : Ent} (h : e ∈ revE es) : ∃ x ∈ es, e = swapE x := by
  unfold revE at h
  rw [List.mem_reverse] at h
  obtain ⟨x, hx, rfl⟩ := List.mem_map.1 h
  exact ⟨x, hx, rfl⟩
theorem fault_rev {es : List Ent} (h : faultE es = 0) : faultE (revE es) = 0 := fault_all fun e he => by
  obtain ⟨x, hx, rfl⟩ := mem_revE he
  rw [entE_swap]; exact fault_zero h x hx
theorem ok_rev {es : List Ent} (h : ∀ e ∈ es, EntOk e) : ∀ e ∈ revE es, EntOk e := fun e he => by
  obtain ⟨x, hx, rfl⟩ := mem_revE he
  have := h x hx
  exact ⟨this.2.1, this.1, this.2.2⟩
theorem mv_rev : ∀ (es : List Ent) (j : Int), mv (revE es) j = -mv es j
  | [], j => rfl
  | e :: r, j => by
    have e1 : revE (e :: r) = revE r ++ [swapE e] := by simp [revE]
    have e2 : mv (e :: r) j = mv1 e j + mv r j := rfl
    rw [e1, mv_push, mv_rev r j, e2]
    unfold mv1 swapE
    simp only
    omega
theorem moved_nil (l : List Int) (h : l.length = 12) : moved l [] = l := ext12 (moved_len _ _) h (fun j hj => by rw [moved_at _ _ j hj]; simp [mv, total])
theorem moved_rev (l : List Int) (es : List Ent) (h : l.length = 12) : moved (moved l es) (revE es) = l := by
  rw [moved_moved]
  exact ext12 (moved_len _ _) h (fun j hj => by rw [moved_at _ _ j hj, mv_append, mv_rev]; omega)
theorem post_undo {l : List Int} {es : List Ent} (hl : l.length = 12) (h0 : postE l [] = 0) (h1 : postE l es = 0) : postE (postB l es) (revE es) = 0 ∧ postB (postB l es) (revE es) = l := by
  rw [postB_zero h1]
  obtain ⟨_, a, b, c⟩ := postE_zero.1 h0
  rw [moved_nil l hl] at a b c
  have z : postE (moved l es) (revE es) = 0 := postE_zero.2 ⟨fault_rev (es := es) (postE_zero.1 h1).1, by rw [moved_rev l es hl]; exact a, by rw [moved_rev l es hl]; exact b, by rw [moved_rev l es hl]; exact c⟩
  exact ⟨z, by rw [postB_zero z, moved_rev l es hl]⟩
end LedM
theorem op_put {ops : Array Oper} {op : Oper} {a : Act} {w wr : World} {K : Act → World → Prop} {Q : Exit → Act → World → Prop} {E : Prop} {bs : List (Nat × List Int)} (hK : Kept w bs wr) (l : List Int) (hl : l.length = 12) (hgd : op.guard = Option.none) (x y : Operand) (ho : op.op = .store 25 x y)
    (G : Nat) (hx : a.eval x = .pointer (some ⟨G, 0, Option.none⟩)) (hy : a.eval y = .agg (bkL l).toArray) (hb : Blk G 25 (bkL zeroL) wr) (hG : ∀ p ∈ bs, p.1 < G) (hw : w.heap.size ≤ G)
    (h : ∀ w', Kept w ((G, l) :: bs) w' → Kept w bs w' → K (a.put op.dst undef) w') : if Region.wanted op (yielded ops a.tmps) = true then Oper.wp Tryd.prog op a wr K Q else E := by
  have hwd : Region.wanted op (yielded ops a.tmps) = true := by simp [Region.wanted, hgd]
  rw [if_pos hwd]
  unfold Oper.wp execOp
  simp only [ho, hx, hy, Instr.storeAt, Instr.sureAddr, Sem.run_bind, Sem.run_pure, Result.andThen_ok, run_storeVar_blk wr G 0 25 25 (bkL zeroL) (bkL l) hb (by rw [bkL_len, hl]; exact Nat.le_refl _) (infoBl hl) (bkL_one _)]
  have nb := setRow_heap wr G _ ((bkL zeroL).take 0 ++ bkL l ++ (bkL zeroL).drop (0 + (bkL l).length)).toArray 25 _ hb
  have g := setRow_grown wr G ((bkL zeroL).take 0 ++ bkL l ++ (bkL zeroL).drop (0 + (bkL l).length)).toArray
  have hG2 := hK.grown g (fun g' e => by cases e; exact ⟨hw, hG⟩)
  refine h _ ⟨hG2.bb, fun p hp => ?_⟩ hG2
  rcases List.mem_cons.1 hp with rfl | hp
  · exact ⟨hw, hl, by rw [store_all (by rw [bkL_len, hl]; rfl)] at nb ⊢; exact nb⟩
  · exact hG2.bk p hp
theorem RdE.none (w : World) : RdE w (.slice none 0 0) [] := ⟨Option.none, 0, rfl, Nat.le_refl _, fun _ => rfl, fun i hi => by simp at hi⟩

end Go.Proofs.YtacdnigeboeleaaDoor
