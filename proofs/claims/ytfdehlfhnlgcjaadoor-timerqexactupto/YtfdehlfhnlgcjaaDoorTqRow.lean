/-
  Ours: how a queue lies in memory; lay.
-/
import Derived.Test.YtfdehlfhnlgcjaaDoorTqCmp
import Derived.Test.YtfdehlfhnlgcjaaDoorAgCat
import Derived.Test.YtfdehlfhnlgcjaaDoorFrmApp
namespace Go.Proofs.YtfdehlfhnlgcjaaDoor
open Go.RowKit TqM

namespace TQ
def tmL (t : Ky × Int) : List Value := [.int .i64 t.1.d, .int .i64 t.1.l, .int .i64 t.1.n, .int .i64 t.2]
abbrev tmV (t : Ky × Int) : Value := .agg #[.int .i64 t.1.d, .int .i64 t.1.l, .int .i64 t.1.n, .int .i64 t.2]
def hpL (hp : List (Ky × Int)) : List Value := hp.flatMap tmL
theorem hpL_len : ∀ hp : List (Ky × Int), (hpL hp).length = hp.length * 4
  | [] => rfl
  | e :: r => by
    have := hpL_len r
    simp only [hpL, List.flatMap_cons, List.length_append, List.length_cons] at this ⊢
    rw [show (tmL e).length = 4 from rfl]; omega
theorem hpL_append (a b : List (Ky × Int)) : hpL (a ++ b) = hpL a ++ hpL b := by simp [hpL]
theorem tmL_one (t : Ky × Int) : ∀ v ∈ tmL t, v.oneCell' = true := fun v h => by
  simp [tmL] at h
  rcases h with rfl | rfl | rfl | rfl <;> rfl
theorem hpL_one (hp : List (Ky × Int)) : ∀ v ∈ hpL hp, v.oneCell' = true := fun v hv => by
  obtain ⟨e, _, h⟩ := List.mem_flatMap.1 hv
  exact tmL_one e v h
theorem hpL_at : ∀ (hp : List (Ky × Int)) (i j : Nat) (t : Ky × Int), hp[i]? = some t → j < 4 → (hpL hp)[i * 4 + j]? = (tmL t)[j]?
  | e :: r, 0, j, t, h, hj => by
    simp at h
    subst h
    rw [Nat.zero_mul, Nat.zero_add]
    show (tmL e ++ hpL r)[j]? = _
    rw [List.getElem?_append_left (by simpa [tmL] using hj)]
  | e :: r, i + 1, j, t, h, hj => by
    have ih := hpL_at r i j t (by simpa using h) hj
    show (tmL e ++ hpL r)[(i + 1) * 4 + j]? = _
    rw [List.getElem?_append_right (by simp [tmL]; omega)]
    rw [show (i + 1) * 4 + j - (tmL e).length = i * 4 + j from by simp [tmL]; omega, ih]
theorem hpL_set : ∀ (hp : List (Ky × Int)) (i : Nat) (t : Ky × Int), i < hp.length → (hpL hp).take (i * 4) ++ tmL t ++ (hpL hp).drop (i * 4 + 4) = hpL (hp.set i t)
  | e :: r, 0, t, _ => by simp [hpL, tmL]
  | e :: r, i + 1, t, h => by
    have := hpL_set r i t (by simpa using h)
    rw [show (i + 1) * 4 = i * 4 + 1 + 1 + 1 + 1 from by omega]
    simpa [hpL, tmL] using this
theorem hpL_take : ∀ (hp : List (Ky × Int)) (i : Nat), (hpL hp).take (i * 4) = hpL (hp.take i)
  | [], i => by simp [hpL]
  | e :: r, 0 => by simp [hpL]
  | e :: r, i + 1 => by
    have := hpL_take r i
    rw [show (i + 1) * 4 = i * 4 + 1 + 1 + 1 + 1 from by omega]
    simpa [hpL, tmL] using this
theorem infoM (t : Ky × Int) : (Tryd.prog.info? 63).map (·.size) = some (tmL t).length := by show _ = some 4; kernel_rfl

/-- The heap's row. -/
abbrev RowT (w : World) (v : Value) (hp : List (Ky × Int)) : Prop := w.ownsRow 0 63 4 v hp.length (hpL hp)
/-- A row whose block is known. -/
structure RowG (g n cap : Nat) (hp : List (Ky × Int)) (cur : List Value) (w : World) : Prop where
  len : hp.length = n
  blk : Blk g 63 cur w
  le : n ≤ cap
  max : cap ≤ maxLen
  size : cur.length = cap * 4
  take : cur.take (n * 4) = hpL hp
theorem RowG.row {g n cap : Nat} {hp : List (Ky × Int)} {cur : List Value} {w : World} (h : RowG g n cap hp cur w) : RowT w (.slice (some ⟨g, 0, none⟩) n cap) hp := by
  refine ⟨hpL_len hp, .inr ⟨g, cap, cur.toArray, by rw [h.len], Nat.zero_le _, h.blk, by rw [h.len]; exact h.le, h.max, by simpa using h.size, ?_⟩⟩
  rw [h.len]; exact h.take
theorem RowT.open {w : World} {v : Value} {hp : List (Ky × Int)} (h : RowT w v hp) : (v = .slice none 0 0 ∧ hp = []) ∨ ∃ g n cap cur, v = .slice (some ⟨g, 0, none⟩) n cap ∧ RowG g n cap hp cur w := by
  rcases h.2 with ⟨h1, h2⟩ | ⟨g, cap, cur, h1, _, h2, h3, h4, h5, h6⟩
  · exact .inl ⟨h1, List.eq_nil_of_length_eq_zero h2⟩
  · exact .inr ⟨g, hp.length, cap, cur.toList, h1, rfl, h2, h3, h4, by simpa using h5, h6⟩
theorem RowG.cell {g n cap : Nat} {hp : List (Ky × Int)} {cur : List Value} {w : World} (h : RowG g n cap hp cur w) {i : Nat} {t : Ky × Int} (hi : hp[i]? = some t) (j : Nat) (u : Value) (hu : (tmL t)[j]? = some u) : w.cell? ⟨g, i * 4 + j, none⟩ = some u := by
  have hl := (List.getElem?_eq_some_iff.1 hi).1
  have hj : j < 4 := (List.getElem?_eq_some_iff.1 hu).1
  refine h.blk.cell _ _ ?_
  have := hpL_at hp i j t hi hj
  rw [← h.take, List.getElem?_take, if_pos (by have := h.len; omega), hu] at this
  exact this
theorem RowG.range {g n cap : Nat} {hp : List (Ky × Int)} {cur : List Value} {w : World} (h : RowG g n cap hp cur w) {i : Nat} {t : Ky × Int} (hi : hp[i]? = some t) : w.rangeAt g (i * 4) (tmL t) := fun j u hu => h.cell hi j u hu
theorem RowG.rangeK {g n cap : Nat} {hp : List (Ky × Int)} {cur : List Value} {w : World} (h : RowG g n cap hp cur w) {i : Nat} {t : Ky × Int} (hi : hp[i]? = some t) : w.rangeAt g (i * 4) (kyL t.1) := fun j u hu => by
  have hj : j < 3 := (List.getElem?_eq_some_iff.1 hu).1
  refine h.cell hi j u ?_
  rcases j with _ | _ | _ | j
  · exact hu
  · exact hu
  · exact hu
  · omega
theorem RowG.store {g n cap : Nat} {hp : List (Ky × Int)} {cur : List Value} {w w' : World} (h : RowG g n cap hp cur w) {i : Nat} {t : Ky × Int} (hi : i < n) (hb : Blk g 63 (cur.take (i * 4) ++ tmL t ++ cur.drop (i * 4 + (tmL t).length)) w') :
    RowG g n cap (hp.set i t) (cur.take (i * 4) ++ tmL t ++ cur.drop (i * 4 + (tmL t).length)) w' := by
  have e4 : (tmL t).length = 4 := rfl
  have hs := h.size
  have hle := h.le
  refine ⟨by simp [h.len], hb, h.le, h.max, ?_, ?_⟩
  · simp only [List.length_append, List.length_take, List.length_drop, e4]; omega
  · rw [← hpL_set hp i t (by have := h.len; omega), ← h.take, e4]
    rw [List.take_append, List.take_append]
    simp only [List.length_append, List.length_take, e4]
    rw [List.take_take, List.take_take, List.drop_take, show min (n * 4) (i * 4) = i * 4 from by omega, show min (i * 4) (n * 4) = i * 4 from by omega]
    congr 1
    · congr 1
      exact List.take_of_length_le (by rw [e4]; omega)
    · congr 1
      omega
theorem set4 (a b c d : Value) : ∀ (o : Nat) (cur : List Value), o + 4 ≤ cur.length → (((cur.set o a).set (o + 1) b).set (o + 2) c).set (o + 3) d = cur.take o ++ [a, b, c, d] ++ cur.drop (o + 4)
  | 0, x :: y :: z :: u :: r, _ => by simp
  | 0, [], h => by simp at h
  | 0, [_], h => by simp at h
  | 0, [_, _], h => by simp at h
  | 0, [_, _, _], h => by simp at h
  | o + 1, [], h => by simp at h
  | o + 1, x :: r, h => by
    have := set4 a b c d o r (by simpa using h)
    simpa using this
/-- Four cells written, one by one. -/
theorem RowG.set4 {g n cap : Nat} {hp : List (Ky × Int)} {cur : List Value} {w : World} (h : RowG g n cap hp cur w) {i : Nat} (t : Ky × Int) (hi : i < n) :
    ∃ cur', RowG g n cap (hp.set i t) cur' ((((w.setCell ⟨g, i * 4, none⟩ (.int .i64 t.1.d)).setCell ⟨g, i * 4 + 1, none⟩ (.int .i64 t.1.l)).setCell ⟨g, i * 4 + 2, none⟩ (.int .i64 t.1.n)).setCell ⟨g, i * 4 + 3, none⟩ (.int .i64 t.2)) := by
  have b4 := (((h.blk.set (i := i * 4) (.int .i64 t.1.d)).set (i := i * 4 + 1) (.int .i64 t.1.l)).set (i := i * 4 + 2) (.int .i64 t.1.n)).set (i := i * 4 + 3) (.int .i64 t.2)
  rw [TQ.set4 _ _ _ _ _ _ (by have := h.size; have := h.le; omega)] at b4
  exact ⟨_, h.store hi b4⟩
theorem set4_grown (w : World) (g o : Nat) (a b c d : Value) : w.grownBy ((((w.setCell ⟨g, o, none⟩ a).setCell ⟨g, o + 1, none⟩ b).setCell ⟨g, o + 2, none⟩ c).setCell ⟨g, o + 3, none⟩ d) (some g) :=
  grownBy_trans (grownBy_trans (grownBy_trans (setCell_grown _ _ _ _) (setCell_grown _ _ _ _)) (setCell_grown _ _ _ _)) (setCell_grown _ _ _ _)
theorem RowG.kept {g n cap : Nat} {hp : List (Ky × Int)} {cur : List Value} {w w' : World} (h : RowG g n cap hp cur w) (hb : w'.heap[g]? = w.heap[g]?) : RowG g n cap hp cur w' := ⟨h.len, hb.trans h.blk, h.le, h.max, h.size, h.take⟩
theorem RowT.same {w w' : World} {v : Value} {hp : List (Ky × Int)} (h : RowT w v hp) (hb : ∀ g, v.ownBlock = some g → w'.heap[g]? = w.heap[g]?) : RowT w' v hp := by
  refine ⟨h.1, ?_⟩
  rcases h.2 with hn | ⟨g, cap, cur, hv, hg, hh, rest⟩
  · exact .inl hn
  · exact .inr ⟨g, cap, cur, hv, hg, (hb g (by rw [hv]; rfl)).trans hh, rest⟩
end TQ

/-- What a call leaves: all blocks but those of M. -/
structure Kp (M : Nat → Prop) (w w' : World) : Prop where
  os : w'.os = w.os
  tape : w'.tape = w.tape
  output : w'.output = w.output
  size : w.heap.size ≤ w'.heap.size
  block : ∀ k, k < w.heap.size → ¬ M k → w'.heap[k]? = w.heap[k]?
theorem Kp.refl (M : Nat → Prop) (w : World) : Kp M w w := ⟨rfl, rfl, rfl, Nat.le_refl _, fun _ _ _ => rfl⟩
theorem Kp.trans {M N : Nat → Prop} {a b c : World} (h : Kp M a b) (k : Kp N b c) (hN : ∀ g, g < a.heap.size → N g → M g) : Kp M a c :=
  ⟨k.os.trans h.os, k.tape.trans h.tape, k.output.trans h.output, Nat.le_trans h.size k.size, fun i hi hm => (k.block i (Nat.lt_of_lt_of_le hi h.size) (fun hn => hm (hN i hi hn))).trans (h.block i hi hm)⟩
theorem Kp.mono {M N : Nat → Prop} {a b : World} (h : Kp M a b) (hN : ∀ g, g < a.heap.size → M g → N g) : Kp N a b := ⟨h.os, h.tape, h.output, h.size, fun i hi hm => h.block i hi (fun hn => hm (hN i hi hn))⟩
theorem Kp.of_grown {a b : World} {row : Option Nat} (h : a.grownBy b row) : Kp (fun g => row = some g) a b := ⟨h.os, h.tape, h.output, h.size, fun i hi hm => h.block i hi (fun e => hm e.symm)⟩
theorem Kp.of_below {a b : World} (h : Below a.heap.size a b) (M : Nat → Prop) : Kp M a b := ⟨h.os, h.tape, h.output, h.size, fun i hi _ => h.block i hi⟩
theorem Kp.below {a b : World} {M : Nat → Prop} (h : Kp M a b) (hM : ∀ g, M g → a.heap.size ≤ g) : Below a.heap.size a b := ⟨h.os, h.tape, h.output, h.size, fun i hi => h.block i hi (fun hm => by have := hM i hm; omega)⟩
theorem Kp.drewN {M : Nat → Prop} {w w' : World} (h : Kp M w w') (n : Nat) : Kp M w (w'.drewN n) := ⟨h.os, h.tape, h.output, h.size, h.block⟩
theorem Blk.kp {G : Nat} {ty : TypeId} {cs : List Value} {w w' : World} {M : Nat → Prop} (h : Blk G ty cs w) (k : Kp M w w') (hm : ¬ M G) : Blk G ty cs w' := (k.block G h.lt hm).trans h

/-- A value stored into a part of a block, in a region that draws its order. -/
theorem step_storeH {P : Program} {ops : Array Oper} {op : Oper} {a : Act} {w : World} {K : Act → World → Prop} {Q : Exit → Act → World → Prop} {E : Prop} (hgd : op.guard = none) (ty : TypeId) (x y : Operand) (ho : op.op = .store ty x y)
    (G o : Nat) (t : TypeId) (cs vs : List Value) (hx : a.eval x = .pointer (some ⟨G, o, none⟩)) (hy : a.eval y = .agg vs.toArray)
    (hb : Blk G t cs w) (hfit : o + vs.length ≤ cs.length) (hi : (P.info? ty).map (·.size) = some vs.length) (h1 : ∀ v ∈ vs, v.oneCell' = true)
    (h : ∀ w', Blk G t (cs.take o ++ vs ++ cs.drop (o + vs.length)) w' → w.grownBy w' (some G) → K (a.put op.dst undef) w') :
    if Region.wanted op (yielded ops a.tmps) = true then Oper.wp P op a w K Q else E := by
  have hw : Region.wanted op (yielded ops a.tmps) = true := by simp [Region.wanted, hgd]
  rw [if_pos hw]
  unfold Oper.wp execOp
  simp only [ho, hx, hy, Instr.storeAt, Instr.sureAddr, Sem.run_bind, Sem.run_pure, Result.andThen_ok, run_storeVar_blk w G o t ty cs vs hb hfit hi h1]
  exact h _ (setRow_heap w G _ _ t _ hb) (setRow_grown w G _)
/-- 'm[k] = i' in a region that draws its order. -/
theorem step_mapH {ops : Array Oper} {op : Oper} {a : Act} {w : World} {K : Act → World → Prop} {Q : Exit → Act → World → Prop} {E : Prop} (hgd : op.guard = none) (x y z : Operand) (ho : op.op = .mapUpdate 51 x y z)
    (b : Nat) (f : Ky → Option Nat) (k : Ky) (i : Nat) (hx : a.eval x = .map (some b)) (hy : a.eval y = kyV k) (hz : a.eval z = .int .i64 (i : Int)) (hm : MapAt b f w)
    (h : ∀ w', MapAt b (upd f k (some i)) w' → w.grownBy w' (some b) → K (a.put op.dst undef) w') :
    if Region.wanted op (yielded ops a.tmps) = true then Oper.wp Tryd.prog op a w K Q else E := by
  have hw : Region.wanted op (yielded ops a.tmps) = true := by simp [Region.wanted, hgd]
  rw [if_pos hw]
  obtain ⟨w', r1, r2, r3⟩ := hm.put k i
  unfold Oper.wp execOp
  simp only [ho, hx, hy, hz, Sem.run_bind, Sem.run_pure, Result.andThen_ok, r1]
  exact h _ r2 r3
/-- 'delete(m, k)' in a region that draws its order. -/
theorem step_delH {ops : Array Oper} {op : Oper} {a : Act} {w : World} {K : Act → World → Prop} {Q : Exit → Act → World → Prop} {E : Prop} (hgd : op.guard = none) (x y : Operand) (ho : op.op = .call { callee := .builtin .delete, args := #[x, y], argTypes := #[51, 24] })
    (b : Nat) (f : Ky → Option Nat) (k : Ky) (hx : a.eval x = .map (some b)) (hy : a.eval y = kyV k) (hm : MapAt b f w)
    (h : ∀ w', MapAt b (upd f k none) w' → w.grownBy w' (some b) → K (a.put op.dst (.tuple #[])) w') :
    if Region.wanted op (yielded ops a.tmps) = true then Oper.wp Tryd.prog op a w K Q else E := by
  have hw : Region.wanted op (yielded ops a.tmps) = true := by simp [Region.wanted, hgd]
  rw [if_pos hw]
  obtain ⟨w', r1, r2, r3⟩ := hm.del k op.type
  unfold Oper.wp execOp
  simp only [ho, resolve, invoke, builtin, Sem.run_bind, Sem.run_pure, Result.andThen_ok, List.map_toArray, List.map_cons, List.map_nil, hx, hy, r1]
  exact h _ r2 r3

namespace TQ
/-- A queue at R, its map at bm; S holds its blocks. -/
structure QV (R bm : Nat) (S : Nat → Prop) (hp : List (Ky × Int)) (f : Ky → Option Nat) (vh : Value) (w : World) : Prop where
  blk : Blk R 54 [vh, .map (some bm)] w
  row : RowT w vh hp
  mp : MapAt bm f w
  s : ∀ g, S g → g < w.heap.size
  sR : S R
  sm : S bm
  sv : ∀ g, vh.ownBlock = some g → S g ∧ g ≠ R
theorem QV.mR {R bm : Nat} {S : Nat → Prop} {hp : List (Ky × Int)} {f : Ky → Option Nat} {vh : Value} {w : World} (h : QV R bm S hp f vh w) : bm ≠ R := fun e => by
  obtain ⟨es, c, hm, _⟩ := h.mp
  have := h.blk
  unfold Blk at this
  rw [← e, hm] at this
  cases this
theorem QV.mv {R bm : Nat} {S : Nat → Prop} {hp : List (Ky × Int)} {f : Ky → Option Nat} {vh : Value} {w : World} (h : QV R bm S hp f vh w) {g : Nat} (hg : vh.ownBlock = some g) : g ≠ bm := fun e => by
  obtain ⟨es, c, hm, _⟩ := h.mp
  rcases h.row.open with ⟨rfl, _⟩ | ⟨g', n, cap, cur, rfl, r⟩
  · cases hg
  · have : g' = g := by simpa [Value.ownBlock] using hg
    have hb := r.blk
    unfold Blk at hb
    rw [this, e, hm] at hb
    cases hb
theorem QV.kp {R bm : Nat} {S M : Nat → Prop} {hp : List (Ky × Int)} {f : Ky → Option Nat} {vh : Value} {w w' : World} (h : QV R bm S hp f vh w) (k : Kp M w w') (hm : ∀ g, S g → ¬ M g) : QV R bm S hp f vh w' :=
  ⟨h.blk.kp k (hm R h.sR), h.row.same (fun g hg => k.block g (h.s g (h.sv g hg).1) (hm g (h.sv g hg).1)), h.mp.same (k.block bm h.mp.lt (hm bm h.sm)), fun g hg => Nat.lt_of_lt_of_le (h.s g hg) k.size, h.sR, h.sm, h.sv⟩
theorem QV.below {R bm : Nat} {S : Nat → Prop} {hp : List (Ky × Int)} {f : Ky → Option Nat} {vh : Value} {w w' : World} (h : QV R bm S hp f vh w) (hb : Below w.heap.size w w') : QV R bm S hp f vh w' := h.kp (Kp.of_below hb (fun _ => False)) (fun _ _ h => h)

theorem cell_grown {w w' : World} {x : Addr} {v : Value} {g : Nat} (b : w.grownBy w' (some g)) (hn : x.block ≠ g) (h : w.cell? x = some v) : w'.cell? x = some v := by
  have hl := World.block_lt_of_cell? _ _ h
  rw [← h]
  simp only [World.cell?, b.block x.block hl (fun e => hn (by injection e))]
/-- The queue's two cells, and a timer's four. -/
abbrev LS (R Q : Nat) (vh vm : Value) (k0 k1 k2 v : Int) (w : World) : Prop := w.cell? ⟨R, 0, none⟩ = some vh ∧ w.cell? ⟨R, 1, none⟩ = some vm ∧ w.cell? ⟨Q, 0, none⟩ = some (.int .i64 k0) ∧ w.cell? ⟨Q, 1, none⟩ = some (.int .i64 k1) ∧ w.cell? ⟨Q, 2, none⟩ = some (.int .i64 k2) ∧ w.cell? ⟨Q, 3, none⟩ = some (.int .i64 v)
theorem LS.grown {R Q g : Nat} {vh vm : Value} {k0 k1 k2 v : Int} {w w' : World} (hR : R ≠ g) (hQ : Q ≠ g) (b : w.grownBy w' (some g)) (h : LS R Q vh vm k0 k1 k2 v w) : LS R Q vh vm k0 k1 k2 v w' :=
  ⟨cell_grown b hR h.1, cell_grown b hR h.2.1, cell_grown b hQ h.2.2.1, cell_grown b hQ h.2.2.2.1, cell_grown b hQ h.2.2.2.2.1, cell_grown b hQ h.2.2.2.2.2⟩

set_option maxRecDepth 20000 in
set_option maxHeartbeats 2000000 in
theorem lay_at (R bm g n cap : Nat) (S : Nat → Prop) (hp : List (Ky × Int)) (f : Ky → Option Nat) (w : World) (t : Ky × Int) (i : Nat) (I : Int) (eI : I = (i : Int)) (hi : i < n) (h : QV R bm S hp f (.slice (some ⟨g, 0, none⟩) n cap) w) :
    Calls Tryd.prog 58 #[.pointer (some ⟨R, 0, none⟩), tmV t, .int .i64 I] w fun e w' => e = .returned (.tuple #[]) ∧ QV R bm S (hp.set i t) (upd f t.1 (some i)) (.slice (some ⟨g, 0, none⟩) n cap) w' ∧ Kp S w w' := by
  subst eI
  obtain ⟨⟨k0, k1, k2⟩, v⟩ := t
  have hB := Blk.new 63 (tmL (⟨k0, k1, k2⟩, v)) w
  have h1 := h.below (below_alloc w (.cells #[.int .i64 k0, .int .i64 k1, .int .i64 k2, .int .i64 v] 63))
  rcases h1.row.open with ⟨e, _⟩ | ⟨g', n', cap', cur, e, r⟩
  · cases e
  injection e with e1 e2 e3
  injection e1 with e1
  injection e1 with e1 _ _
  subst e1 e2 e3
  have gR : R ≠ g := fun e => (h.sv g rfl).2 e.symm
  have gm : bm ≠ g := fun e => h.mv (g := g) rfl e.symm
  have gQ : w.heap.size ≠ g := fun e => by have := h.s g (h.sv g rfl).1; omega
  have RQ : R ≠ w.heap.size := fun e => by have := h.s R h.sR; omega
  have mQ : w.heap.size ≠ bm := fun e => by have := h.s bm h.sm; omega
  have mR : R ≠ bm := fun e => h.mR e.symm
  obtain ⟨W, hW⟩ : ∃ W, w.alloc (.cells #[.int .i64 k0, .int .i64 k1, .int .i64 k2, .int .i64 v] 63) = W := ⟨_, rfl⟩
  have hB' : Blk w.heap.size 63 (tmL (⟨k0, k1, k2⟩, v)) W := by rw [← hW]; exact hB
  have BW : Below w.heap.size w W := by rw [← hW]; exact below_alloc _ _
  rw [hW] at h1 r
  have B0 : Hid (LS R w.heap.size (.slice (some ⟨g, 0, none⟩) n cap) (.map (some bm)) k0 k1 k2 v W.drew) := ⟨h1.blk.cell 0 _ rfl, h1.blk.cell 1 _ rfl, hB'.cell 0 _ rfl, hB'.cell 1 _ rfl, hB'.cell 2 _ rfl, hB'.cell 3 _ rfl⟩
  have RG : Hid (RowG g n cap hp cur W) := r
  have QQ : Hid (QV R bm S hp f (.slice (some ⟨g, 0, none⟩) n cap) W) := h1
  have HS : Hid (Below w.heap.size w W ∧ (∀ g, S g → g < w.heap.size)) := ⟨BW, h.s⟩
  obtain ⟨x, hx⟩ : ∃ x, hp[i]? = some x := ⟨hp[i]'(by have := r.len; omega), List.getElem?_eq_getElem _⟩
  have o0 := r.cell hx 0 _ rfl
  have o1 := r.cell hx 1 _ rfl
  have o2 := r.cell hx 2 _ rfl
  have o3 := r.cell hx 3 _ rfl
  have z0 := r.blk.fz (i * 4)
  have z1 := r.blk.fz (i * 4 + 1)
  have z2 := r.blk.fz (i * 4 + 2)
  have z3 := r.blk.fz (i * 4 + 3)
  rw [Nat.add_zero] at o0
  obtain ⟨cur2, r2⟩ := r.set4 (⟨k0, k1, k2⟩, v) hi
  have g2 := set4_grown W g (i * 4) (.int .i64 k0) (.int .i64 k1) (.int .i64 k2) (.int .i64 v)
  have FIN : Hid (∀ w2 w3, RowG g n cap (hp.set i (⟨k0, k1, k2⟩, v)) cur2 w2 → W.grownBy w2 (some g) → MapAt bm (upd f ⟨k0, k1, k2⟩ (some i)) w3 → w2.grownBy w3 (some bm) → QV R bm S (hp.set i (⟨k0, k1, k2⟩, v)) (upd f ⟨k0, k1, k2⟩ (some i)) (.slice (some ⟨g, 0, none⟩) n cap) w3 ∧ Kp S w w3) := fun w2 w3 r2 g2 m3 g3 => by
    have r3 := r2.kept (w' := w3) (g3.block g r2.blk.lt (fun e => gm (by injection e with e; exact e.symm)))
    have z2 := g2.size
    have z3 := g3.size
    have R2 : w2.heap[R]? = W.heap[R]? := g2.block R h1.blk.lt (fun e => gR (by injection e))
    have R3 : w3.heap[R]? = w2.heap[R]? := g3.block R (Nat.lt_of_lt_of_le h1.blk.lt z2) (fun e => mR (by injection e))
    refine ⟨⟨(R3.trans R2).trans h1.blk, r3.row, m3, fun x hx => Nat.lt_of_lt_of_le (h1.s x hx) (Nat.le_trans z2 z3), h.sR, h.sm, h.sv⟩, ?_⟩
    have k1 : Kp S w W := Kp.of_below BW _
    have k2 : Kp S w w2 := k1.trans (Kp.of_grown g2) (fun x _ e => by injection e with e; subst e; exact (h.sv g rfl).1)
    exact k2.trans (Kp.of_grown g3) (fun x _ e => by injection e with e; subst e; exact h.sm)
  have L2 : Hid (LS R w.heap.size (.slice (some ⟨g, 0, none⟩) n cap) (.map (some bm)) k0 k1 k2 v ((((W.setCell ⟨g, i * 4, none⟩ (.int .i64 k0)).setCell ⟨g, i * 4 + 1, none⟩ (.int .i64 k1)).setCell ⟨g, i * 4 + 2, none⟩ (.int .i64 k2)).setCell ⟨g, i * 4 + 3, none⟩ (.int .i64 v))) := LS.grown gR gQ g2 B0.out
  have M2 : Hid (MapAt bm f ((((W.setCell ⟨g, i * 4, none⟩ (.int .i64 k0)).setCell ⟨g, i * 4 + 1, none⟩ (.int .i64 k1)).setCell ⟨g, i * 4 + 2, none⟩ (.int .i64 k2)).setCell ⟨g, i * 4 + 3, none⟩ (.int .i64 v))) := h1.mp.same (g2.block bm h1.mp.lt (fun e => gm (by injection e)))
  have R2 : Hid (RowG g n cap (hp.set i (⟨k0, k1, k2⟩, v)) cur2 ((((W.setCell ⟨g, i * 4, none⟩ (.int .i64 k0)).setCell ⟨g, i * 4 + 1, none⟩ (.int .i64 k1)).setCell ⟨g, i * 4 + 2, none⟩ (.int .i64 k2)).setCell ⟨g, i * 4 + 3, none⟩ (.int .i64 v)) ∧ W.grownBy ((((W.setCell ⟨g, i * 4, none⟩ (.int .i64 k0)).setCell ⟨g, i * 4 + 1, none⟩ (.int .i64 k1)).setCell ⟨g, i * 4 + 2, none⟩ (.int .i64 k2)).setCell ⟨g, i * 4 + 3, none⟩ (.int .i64 v)) (some g)) := ⟨r2, g2⟩
  obtain ⟨l0, l1, l2, l3, l4, l5⟩ := B0.out
  have ni : (i : Int) < (n : Int) := by omega
  clear h h1 r hB hB' BW r2 g2 hx
  go_enter Tryd.func58, Tryd.ntmps58
  go_upto_region 1 with fail
  generalize w.heap.size = Q at *
  clear hW QQ
  go_region
  go_upto_region 2 with fail
  clear o0 o1 o2 o3 z0 z1 z2 z3 l0 l1 l2 l3 l4 l5 B0 RG
  generalize (((W.setCell ⟨g, i * 4, none⟩ (.int .i64 k0)).setCell ⟨g, i * 4 + 1, none⟩ (.int .i64 k1)).setCell ⟨g, i * 4 + 2, none⟩ (.int .i64 k2)).setCell ⟨g, i * 4 + 3, none⟩ (.int .i64 v) = W2 at *
  obtain ⟨w3, r1, m3, g3⟩ := MapAt.put (w := W2.drew.drew) M2.out ⟨k0, k1, k2⟩ i
  have F3 : Hid (QV R bm S (hp.set i (⟨k0, k1, k2⟩, v)) (upd f ⟨k0, k1, k2⟩ (some i)) (.slice (some ⟨g, 0, none⟩) n cap) w3 ∧ Kp S w w3) := FIN.out W2 w3 R2.out.1 R2.out.2 m3 ⟨g3.os, g3.tape, g3.output, g3.size, g3.block⟩
  have l1 : W2.drew.drew.cell? ⟨R, 1, none⟩ = some (.map (some bm)) := L2.out.2.1
  have l2 : W2.drew.drew.cell? ⟨Q, 0, none⟩ = some (.int .i64 k0) := L2.out.2.2.1
  have l3 : W2.drew.drew.cell? ⟨Q, 1, none⟩ = some (.int .i64 k1) := L2.out.2.2.2.1
  have l4 : W2.drew.drew.cell? ⟨Q, 2, none⟩ = some (.int .i64 k2) := L2.out.2.2.2.2.1
  clear L2 M2 R2 FIN m3 g3
  go_region
  go_end0
  exact ⟨rfl, F3.out⟩
end TQ
end Go.Proofs.YtfdehlfhnlgcjaaDoor
