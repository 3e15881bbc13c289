/-
  Ours: what ScriptFresh writes into the lines, pure; rows apart from one another.
-/
import Derived.Test.YtkjnklagjhhhkaaScLin
import Derived.Test.YtkjnklagjhhhkaaFrmApp
import Derived.Deep.Upon
namespace Go.Proofs.Ytkjnklagjhhhkaa
open Go.RowKit

/-- The lines while marks are written: those ahead of i are full, line i up to k. -/
def mq (P : Nat → List Nat) (i k j : Nat) : List Nat := if j < i then List.replicate (P j).length j else if j = i then List.replicate k i ++ (P i).drop k else P j
theorem mq_zero (P : Nat → List Nat) (j : Nat) : mq P 0 0 j = P j := by
  unfold mq
  rw [if_neg (by omega)]
  split
  · rename_i e; subst e; simp
  · rfl
theorem mq_len (P : Nat → List Nat) {i k : Nat} (j : Nat) (hk : k ≤ (P i).length) : (mq P i k j).length = (P j).length := by
  unfold mq
  split
  · simp
  · split
    · rename_i e; subst e; simp; omega
    · rfl
theorem mq_set (P : Nat → List Nat) {i k : Nat} (hk : k < (P i).length) : (mq P i k i).set k i = mq P i (k + 1) i := by
  unfold mq
  rw [if_neg (by omega), if_pos rfl, if_neg (by omega), if_pos rfl, List.set_append_right _ _ (by simp), List.length_replicate, Nat.sub_self, List.drop_eq_getElem_cons hk, List.set_cons_zero, List.replicate_succ', List.append_assoc]
  rfl
theorem mq_other (P : Nat → List Nat) {i k j : Nat} (hj : j ≠ i) : mq P i k j = mq P i (k + 1) j := by
  unfold mq
  rw [if_neg hj, if_neg hj]
theorem mq_next (P : Nat → List Nat) {i k : Nat} (j : Nat) (hk : k = (P i).length) : mq P i k j = mq P (i + 1) 0 j := by
  unfold mq
  by_cases h : j < i
  · rw [if_pos h, if_pos (by omega)]
  · rw [if_neg h]
    by_cases e : j = i
    · subst e; rw [if_pos rfl, if_pos (by omega), hk, List.drop_length, List.append_nil]
    · rw [if_neg e, if_neg (by omega)]
      split
      · rename_i e2; subst e2; simp
      · rfl
theorem mq_done (P : Nat → List Nat) {N j : Nat} (h : j < N) : mq P N 0 j = List.replicate (P j).length j := by unfold mq; rw [if_pos h]

/-- Rows of bytes that are the call's own. -/
def YS (B : Nat) (ys : List Value) (N : Nat) (qs : Nat → List Nat) (W : World) : Prop := ∀ j, j < N → RowB 5 B W (ys.getD j undef) (qs j)
def YA (ys : List Value) (N : Nat) : Prop := ∀ i j, i < N → j < N → i ≠ j → ∀ g, (ys.getD i undef).ownBlock = some g → (ys.getD j undef).ownBlock ≠ some g
/-- The blocks of the rows. -/
def TM (ys : List Value) (N : Nat) (g : Nat) : Prop := ∃ j, j < N ∧ (ys.getD j undef).ownBlock = some g
theorem YS.kp {B N : Nat} {ys : List Value} {qs : Nat → List Nat} {W W' : World} {M : Nat → Prop} (h : YS B ys N qs W) (k : Kp M W W') (hM : ∀ g, TM ys N g → ¬ M g) : YS B ys N qs W' := fun j hj => RowV.kp (h j hj) k (fun g hg => hM g ⟨j, hj, hg⟩)
theorem YS.set {B N i k g n cap : Nat} {ys : List Value} {qs : Nat → List Nat} {W : World} (h : YS B ys N qs W) (ap : YA ys N) (hi : i < N) (ev : ys.getD i undef = .slice (some ⟨g, 0, none⟩) n cap) (hn : (qs i).length = n) (x : Nat) :
    YS B ys N (fun j => if j = i then (qs i).set k x else qs j) (W.setCell ⟨g, k, none⟩ (.int .u8 (x : Int))) ∧ W.grownBy (W.setCell ⟨g, k, none⟩ (.int .u8 (x : Int))) (some g) := by
  have hr := h i hi
  rw [ev] at hr
  obtain ⟨r2, g2⟩ := rowV_set (i := k) (u := .int .u8 (x : Int)) (by rw [List.length_map, hn]) hr
  rw [map_set_bv] at r2
  refine ⟨fun j hj => ?_, g2⟩
  by_cases e : j = i
  · subst e
    show RowB _ _ _ _ (if j = j then _ else _)
    rw [if_pos rfl, ev]; exact r2
  · show RowB _ _ _ _ (if j = i then _ else _)
    rw [if_neg e]
    exact RowV.kept (h j hj) g2 (fun g' hg' q => by injection q with q; subst q; exact ap j i hj hi e _ hg' (by rw [ev]; rfl))
/-- 'append(v, x...)', and what became of the old row. -/
theorem wpList_appOld {P : Program} {w : World} {ops : Array Oper} {rest : List Oper} {o : Oper} {a : Act} {Q : Exit → Act → World → Prop} (hgd : o.guard = none) (s x : Operand) (t : TypeId)
    (ho : o.op = .call { callee := .builtin .append, args := #[s, x], argTypes := #[t, t] })
    (base : Nat) (e : TypeId) (i : TypeInfo) (z : Value) (size bytes : Nat) (ht : P.underlying t = some (.slice e)) (hi : P.info? e = some i) (hz : i.zero = some z)
    (hsize : i.size = size) (hby : i.bytes = bytes) (hzs : z.cells.size = size) (hsz : 0 < size)
    (v : Value) (n : Nat) (xs : List Value) (hs : a.eval s = v) (hown : w.ownsRow base e size v n xs)
    (ad : Addr) (m c : Nat) (news : List Value) (hx : a.eval x = .slice (some ad) m c) (hl : news.length = m * size) (hnews : ∀ j u, news[j]? = some u → w.cell? (ad.add j) = some u) (h1 : ∀ u ∈ news, u.oneCell' = true)
    (hm : 0 < m) (h63 : n + m ≤ maxLen) (hbytes : (n + m) * bytes ≤ 140737488355328) (hbase : base ≤ w.heap.size)
    (h : ∀ g cap w', w'.ownsRow base e size (.slice (some ⟨g, 0, none⟩) (n + m) cap) (n + m) (xs ++ news) → w.grownBy w' v.ownBlock → (v = .slice (some ⟨g, 0, none⟩) n cap ∨ (g = w.heap.size ∧ w.grownBy w' none)) → g < w'.heap.size → wpList P ops Q rest (a.put o.dst (.slice (some ⟨g, 0, none⟩) (n + m) cap)) w') :
    wpList P ops Q (o :: rest) a w := by
  refine wpList_plain hgd fun K hK => ?_
  obtain ⟨g, cap, w', hr, h2, h3, h4, h5⟩ := run_append_old (P := P) w t o.type base e i z size bytes ht hi hz hsize hby hzs hsz v n xs hown ad m c news hl hnews h1 hm h63 hbytes hbase _ rfl
  unfold Oper.wp execOp
  simp only [ho, resolve, invoke, builtin, Sem.run_bind, Sem.run_pure, Result.andThen_ok, List.map_toArray, List.map_cons, List.map_nil, hs, hx, hr]
  exact hK _ _ (h g cap w' h2 h3 h4 h5)
/-- What stands while the lines are gone on with. -/
structure LG (B H3 N : Nat) (P : Nat → List Nat) (ys : List Value) (w6 : World) (k : Nat) (vl : Value) (lvs : List Value) (W : World) : Prop where
  len : lvs.length = k
  row : RowV 22 H3 W vl lvs
  own : ∀ j, k ≤ j → j < N → RowB 5 B W (ys.getD j undef) (List.replicate (P j).length j)
  rd : ∀ j, j < k → RdB W (ys.getD j undef) (List.replicate (P j).length j)
  lng : ∀ j, j < k → RowB 5 B W (lvs.getD j undef) (List.replicate (P j).length j ++ List.replicate 64 (100 + j)) ∧ ∀ g, (lvs.getD j undef).ownBlock = some g → (ys.getD j undef).ownBlock = some g ∨ H3 ≤ g
  kp : Kp (TM ys N) w6 W
  sz : B ≤ W.heap.size ∧ H3 ≤ W.heap.size
theorem LG.below {B H3 N k : Nat} {P : Nat → List Nat} {ys : List Value} {w6 : World} {vl : Value} {lvs : List Value} {W W' : World} (h : LG B H3 N P ys w6 k vl lvs W) (b : Below W.heap.size W W') : LG B H3 N P ys w6 k vl lvs W' :=
  ⟨h.len, RowV.later h.row b, fun j h1 h2 => RowV.later (h.own j h1 h2) b, fun j hj => Rd.later (h.rd j hj) b, fun j hj => ⟨RowV.later (h.lng j hj).1 b, (h.lng j hj).2⟩, h.kp.trans (Kp.of_below b _) (fun _ _ q => q), by have := h.sz; have := b.size; omega⟩
/-- One line is gone on with, and laid upon the list. -/
theorem LG.step {B H3 N k : Nat} {P : Nat → List Nat} {ys : List Value} {w6 : World} {vl v' : Value} {lvs : List Value} {W w2 w3 : World} {a1 : Option Addr} {n1 c1 g2 cap2 : Nat} (h : LG B H3 N P ys w6 k vl lvs W) (hk : k < N) (ap : YA ys N) (hH : ∀ g, TM ys N g → g < H3) (h6 : w6.heap.size ≤ H3) (ev : ys.getD k undef = .slice a1 n1 c1) (hn : (P k).length = n1)
    (own2 : w2.ownsRow B 5 1 (.slice (some ⟨g2, 0, none⟩) (n1 + 64) cap2) (n1 + 64) ((List.replicate n1 k).map bv ++ (List.replicate 64 (100 + k)).map bv)) (gr2 : W.grownBy w2 (Value.slice a1 n1 c1).ownBlock) (at2 : Value.slice a1 n1 c1 = .slice (some ⟨g2, 0, none⟩) n1 cap2 ∨ (g2 = W.heap.size ∧ W.grownBy w2 none))
    (own3 : RowV 22 H3 w3 v' (lvs ++ [.slice (some ⟨g2, 0, none⟩) (n1 + 64) cap2])) (gr3 : w2.grownBy w3 vl.ownBlock) :
    LG B H3 N P ys w6 (k + 1) v' (lvs ++ [.slice (some ⟨g2, 0, none⟩) (n1 + 64) cap2]) w3 := by
  have hl1 : (List.replicate n1 k).length = n1 := List.length_replicate
  have hl2 : (List.replicate 64 (100 + k)).length = 64 := List.length_replicate
  have bs2 : ∀ g, (Value.slice a1 n1 c1).ownBlock = some g → TM ys N g := fun g hg => ⟨k, hk, by rw [ev]; exact hg⟩
  have s2 : W.heap.size ≤ w2.heap.size := gr2.size
  have s3 : w2.heap.size ≤ w3.heap.size := gr3.size
  have mk : RowB 5 B W (.slice a1 n1 c1) (List.replicate n1 k) := by have := h.own k (Nat.le_refl _) hk; rw [ev, hn] at this; exact this
  have lrow : RowV 22 H3 w2 vl lvs := RowV.kept h.row gr2 (fun g hg e => rows_ne h.row mk (by decide) hg e)
  have lfar : ∀ g, vl.ownBlock = some g → H3 ≤ g := fun g hg => h.row.block_ge hg
  have yfar : ∀ j, j < N → ∀ g, (ys.getD j undef).ownBlock = some g → vl.ownBlock ≠ some g := fun j hj g hg e => by have := hH g ⟨j, hj, hg⟩; have := lfar g e; omega
  have new2 : RowB 5 B w2 (.slice (some ⟨g2, 0, none⟩) (n1 + 64) cap2) (List.replicate n1 k ++ List.replicate 64 (100 + k)) := by
    rw [RowB, RowV, List.map_append, List.length_append, List.length_map, List.length_map, hl1, hl2]; exact own2
  have rd2 : RdB w2 (.slice a1 n1 c1) (List.replicate n1 k) := by
    rcases at2 with e | ⟨_, gn⟩
    · rw [e]
      have := Rd.cut (RowV.rd new2) (k := n1) (by omega)
      rw [List.map_append, List.take_left' (by rw [List.length_map, hl1])] at this
      exact this
    · exact Rd.grown (RowV.rd mk) gn (by simp)
  have hlen : (lvs ++ [Value.slice (some ⟨g2, 0, none⟩) (n1 + 64) cap2]).length = k + 1 := by rw [List.length_append, h.len]; rfl
  have at1 : ∀ j, j < k → (lvs ++ [Value.slice (some ⟨g2, 0, none⟩) (n1 + 64) cap2]).getD j undef = lvs.getD j undef := fun j hj => by
    rw [List.getD_eq_getElem?_getD, List.getElem?_append_left (by rw [h.len]; omega), ← List.getD_eq_getElem?_getD]
  have atk : (lvs ++ [Value.slice (some ⟨g2, 0, none⟩) (n1 + 64) cap2]).getD k undef = .slice (some ⟨g2, 0, none⟩) (n1 + 64) cap2 := by
    rw [List.getD_eq_getElem?_getD, List.getElem?_append_right (by rw [h.len]; omega), h.len, Nat.sub_self]; rfl
  have b8 : ∀ {u : Value} {c : List Nat}, RowB 5 B w2 u c → RowB 5 B w3 u c := fun {u c} r => RowV.kept r gr3 (fun q hq e => rows_ne lrow r (by decide) e hq)
  refine ⟨hlen, own3, fun j h1 h2 => b8 (RowV.kept (h.own j (by omega) h2) gr2 (fun g hg e => ap j k h2 hk (by omega) g hg (by rw [ev]; exact e))), fun j hj => ?_, fun j hj => ?_, (h.kp.trans (Kp.of_grown gr2) (fun g _ e => bs2 g e)).trans (Kp.of_grown gr3) (fun g hg e => ?_), by have := h.sz; omega⟩
  · refine Rd.grown (w := w2) ?_ gr3 (fun g hg e => yfar j (by omega) g hg e)
    by_cases e : j = k
    · subst e; rw [ev, hn]; exact rd2
    · exact Rd.grown (h.rd j (by omega)) gr2 (fun g hg q => ap j k (by omega) hk e g hg (by rw [ev]; exact q))
  · by_cases e : j = k
    · subst e
      rw [atk, hn]
      refine ⟨b8 new2, fun g hg => ?_⟩
      have hg' : g2 = g := by simpa [Value.ownBlock] using hg
      subst hg'
      rcases at2 with e | ⟨e, _⟩
      · left; rw [ev, e]; rfl
      · right; have := h.sz; omega
    · rw [at1 j (by omega)]
      obtain ⟨r, hr⟩ := h.lng j (by omega)
      refine ⟨b8 (RowV.kept r gr2 (fun g hg q => ?_)), hr⟩
      rcases hr g hg with h1 | h1
      · exact ap j k (by omega) hk e g h1 (by rw [ev]; exact q)
      · have := hH g (bs2 g q); omega
  · have := lfar g e; omega
/-- 'append(c, x...)' where c is a constant's bytes: read alone. -/
theorem wpList_catC {P : Program} {wr : World} {ops : Array Oper} {rest : List Oper} {o : Oper} {a : Act} {Q : Exit → Act → World → Prop} (hgd : o.guard = none) (s x : Operand) (t : TypeId)
    (ho : o.op = .call { callee := .builtin .append, args := #[s, x], argTypes := #[t, t] })
    (e : TypeId) (i : TypeInfo) (z : Value) (by' : Nat) (ht : P.underlying t = some (.slice e)) (hi : P.info? e = some i) (hz : i.zero = some z) (hsize : i.size = 1) (hby : i.bytes = by') (hzc : z.cells.size = 1)
    (g n : Nat) (v2 : Value) (vs us : List Value) (hy : ∀ u ∈ us, u.oneCell' = true) (hs : a.eval s = .slice (some ⟨g, 0, none⟩) n n) (hv : Rd wr (.slice (some ⟨g, 0, none⟩) n n) vs)
    (hx : a.eval x = v2) (hr : Rd wr v2 us) (hl : vs.length + us.length ≤ maxLen) (hl2 : (vs.length + us.length) * by' ≤ 140737488355328)
    (h : ∀ v' w', Rd w' v' (vs ++ us) → Below wr.heap.size wr w' → wpList P ops Q rest (a.put o.dst v') w') :
    wpList P ops Q (o :: rest) a wr := by
  obtain ⟨ao, cap, rfl, h1, h2, h3⟩ := hr
  have hv' := hv
  obtain ⟨ao1, cap1, e1, -, -, g3⟩ := hv'
  injection e1 with e1 e2 e3
  subst e1 e3
  subst e2
  refine wpList_plain hgd fun K hK => ?_
  by_cases hu : us.length = 0
  · obtain rfl : us = [] := List.eq_nil_of_length_eq_zero hu
    have sr : Src P i.size t (.slice ao 0 cap) 0 [] wr := by
      cases ao with
      | none => exact Src.ofNil wr ht cap
      | some ad => exact Src.ofSlice wr ht ad 0 cap [] (by simp) (by simp) (by simp)
    have hr := fun ty => run_append_nothing (P := P) wr t t ty e i ht hi (some ⟨g, 0, none⟩) vs.length vs.length (Nat.le_refl _) _ sr
    unfold Oper.wp execOp
    simp only [ho, resolve, invoke, builtin, Sem.run_bind, Sem.run_pure, Result.andThen_ok, List.map_toArray, List.map_cons, List.map_nil, hs, hx, List.length_nil, hr]
    exact hK _ _ (h _ _ (by simpa using hv) (Below.refl _ _))
  · obtain ⟨g1, off, rfl, lt, _⟩ := h3 0 (by omega)
    obtain ⟨v', w', hr, o2, gr⟩ := run_append_arg_grows (P := P) wr t o.type e i z 1 by' ht hi hz hsize hby hzc (by decide) ⟨g, 0, none⟩ vs.length vs.length vs (by simp) (fun j u hj => by
      obtain ⟨hjl, rfl⟩ := List.getElem?_eq_some_iff.1 hj
      obtain ⟨g', o', q1, _, hc⟩ := g3 j hjl
      cases q1
      have hadd : (⟨g, 0, none⟩ : Addr).add j = ⟨g, 0 + j, none⟩ := by unfold Addr.add; split <;> simp_all
      rw [hadd]; exact hc) ⟨g1, off, none⟩ us.length cap us (by simp) (fun j u hj => by
      obtain ⟨hjl, rfl⟩ := List.getElem?_eq_some_iff.1 hj
      obtain ⟨g', o', q1, _, hc⟩ := h3 j hjl
      cases q1
      have hadd : (⟨g1, off, none⟩ : Addr).add j = ⟨g1, off + j, none⟩ := by unfold Addr.add; split <;> simp_all
      rw [hadd]; exact hc) (by omega) hl hl2
    unfold Oper.wp execOp
    simp only [ho, resolve, invoke, builtin, Sem.run_bind, Sem.run_pure, Result.andThen_ok, List.map_toArray, List.map_cons, List.map_nil, hs, hx, hr]
    refine hK _ _ (h _ _ (RowV.rd (e := e) (base := wr.heap.size) ?_) (Below.grown (Below.refl _ _) gr (Nat.le_refl _) (by simp)))
    rw [RowV, List.length_append]; exact o2
/-- The copies of the lines. -/
structure WS (H k : Nat) (v : Value) (us : List Value) (P : Nat → List Nat) (W : World) : Prop where
  row : RowV 22 H W v us
  len : us.length = k
  it : ∀ j, j < k → RowB 5 H W (us.getD j undef) (P j)
theorem WS.later {H k : Nat} {v : Value} {us : List Value} {P : Nat → List Nat} {W W' : World} (h : WS H k v us P W) (b : Below W.heap.size W W') : WS H k v us P W' := ⟨RowV.later h.row b, h.len, fun j hj => RowV.later (h.it j hj) b⟩
theorem WS.kp {H k : Nat} {v : Value} {us : List Value} {P : Nat → List Nat} {W W' : World} {M : Nat → Prop} (h : WS H k v us P W) (q : Kp M W W') (hM : ∀ g, M g → g < H) : WS H k v us P W' :=
  ⟨RowV.kp h.row q (fun g hg hm => by have := hM g hm; have := h.row.block_ge hg; omega), h.len, fun j hj => RowV.kp (h.it j hj) q (fun g hg hm => by have := hM g hm; have := (h.it j hj).block_ge hg; omega)⟩
theorem WS.push {H k : Nat} {v v' x : Value} {us : List Value} {P : Nat → List Nat} {W W' : World} (h : WS H k v us P W) (hx : RowB 5 H W x (P k)) (own : RowV 22 H W' v' (us ++ [x])) (gr : W.grownBy W' v.ownBlock) : WS H (k + 1) v' (us ++ [x]) P W' := by
  have b8 : ∀ {u : Value} {c : List Nat}, RowB 5 H W u c → RowB 5 H W' u c := fun {u c} r => RowV.kept r gr (fun q hq e => rows_ne h.row r (by decide) e hq)
  refine ⟨own, by rw [List.length_append, h.len]; rfl, fun j hj => ?_⟩
  by_cases e : j = k
  · subst e
    rw [List.getD_eq_getElem?_getD, List.getElem?_append_right (by rw [h.len]; omega), h.len, Nat.sub_self]
    exact b8 hx
  · rw [List.getD_eq_getElem?_getD, List.getElem?_append_left (by rw [h.len]; omega), ← List.getD_eq_getElem?_getD]
    exact b8 (h.it j (by omega))
theorem getD_app1 {α : Type} (a b : List α) (d : α) {i : Nat} (h : i < a.length) : (a ++ b).getD i d = a.getD i d := by rw [List.getD_eq_getElem?_getD, List.getElem?_append_left h, ← List.getD_eq_getElem?_getD]
theorem getD_app2 {α : Type} (a b : List α) (d : α) {i : Nat} (h : a.length ≤ i) : (a ++ b).getD i d = b.getD (i - a.length) d := by rw [List.getD_eq_getElem?_getD, List.getElem?_append_right h, ← List.getD_eq_getElem?_getD]
theorem ys_app {B n : Nat} {ys1 ys2 : List Value} {PS : List (List Nat)} {W : World} (h1 : ys1.length = n) (hp : PS.length = n) (r1 : ∀ i, i < n → RowB 5 B W (ys1.getD i undef) (PS.getD i [])) (r2 : ∀ i, i < n → RowB 5 B W (ys2.getD i undef) (PS.getD i [])) : YS B (ys1 ++ ys2) (n + n) (fun j => (PS ++ PS).getD j []) W := fun j hj => by
  show RowB _ _ _ _ ((PS ++ PS).getD j [])
  by_cases e : j < n
  · rw [getD_app1 _ _ _ (by omega), getD_app1 _ _ _ (by omega)]; exact r1 j e
  · rw [getD_app2 _ _ _ (by omega), getD_app2 _ _ _ (by omega), h1, hp]; exact r2 _ (by omega)
theorem ya_app {n M : Nat} {ys1 ys2 : List Value} (h1 : ys1.length = n) (a1 : YA ys1 n) (a2 : YA ys2 n) (lo : ∀ i, i < n → ∀ g, (ys1.getD i undef).ownBlock = some g → g < M) (hi : ∀ i, i < n → ∀ g, (ys2.getD i undef).ownBlock = some g → M ≤ g) : YA (ys1 ++ ys2) (n + n) := fun i j hi' hj hne g hg => by
  by_cases e : i < n
  · rw [getD_app1 _ _ _ (by omega)] at hg
    by_cases e2 : j < n
    · rw [getD_app1 _ _ _ (by omega)]; exact a1 i j e e2 hne g hg
    · rw [getD_app2 _ _ _ (by omega), h1]; intro q; have := lo i e g hg; have := hi (j - n) (by omega) g q; omega
  · rw [getD_app2 _ _ _ (by omega), h1] at hg
    by_cases e2 : j < n
    · rw [getD_app1 _ _ _ (by omega)]; intro q; have := lo j e2 g q; have := hi (i - n) (by omega) g hg; omega
    · rw [getD_app2 _ _ _ (by omega), h1]; exact a2 (i - n) (j - n) (by omega) (by omega) (by omega) g hg
theorem tm_app {n : Nat} {ys1 ys2 : List Value} {g : Nat} (h1 : ys1.length = n) (h : TM (ys1 ++ ys2) (n + n) g) : (∃ i, i < n ∧ (ys1.getD i undef).ownBlock = some g) ∨ ∃ i, i < n ∧ (ys2.getD i undef).ownBlock = some g := by
  obtain ⟨j, hj, e⟩ := h
  by_cases q : j < n
  · rw [getD_app1 _ _ _ (by omega)] at e; exact .inl ⟨j, q, e⟩
  · rw [getD_app2 _ _ _ (by omega), h1] at e; exact .inr ⟨j - n, by omega, e⟩
end Go.Proofs.Ytkjnklagjhhhkaa
