/-
  Ours: what stands while an answer of Accepted is laid into the book.
-/
import Derived.Test.YtcnhcdlbippjoaaNwZr
namespace Go.Proofs.Ytcnhcdlbippjoaa
open Go.RowKit NwM
def sv (y : Ac) : Value := .slice y.ba y.bn y.bc
def mkN (NB j : Nat) : Nat := (2 * (NB + j) + 1) % 256
structure AC (Q base NB : Nat) (W M X : Nat → Prop) (V : Nat → List Value) (ys : List Ac) (w0 : World) (lv : Value) (zs : List Ac) (P : Nat → List Nat) (d : Nat) (L2 B1 B2 : List Value) (v' : Nat → Value) (V' : Nat → List Value) (W' : Nat → Prop) (wr : World) : Prop where
  bk : BkR Q W' v' V' wr
  ct : BkC M V wr
  row : RowA base wr lv zs
  bd : ∀ j y, d ≤ j → ys[j]? = some y → RowB 5 base wr (sv y) (P j)
  kd : ∀ j y, j < d → ys[j]? = some y → KV wr (bv (mkN NB j)) (sv y)
  k2 : ∀ (j : Nat) u, L2[j]? = some u → KV wr (bv (mkN NB j)) u ∧ j < d ∧ ∀ g, u.ownBlock = some g → g < wr.heap.size ∧ ¬ W' g ∧ ((∃ y, ys[j]? = some y ∧ (sv y).ownBlock = some g) ∨ w0.heap.size ≤ g)
  v0 : V' 0 = V 0
  v1 : V' 1 = V 1
  v2 : V' 2 = V 2
  v3 : V' 3 = V 3 ++ B1
  v4 : V' 4 = V 4 ++ B2
  wn : ∀ g, W' g → W g ∨ w0.heap.size ≤ g
  wx : ∀ g, X g ∨ M g → ¬ W' g
  kp : Kp (fun g => W g ∨ X g) w0 wr
/-- What is known of the answer from the beginning. -/
structure AX (M X : Nat → Prop) (ys : List Ac) (lv : Value) (w0 : World) : Prop where
  nd : ∀ (i j : Nat) x y, ys[i]? = some x → ys[j]? = some y → i ≠ j → ∀ g, (sv x).ownBlock = some g → (sv y).ownBlock ≠ some g
  xl : ∀ g, lv.ownBlock = some g → X g
  xb : ∀ (j : Nat) y, ys[j]? = some y → ∀ g, (sv y).ownBlock = some g → X g
  lb : ∀ (j : Nat) y, ys[j]? = some y → ∀ g, (sv y).ownBlock = some g → lv.ownBlock ≠ some g
  xm : ∀ g, X g → ¬ M g
  lt : ∀ g, X g → g < w0.heap.size
section
variable {Q base NB : Nat} {W M X : Nat → Prop} {V : Nat → List Value} {ys : List Ac} {w0 : World} {lv : Value} {zs : List Ac} {P : Nat → List Nat} {d : Nat} {L2 B1 B2 : List Value} {v' : Nat → Value} {V' : Nat → List Value} {W' : Nat → Prop} {wr w2 : World}
theorem row_ne {g q : Nat} (h : RowA base wr lv zs) (h' : ∃ cur, wr.heap[g]? = some (.cells cur 5 (0, 0))) (e : lv.ownBlock = some q) : q ≠ g := by
  obtain ⟨_, c1, h1⟩ := own_heap h e
  obtain ⟨c2, h2⟩ := h'
  exact ne_ty h1 h2 (by decide)
theorem AC.drew (h : AC Q base NB W M X V ys w0 lv zs P d L2 B1 B2 v' V' W' wr) : AC Q base NB W M X V ys w0 lv zs P d L2 B1 B2 v' V' W' wr.drew := by
  have b : Below wr.heap.size wr wr.drew := Below.drew (Below.refl _ _)
  have k := Kp.of_below b (fun _ => False)
  exact ⟨h.bk.below b, h.ct.below b, own_kp h.row k (fun _ _ z => z), fun j y hj hy => RowV.later (h.bd j y hj hy) b, fun j y hj hy => (h.kd j y hj hy).kp k (fun _ _ z => z), fun j u hu => ⟨(h.k2 j u hu).1.kp k (fun _ _ z => z), (h.k2 j u hu).2⟩, h.v0, h.v1, h.v2, h.v3, h.v4, h.wn, h.wx, h.kp.trans k (fun _ _ z => z.elim)⟩
/-- A byte of a body is written. -/
theorem AC.fill (h : AC Q base NB W M X V ys w0 lv zs P 0 [] B1 B2 v' V' W' wr) (x : AX M X ys lv w0) {i k g n c u : Nat} {y : Ac} (hy : ys[i]? = some y) (ev : sv y = .slice (some ⟨g, 0, none⟩) n c) (hn : (P i).length = n) :
    AC Q base NB W M X V ys w0 lv zs (upd P i ((P i).set k u)) 0 [] B1 B2 v' V' W' (wr.setCell ⟨g, k, none⟩ (.int .u8 ((u : Nat) : Int))) := by
  have hb := h.bd i y (Nat.zero_le _) hy
  rw [ev] at hb
  have hX : X g := x.xb i y hy g (by rw [ev]; rfl)
  have gr := setCell_grown wr g k (.int .u8 ((u : Nat) : Int))
  have kk : Kp (fun q => q = g) wr (wr.setCell ⟨g, k, none⟩ (.int .u8 ((u : Nat) : Int))) := (Kp.of_grown gr).mono (fun q _ e => by injection e with e; exact e.symm)
  refine ⟨h.bk.kp kk (fun q hq e => h.wx g (.inl hX) (e ▸ hq)), h.ct.kp kk (fun q hq e => x.xm g hX (e ▸ hq)), own_kp h.row kk (fun q e => row_ne h.row (own_heap hb rfl).2 e), fun j z _ hz => ?_, fun j z hj => by omega, fun j z hz => by simp at hz, h.v0, h.v1, h.v2, h.v3, h.v4, h.wn, h.wx, h.kp.trans kk (fun q _ e => .inr (e ▸ hX))⟩
  by_cases e : j = i
  · subst e
    rw [hy] at hz
    injection hz with hz
    subst hz
    rw [upd_same, ev]
    have := rowV_set (i := k) (u := .int .u8 ((u : Nat) : Int)) (by rw [List.length_map]; exact hn) hb
    rw [map_set_bv] at this
    exact this.1
  · rw [upd_ne _ _ e]
    exact (h.bd j z (Nat.zero_le _) hz).kp kk (fun q e1 e2 => x.nd j i z y hz hy e q e1 (by rw [ev, e2]; rfl))
/-- One more in the row of bodies or of marks, and the row laid back. -/
theorem AC.push (h : AC Q base NB W M X V ys w0 lv zs P d L2 B1 B2 v' V' W' wr) (x : AX M X ys lv w0) {k : Nat} {nv u : Value} {B1' B2' : List Value} (hk : (k = 3 ∧ B1' = B1 ++ [u] ∧ B2' = B2) ∨ (k = 4 ∧ B1' = B1 ∧ B2' = B2 ++ [u])) (r : RowV (te k) 0 w2 nv (V' k ++ [u])) (g : wr.grownBy w2 (v' k).ownBlock) (hat : ∀ q, nv.ownBlock = some q → (v' k).ownBlock = some q ∨ wr.heap.size ≤ q) :
    AC Q base NB W M X V ys w0 lv zs P d L2 B1' B2' (upd v' k nv) (upd V' k (V' k ++ [u])) (fun q => W' q ∨ nv.ownBlock = some q) (w2.setCell ⟨Q, k, none⟩ nv) ∧ w2.cell? ⟨Q, k, none⟩ = some (v' k) ∧ w2.frozen? ⟨Q, k, none⟩ = false := by
  have hk5 : k < 5 := by rcases hk with z | z <;> omega
  obtain ⟨p1, p2, p3, p4⟩ := h.bk.push hk5 r g hat
  have sz := h.kp.size
  have nw : ∀ q, q < wr.heap.size → ¬ W' q → ¬ (W' q ∨ nv.ownBlock = some q) := fun q lt hn z => by
    rcases z with z | z
    · exact hn z
    · rcases hat q z with y | y
      · exact hn (h.bk.wv k hk5 q y).1
      · omega
  have ltX : ∀ q, X q → q < wr.heap.size := fun q hq => Nat.lt_of_lt_of_le (x.lt q hq) sz
  refine ⟨⟨p1, h.ct.kp p2 (fun q hq => h.wx q (.inr hq)), own_kp h.row p2 (fun q e => h.wx q (.inl (x.xl q e))), fun j y hj hy => (h.bd j y hj hy).kp p2 (fun q e => h.wx q (.inl (x.xb j y hy q e))), fun j y hj hy => (h.kd j y hj hy).kp p2 (fun q e => h.wx q (.inl (x.xb j y hy q e))), fun j z hz => ⟨(h.k2 j z hz).1.kp p2 (fun q e => ((h.k2 j z hz).2.2 q e).2.1), (h.k2 j z hz).2.1, fun q e => ?_⟩, ?_, ?_, ?_, ?_, ?_, fun q hq => ?_, fun q hq => ?_, h.kp.trans p2 (fun q lt hq => ?_)⟩, p3, p4⟩
  · obtain ⟨a1, a2, a3⟩ := (h.k2 j z hz).2.2 q e
    exact ⟨Nat.lt_of_lt_of_le a1 p2.size, nw q a1 a2, a3⟩
  · rw [upd_ne _ _ (by rcases hk with z | z <;> omega)]; exact h.v0
  · rw [upd_ne _ _ (by rcases hk with z | z <;> omega)]; exact h.v1
  · rw [upd_ne _ _ (by rcases hk with z | z <;> omega)]; exact h.v2
  · rcases hk with ⟨rfl, e1, e2⟩ | ⟨rfl, e1, e2⟩
    · rw [upd_same, h.v3, e1, List.append_assoc]
    · rw [upd_ne _ _ (by omega), e1]; exact h.v3
  · rcases hk with ⟨rfl, e1, e2⟩ | ⟨rfl, e1, e2⟩
    · rw [upd_ne _ _ (by omega), e2]; exact h.v4
    · rw [upd_same, h.v4, e2, List.append_assoc]
  · rcases hq with hq | hq
    · exact h.wn q hq
    · rcases hat q hq with y | y
      · exact h.wn q (h.bk.wv k hk5 q y).1
      · exact .inr (by omega)
  · exact nw q (hq.elim (ltX q) (h.ct.lt q)) (h.wx q hq)
  · rcases h.wn q hq with z | z
    · exact .inl z
    · omega
theorem AC.rd (h : AC Q base NB W M X V ys w0 lv zs P d L2 B1 B2 v' V' W' wr) {j : Nat} {y : Ac} (hj : d ≤ j) (hy : ys[j]? = some y) (e : P j = List.replicate (P j).length (mkN NB j)) : KV wr (bv (mkN NB j)) (sv y) := by
  have hb := h.bd j y hj hy
  obtain ⟨a, c, ev, -, -⟩ := (RowV.rd hb).len
  refine ⟨a, _, c, ev, RowV.le hb, ?_⟩
  rw [← ev]
  have := RowV.rd hb
  rw [e] at this
  rw [List.length_map]
  rw [List.map_replicate] at this
  exact this
/-- A body is gone on with: the old one and the new one. -/
theorem AC.long (h : AC Q base NB W M X V ys w0 lv zs P d L2 B1 B2 v' V' W' wr) (x : AX M X ys lv w0) (hd : L2.length = d) {y : Ac} {a : Option Addr} {n c m : Nat} (hy : ys[d]? = some y) (e : P d = List.replicate m (mkN NB d)) (gr : wr.grownBy w2 (sv y).ownBlock) (ro : RowV 5 base w2 (sv y) ((P d).map bv)) (rn : RowV 5 base w2 (.slice a n c) ((P d).map bv ++ z64)) (loc : ∀ g, (Value.slice a n c).ownBlock = some g → (sv y).ownBlock = some g ∨ wr.heap.size ≤ g) :
    AC Q base NB W M X V ys w0 lv zs P (d + 1) (L2 ++ [.slice a m c]) B1 B2 v' V' W' w2 := by
  have hX : ∀ g, (sv y).ownBlock = some g → X g := fun g => x.xb d y hy g
  have kk : Kp (fun q => (sv y).ownBlock = some q) wr w2 := Kp.of_grown gr
  have sz := h.kp.size
  have rowne : ∀ q, lv.ownBlock = some q → ¬ (sv y).ownBlock = some q := fun q e1 e2 => row_ne h.row (own_heap (h.bd d y (Nat.le_refl _) hy) e2).2 e1 rfl
  have hm : m ≤ n := by
    obtain ⟨_, _, e1, -⟩ := (RowV.rd rn).len
    injection e1 with _ e1 _
    rw [e1, List.length_append, List.length_map, e, List.length_replicate]; omega
  refine ⟨h.bk.kp kk (fun q hq e2 => h.wx q (.inl (hX q e2)) hq), h.ct.kp kk (fun q hq e2 => x.xm q (hX q e2) hq), own_kp h.row kk rowne, fun j z hj hz => (h.bd j z (by omega) hz).kp kk (fun q e1 e2 => x.nd j d z y hz hy (by omega) q e1 e2), fun j z hj hz => ?_, fun j u hu => ?_, h.v0, h.v1, h.v2, h.v3, h.v4, h.wn, h.wx, h.kp.trans kk (fun q _ e2 => .inr (hX q e2))⟩
  · by_cases ej : j = d
    · subst ej
      rw [hy] at hz
      injection hz with hz
      subst hz
      obtain ⟨a1, c1, ev, -, -⟩ := (RowV.rd ro).len
      refine ⟨a1, _, c1, ev, RowV.le ro, ?_⟩
      rw [← ev]
      have := RowV.rd ro
      rw [e, List.map_replicate] at this
      rw [e, List.length_map, List.length_replicate]
      exact this
    · exact (h.kd j z (by omega) hz).kp kk (fun q e1 e2 => x.nd j d z y hz hy ej q e1 e2)
  · rcases at_app hu with hu | ⟨ej, eu⟩
    · obtain ⟨a1, a2, a3⟩ := h.k2 j u hu
      refine ⟨a1.kp kk (fun q e1 e2 => ?_), by omega, fun g eg => ⟨Nat.lt_of_lt_of_le (a3 g eg).1 kk.size, (a3 g eg).2⟩⟩
      rcases (a3 q e1).2.2 with ⟨z, hz, ez⟩ | z
      · exact x.nd j d z y hz hy (by omega) q ez e2
      · have := x.lt q (hX q e2); omega
    · subst eu
      have ej : j = d := by omega
      subst ej
      refine ⟨⟨a, m, c, rfl, by have := RowV.le ro; rw [e, List.length_map, List.length_replicate] at this; exact this, ?_⟩, by omega, fun g eg => ?_⟩
      · have := Rd.cut (k := m) (RowV.rd rn) hm
        rw [List.take_left' (by rw [List.length_map, e, List.length_replicate]), e, List.map_replicate] at this
        exact this
      · have eg' : (Value.slice a n c).ownBlock = some g := by
          cases a with
          | none => simp [Value.ownBlock] at eg
          | some q => exact eg
        have lt := rn.block_lt eg'
        rcases loc g eg' with z | z
        · exact ⟨lt, h.wx g (.inl (hX g z)), .inl ⟨y, hy, z⟩⟩
        · exact ⟨lt, fun hw => by have := h.bk.lt g hw; omega, .inr (by omega)⟩
end
theorem flat_set3 : ∀ (xs : List Ac) (i : Nat) (x : Ac), i < xs.length → (((xs.flatMap acL).set (i * 3) (.int .i64 x.id)).set (i * 3 + 1) (.int .i64 x.tk)).set (i * 3 + 2) (.slice x.ba x.bn x.bc) = (xs.set i x).flatMap acL
  | [], _, _, h => by simp at h
  | y :: ys, 0, x, _ => by simp [acL]
  | y :: ys, i + 1, x, h => by
    have ih := flat_set3 ys i x (by simpa using h)
    have e : (y :: ys).flatMap acL = acL y ++ ys.flatMap acL := rfl
    have e2 : ((y :: ys).set (i + 1) x).flatMap acL = acL y ++ (ys.set i x).flatMap acL := rfl
    rw [e, e2, ← ih]
    rw [List.set_append_right _ _ (by rw [acL3]; omega), List.set_append_right _ _ (by rw [acL3]; omega), List.set_append_right _ _ (by rw [acL3]; omega), acL3]
    rw [show (i + 1) * 3 - 3 = i * 3 by omega, show (i + 1) * 3 + 1 - 3 = i * 3 + 1 by omega, show (i + 1) * 3 + 2 - 3 = i * 3 + 2 by omega]
theorem rowA_put {base g n c i : Nat} {w : World} {xs : List Ac} (h : RowA base w (.slice (some ⟨g, 0, none⟩) n c) xs) (x : Ac) (hi : i < xs.length) :
    RowA base (((w.setCell ⟨g, i * 3, none⟩ (.int .i64 x.id)).setCell ⟨g, i * 3 + 1, none⟩ (.int .i64 x.tk)).setCell ⟨g, i * 3 + 2, none⟩ (.slice x.ba x.bn x.bc)) (.slice (some ⟨g, 0, none⟩) n c) (xs.set i x) := by
  obtain ⟨_, _, e0, -, -⟩ := h.len
  injection e0 with _ e0 _
  subst e0
  have h1 := (World.ownsRow.stored h (i * 3) (.int .i64 x.id)).1
  have h2 := (World.ownsRow.stored h1 (i * 3 + 1) (.int .i64 x.tk)).1
  have h3 := (World.ownsRow.stored h2 (i * 3 + 2) (.slice x.ba x.bn x.bc)).1
  rw [flat_set3 xs i x hi] at h3
  show World.ownsRow _ _ _ _ _ _ _
  rw [List.length_set]
  exact h3
/-- An element of the answer is written over. -/
theorem AC.item {Q base NB : Nat} {W M X : Nat → Prop} {V : Nat → List Value} {ys : List Ac} {w0 : World} {zs : List Ac} {P : Nat → List Nat} {d : Nat} {L2 B1 B2 : List Value} {v' : Nat → Value} {V' : Nat → List Value} {W' : Nat → Prop} {wr : World} {g n c i : Nat} (h : AC Q base NB W M X V ys w0 (.slice (some ⟨g, 0, none⟩) n c) zs P d L2 B1 B2 v' V' W' wr) (x : AX M X ys (.slice (some ⟨g, 0, none⟩) n c) w0) (o : Ac) (hi : i < zs.length) :
    AC Q base NB W M X V ys w0 (.slice (some ⟨g, 0, none⟩) n c) (zs.set i o) P d L2 B1 B2 v' V' W' (((wr.setCell ⟨g, i * 3, none⟩ (.int .i64 o.id)).setCell ⟨g, i * 3 + 1, none⟩ (.int .i64 o.tk)).setCell ⟨g, i * 3 + 2, none⟩ (.slice o.ba o.bn o.bc)) := by
  have hX : X g := x.xl g rfl
  have gr := grownBy_trans (grownBy_trans (setCell_grown wr g (i * 3) (.int .i64 o.id)) (setCell_grown _ g (i * 3 + 1) (.int .i64 o.tk))) (setCell_grown _ g (i * 3 + 2) (.slice o.ba o.bn o.bc))
  have kk : Kp (fun q => q = g) wr (((wr.setCell ⟨g, i * 3, none⟩ (.int .i64 o.id)).setCell ⟨g, i * 3 + 1, none⟩ (.int .i64 o.tk)).setCell ⟨g, i * 3 + 2, none⟩ (.slice o.ba o.bn o.bc)) := (Kp.of_grown gr).mono (fun q _ e => by injection e with e; exact e.symm)
  have nb : ∀ q, (∃ cur, wr.heap[q]? = some (.cells cur 5 (0, 0))) → ¬ q = g := fun q hq e => row_ne h.row hq (q := g) rfl e.symm
  have kvne : ∀ m u, KV wr m u → (∀ q, u.ownBlock = some q → q ≠ g) → KV (((wr.setCell ⟨g, i * 3, none⟩ (.int .i64 o.id)).setCell ⟨g, i * 3 + 1, none⟩ (.int .i64 o.tk)).setCell ⟨g, i * 3 + 2, none⟩ (.slice o.ba o.bn o.bc)) m u := fun m u hu hne => hu.kp kk hne
  refine ⟨h.bk.kp kk (fun q hq e => h.wx g (.inl hX) (e ▸ hq)), h.ct.kp kk (fun q hq e => x.xm g hX (e ▸ hq)), rowA_put h.row o hi, fun j y hj hy => (h.bd j y hj hy).kp kk (fun q e => nb q (own_heap (h.bd j y hj hy) e).2), fun j y hj hy => ?_, fun j u hu => ?_, h.v0, h.v1, h.v2, h.v3, h.v4, h.wn, h.wx, h.kp.trans kk (fun q _ e => .inr (e ▸ hX))⟩
  · exact kvne _ _ (h.kd j y hj hy) (fun q e e2 => x.lb j y hy q e (by rw [e2]; rfl))
  · obtain ⟨a1, a2, a3⟩ := h.k2 j u hu
    refine ⟨kvne _ _ a1 (fun q e e2 => ?_), a2, fun q e => ⟨Nat.lt_of_lt_of_le (a3 q e).1 kk.size, (a3 q e).2⟩⟩
    rcases (a3 q e).2.2 with ⟨y, hy, ez⟩ | z
    · exact x.lb j y hy q ez (by rw [e2]; rfl)
    · have := x.lt g hX; omega
end Go.Proofs.Ytcnhcdlbippjoaa
