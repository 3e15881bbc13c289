/-
  Ours: the reference's network: as data, and as it lies.
-/
import Derived.Test.YtcnhcdlbippjoaaNwOp
namespace Go.Proofs.Ytcnhcdlbippjoaa
open Go.RowKit NwM
namespace NwM
/-- A message of the reference. -/
structure Ms where
  ack : Bool
  id : Int
  ba : Option Addr
  bn : Nat
  bc : Nat
  bs : List Nat
  at' : Nat
  ag : Nat
structure RNt where
  now : Nat
  ac : List Ac
  fs : List Nat
  ms : List Ms
def rn0 : RNt := ⟨0, [], [], []⟩
def rfate1 (r : RNt) : RNt := { r with fs := r.fs.tail }
def rmsg (p : Pk) (now f : Nat) : Ms := if f = 100 then ⟨p.ack, p.id, p.ba, p.bn, p.bc, p.bs, now + 1, now + 2⟩ else ⟨p.ack, p.id, p.ba, p.bn, p.bc, p.bs, now + (f - 48), 0⟩
def rhand (r : RNt) (p : Pk) : RNt := if r.fs.headD 49 = 120 then rfate1 r else { rfate1 r with ms := r.ms ++ [rmsg p r.now (r.fs.headD 49)] }
end NwM
def msL (m : Ms) : List Value := [.bool m.ack, .int .i64 m.id, .slice m.ba m.bn m.bc, .int .i64 ((m.at' : Nat) : Int), .int .i64 ((m.ag : Nat) : Int)]
theorem msL5 (m : Ms) : (msL m).length = 5 := rfl
theorem msL_one (p : Ms) : ∀ v ∈ msL p, v.oneCell' = true := fun v h => by
  simp [msL] at h
  rcases h with rfl | rfl | rfl | rfl | rfl <;> rfl
theorem ms_len : ∀ xs : List Ms, (xs.flatMap msL).length = xs.length * 5
  | [] => rfl
  | e :: r => by
    have := ms_len r
    simp only [List.flatMap_cons, List.length_append, List.length_cons, msL5] at this ⊢
    omega
theorem ms_at : ∀ (xs : List Ms) (i j : Nat) (x : Ms), xs[i]? = some x → j < 5 → (xs.flatMap msL)[i * 5 + j]? = (msL x)[j]?
  | e :: r, 0, j, x, h, hj => by
    simp at h
    subst h
    rw [Nat.zero_mul, Nat.zero_add]
    show (msL e ++ r.flatMap msL)[j]? = _
    rw [List.getElem?_append_left (by rw [msL5]; exact hj)]
  | e :: r, i + 1, j, x, h, hj => by
    have ih := ms_at r i j x (by simpa using h) hj
    show (msL e ++ r.flatMap msL)[(i + 1) * 5 + j]? = _
    rw [List.getElem?_append_right (by rw [msL5]; omega)]
    rw [show (i + 1) * 5 + j - (msL e).length = i * 5 + j from by rw [msL5]; omega, ih]
/-- A row of messages. -/
abbrev RowM (base : Nat) (w : World) (v : Value) (xs : List Ms) : Prop := w.ownsRow base 84 5 v xs.length (xs.flatMap msL)
theorem RowM.open {base : Nat} {w : World} {v : Value} {xs : List Ms} (h : RowM base w v xs) : (v = .slice none 0 0 ∧ xs = []) ∨
    ∃ g cap cur, v = .slice (some ⟨g, 0, none⟩) xs.length cap ∧ base ≤ g ∧ Blk g 84 cur w ∧ xs.length ≤ cap ∧ cur.take (xs.length * 5) = xs.flatMap msL := by
  rcases h.2 with ⟨h1, h2⟩ | ⟨g, cap, cur, h1, hb, h2, h3, h4, h5, h6⟩
  · exact .inl ⟨h1, List.eq_nil_of_length_eq_zero h2⟩
  · exact .inr ⟨g, cap, cur.toList, h1, hb, h2, h3, h6⟩
theorem RowM.len {base : Nat} {w : World} {v : Value} {xs : List Ms} (h : RowM base w v xs) : ∃ a c, v = .slice a xs.length c := by
  rcases h.open with ⟨rfl, rfl⟩ | ⟨g, cap, cur, h1, _⟩
  · exact ⟨_, _, rfl⟩
  · exact ⟨_, _, h1⟩
/-- A message of a row. -/
theorem RowM.at {base : Nat} {w : World} {a : Option Addr} {n c : Nat} {xs : List Ms} (h : RowM base w (.slice a n c) xs) {i : Nat} {x : Ms} (hi : xs[i]? = some x) :
    ∃ g, a = some ⟨g, 0, none⟩ ∧ g < w.heap.size ∧ w.cell? ⟨g, i * 5, none⟩ = some (.bool x.ack) ∧ w.cell? ⟨g, i * 5 + 1, none⟩ = some (.int .i64 x.id) ∧ w.cell? ⟨g, i * 5 + 2, none⟩ = some (.slice x.ba x.bn x.bc) ∧ w.cell? ⟨g, i * 5 + 3, none⟩ = some (.int .i64 ((x.at' : Nat) : Int)) ∧ w.cell? ⟨g, i * 5 + 4, none⟩ = some (.int .i64 ((x.ag : Nat) : Int)) := by
  have hl := (List.getElem?_eq_some_iff.1 hi).1
  rcases h.open with ⟨_, rfl⟩ | ⟨g, cap, cur, h1, _, h2, h3, h6⟩
  · simp at hl
  · injection h1 with h1 _ _
    subst h1
    have key : ∀ j u, (msL x)[j]? = some u → w.cell? ⟨g, i * 5 + j, none⟩ = some u := fun j u hu => by
      refine h2.cell _ _ ?_
      have hj : j < 5 := (List.getElem?_eq_some_iff.1 hu).1
      have := ms_at xs i j x hi hj
      rw [← h6, List.getElem?_take, if_pos (by omega), hu] at this
      exact this
    exact ⟨g, rfl, h2.lt, key 0 _ rfl, key 1 _ rfl, key 2 _ rfl, key 3 _ rfl, key 4 _ rfl⟩
theorem infoMs : (Try.prog.info? 84).map (fun i => (i.zero, i.size, i.bytes)) = some (some (.agg #[.bool false, .int .i64 0, .slice none 0 0, .int .i64 0, .int .i64 0]), 5, 56) := by kernel_rfl
/-- One element more behind a row of one's own, in a plain region. -/
theorem wpList_pushR {P : Program} {wr : World} {ops : Array Oper} {rest : List Oper} {o : Oper} {a : Act} {Q : Exit → Act → World → Prop} (hgd : o.guard = none) (s x : Operand) (t : TypeId)
    (ho : o.op = .call { callee := .builtin .append, args := #[s, x], argTypes := #[t, t] })
    (e : TypeId) (i : TypeInfo) (z : Value) (sz by' : Nat) (ht : P.underlying t = some (.slice e)) (hi : P.info? e = some i) (hz : i.zero = some z) (hsize : i.size = sz) (hby : i.bytes = by') (hzc : z.cells.size = sz) (hs0 : 0 < sz)
    (base : Nat) (v : Value) (n : Nat) (xs : List Value) (cs : List Value) (hcs : cs.length = sz) (h1 : ∀ u ∈ cs, u.oneCell' = true) (hs : a.eval s = v) (hown : wr.ownsRow base e sz v n xs) (hsz : base ≤ wr.heap.size)
    (hx : a.eval x = .slice (some ⟨wr.heap.size, 0, none⟩) 1 1) (hl : n + 1 ≤ maxLen) (hl2 : (n + 1) * by' ≤ 140737488355328)
    (h : ∀ g cap w', w'.ownsRow base e sz (.slice (some ⟨g, 0, none⟩) (n + 1) cap) (n + 1) (xs ++ cs) → wr.grownBy w' v.ownBlock → (v.ownBlock = some g ∨ wr.heap.size ≤ g) → wpList P ops Q rest (a.put o.dst (.slice (some ⟨g, 0, none⟩) (n + 1) cap)) w') :
    wpList P ops Q (o :: rest) a (wr.alloc (.cells cs.toArray e)) := by
  have hW : (wr.alloc (.cells cs.toArray e)).heap.size = wr.heap.size + 1 := by simp
  refine wpList_append_lies _ hgd s x t ho base e i z sz by' ht hi hz hsize hby hzc hs0 v n xs hs (World.ownsRow.alloc hown _) ⟨wr.heap.size, 0, none⟩ 1 1 cs hx (by rw [hcs, Nat.one_mul]) ?_ h1 (by decide) hl hl2 (by omega) (wr.heap.size + 1) hW ?_
  · exact World.news_of_block (cs := cs.toArray) (t := e) (fr := (0, 0)) (MapKept.heap_alloc wr _).1
  · intro g cap w' hown' hgrow hg _
    refine h g cap w' hown' ⟨hgrow.os, hgrow.tape, hgrow.output, Nat.le_trans (by simp) hgrow.size, fun k hk hn => ?_⟩ (hg.imp id (fun q => by omega))
    rw [hgrow.block k (by omega) hn]
    exact (below_alloc wr (.cells cs.toArray e)).block k hk
/-- The reference's network as a value; C: its blocks. -/
structure RefV (C : Nat → Prop) (w : World) (r : RNt) (aa : Option Addr) (an ac : Nat) (fa : Option Addr) (fn fc : Nat) (ma : Option Addr) (mn mc : Nat) : Prop where
  acc : RowA 0 w (.slice aa an ac) r.ac
  fts : RdB w (.slice fa fn fc) r.fs
  mss : RowM 0 w (.slice ma mn mc) r.ms
  ca : ∀ g, (Value.slice aa an ac).ownBlock = some g → C g
  cf : ∀ g, (Value.slice fa fn fc).ownBlock = some g → C g
  cm : ∀ g, (Value.slice ma mn mc).ownBlock = some g → C g
  ba : ∀ x ∈ r.ac, Bd C w x.ba x.bn x.bc x.bs
  bm : ∀ x ∈ r.ms, Bd C w x.ba x.bn x.bc x.bs
  c : ∀ g, C g → g < w.heap.size
section
variable {C M : Nat → Prop} {w w' : World} {r : RNt} {aa : Option Addr} {an ac : Nat} {fa : Option Addr} {fn fc : Nat} {ma : Option Addr} {mn mc : Nat}
theorem RefV.kp (h : RefV C w r aa an ac fa fn fc ma mn mc) (k : Kp M w w') (hm : ∀ g, C g → ¬ M g) : RefV C w' r aa an ac fa fn fc ma mn mc :=
  ⟨own_kp h.acc k (fun g e => hm g (h.ca g e)), h.fts.kp k (fun g e => hm g (h.cf g e)), own_kp h.mss k (fun g e => hm g (h.cm g e)), h.ca, h.cf, h.cm, fun x hx => (h.ba x hx).kp k hm, fun x hx => (h.bm x hx).kp k hm, fun g hg => Nat.lt_of_lt_of_le (h.c g hg) k.size⟩
theorem RefV.below (h : RefV C w r aa an ac fa fn fc ma mn mc) (b : Below w.heap.size w w') : RefV C w' r aa an ac fa fn fc ma mn mc := h.kp (Kp.of_below b (fun _ => False)) (fun _ _ h => h)
end
/-- A value that is a network of the reference. -/
def RefAt (C : Nat → Prop) (w : World) (r : RNt) (v : Value) : Prop := ∃ aa an ac fa fn fc ma mn mc, v = .agg #[.int .i64 ((r.now : Nat) : Int), .slice aa an ac, .slice fa fn fc, .slice ma mn mc] ∧ RefV C w r aa an ac fa fn fc ma mn mc
/-- What a call of the reference leaves. -/
def RfPost (C : Nat → Prop) (w : World) (r : RNt) (v : Value) (w' : World) : Prop := (∃ C', RefAt C' w' r v ∧ ∀ g, C' g → C g ∨ w.heap.size ≤ g) ∧ Below w.heap.size w w'
theorem RefAt.below {C : Nat → Prop} {w w' : World} {r : RNt} {v : Value} (h : RefAt C w r v) (b : Below w.heap.size w w') : RefAt C w' r v := by
  obtain ⟨aa, an, ac, fa, fn, fc, ma, mn, mc, e, h⟩ := h
  exact ⟨aa, an, ac, fa, fn, fc, ma, mn, mc, e, h.below b⟩
end Go.Proofs.Ytcnhcdlbippjoaa
