/-
  Ours: the reference's Tick.
-/
import Derived.Test.YtcnhcdlbippjoaaNwRf8
namespace Go.Proofs.Ytcnhcdlbippjoaa
open Go.RowKit NwM
theorem rtaken_at (C : Nat → Prop) (r : RNt) (w : World) (v : Value) (m : Ms) (h : RefAt C w r v) (hb : Bd C w m.ba m.bn m.bc m.bs) (hac : r.ac.length ≤ 1000000000) (hnow : r.now ≤ 1000000000) (hms : r.ms.length ≤ 1000000000) (hfs : ∀ f ∈ r.fs, isF f) :
    Calls Try.prog 35 #[v, .agg #[.bool m.ack, .int .i64 m.id, .slice m.ba m.bn m.bc, .int .i64 ((m.at' : Nat) : Int), .int .i64 ((m.ag : Nat) : Int)]] w (fun e w' => ∃ v', e = .returned v' ∧ RfPost C w (rarr r m) v' w') := by
  cases hk : rknown r m.id with
  | true => exact rtaken_yes C r w v m h hk hac hnow hms hfs
  | false => exact rtaken_no C r w v m h hk hb hac hnow hms hfs
namespace NwM
def isDue (n : Nat) (m : Ms) : Bool := m.at' == n || m.ag == n
def isLeft (n : Nat) (m : Ms) : Bool := decide (n < m.at') || decide (n < m.ag)
def rdue (r : RNt) : List Ms := r.ms.filter (isDue (r.now + 1))
def rleft (r : RNt) : List Ms := r.ms.filter (isLeft (r.now + 1))
def rbeg (r : RNt) : RNt := { r with now := r.now + 1, ms := rleft r }
def rstep (s : RNt × List Int) (m : Ms) : RNt × List Int := if m.ack then (s.1, s.2 ++ [m.id]) else (rarr s.1 m, s.2)
def rtick (r : RNt) : RNt × List Int := (rdue r).foldl rstep (rbeg r, [])
theorem filter_step (p : Ms → Bool) (ms : List Ms) (k : Nat) (x : Ms) (h : ms[k]? = some x) : (ms.take (k + 1)).filter p = (ms.take k).filter p ++ (if p x then [x] else []) := by
  rw [List.take_add_one, h, List.filter_append]
  simp [List.filter_cons]
end NwM
/-- The two rows of Tick: what arrives, and what is left. -/
def TkR (w1 : World) (D L : List Ms) (vd vl : Value) (wr : World) : Prop := RowM w1.heap.size wr vd D ∧ RowM w1.heap.size wr vl L ∧ (∀ g, vd.ownBlock = some g → vl.ownBlock ≠ some g) ∧ Below w1.heap.size w1 wr
theorem TkR.swap {w1 wr : World} {D L : List Ms} {vd vl : Value} (h : TkR w1 D L vd vl wr) : TkR w1 L D vl vd wr := ⟨h.2.1, h.1, fun g e e' => h.2.2.1 g e' e, h.2.2.2⟩
theorem TkR.below {w1 wr w' : World} {D L : List Ms} {vd vl : Value} (h : TkR w1 D L vd vl wr) (b : Below wr.heap.size wr w') : TkR w1 D L vd vl w' :=
  ⟨own_grown h.1 (grownBy_below b none) (fun _ _ => by simp), own_grown h.2.1 (grownBy_below b none) (fun _ _ => by simp), h.2.2.1, below_trans h.2.2.2 b⟩
theorem TkR.push {w1 wr w' : World} {D L : List Ms} {vd vl : Value} {g n cp : Nat} {x : Ms} (h : TkR w1 D L vd vl wr) (hn : D.length = n) (o : w'.ownsRow w1.heap.size 84 5 (.slice (some ⟨g, 0, none⟩) (n + 1) cp) (n + 1) (D.flatMap msL ++ msL x)) (gr : wr.grownBy w' vd.ownBlock) (hat : vd.ownBlock = some g ∨ wr.heap.size ≤ g) :
    TkR w1 (D ++ [x]) L (.slice (some ⟨g, 0, none⟩) (n + 1) cp) vl w' := by
  refine ⟨RowM.push hn o, own_grown h.2.1 gr (fun y e q => h.2.2.1 y q e), fun y e q => ?_, h.2.2.2.grown gr h.2.2.2.size (fun y e => (own_heap h.1 e).1)⟩
  have : g = y := by simpa [Value.ownBlock] using e
  subst this
  rcases hat with hat | hat
  · exact h.2.2.1 g hat q
  · have := own_lt h.2.1 q
    omega
namespace NwM
theorem rhand_now (r : RNt) (p : Pk) : (rhand r p).now = r.now := by unfold rhand rfate1; split <;> rfl
theorem rhand_ac (r : RNt) (p : Pk) : (rhand r p).ac = r.ac := by unfold rhand rfate1; split <;> rfl
theorem rhand_fs (r : RNt) (p : Pk) : (rhand r p).fs = r.fs.tail := by unfold rhand rfate1; split <;> rfl
theorem rhand_ms (r : RNt) (p : Pk) : (rhand r p).ms.length ≤ r.ms.length + 1 := by
  unfold rhand rfate1
  split
  · exact Nat.le_succ _
  · simp
theorem rarr_mid (r : RNt) (m : Ms) : (rarr r m).now = r.now ∧ (rarr r m).ac.length ≤ r.ac.length + 1 ∧ (rarr r m).ms.length ≤ r.ms.length + 1 ∧ ∀ f ∈ (rarr r m).fs, f ∈ r.fs := by
  unfold rarr
  rw [rhand_now, rhand_ac, rhand_fs]
  refine ⟨by unfold rtaken; split <;> rfl, by unfold rtaken; split <;> simp, ?_, fun f hf => ?_⟩
  · refine Nat.le_trans (rhand_ms _ _) ?_
    unfold rtaken; split <;> exact Nat.le_refl _
  · have : f ∈ (rtaken r ⟨m.id, r.now, m.ba, m.bn, m.bc, m.bs⟩).fs := List.mem_of_mem_tail hf
    unfold rtaken at this
    split at this <;> exact this
/-- Within a tick. -/
def rmid (r : RNt) (k : Nat) : RNt × List Int := ((rdue r).take k).foldl rstep (rbeg r, [])
theorem rmid_step (r : RNt) (k : Nat) (x : Ms) (h : (rdue r)[k]? = some x) : rmid r (k + 1) = rstep (rmid r k) x := by
  unfold rmid
  rw [List.take_add_one, h, List.foldl_append]
  rfl
theorem rmid_all (r : RNt) (k : Nat) (h : (rdue r).length ≤ k) : rmid r k = rtick r := by
  unfold rmid rtick
  rw [List.take_of_length_le h]
theorem rmid_sz (r : RNt) : ∀ k, (rmid r k).1.now = r.now + 1 ∧ (rmid r k).1.ac.length ≤ r.ac.length + k ∧ (rmid r k).1.ms.length ≤ r.ms.length + k ∧ (∀ f ∈ (rmid r k).1.fs, f ∈ r.fs) ∧ (rmid r k).2.length ≤ k
  | 0 => ⟨rfl, Nat.le_refl _, List.length_filter_le _ _, fun _ h => h, Nat.le_refl _⟩
  | k + 1 => by
    obtain ⟨h1, h2, h3, h4, h5⟩ := rmid_sz r k
    cases hx : (rdue r)[k]? with
    | none =>
      have : rmid r (k + 1) = rmid r k := by
        unfold rmid
        rw [List.take_add_one, hx]
        simp
      rw [this]
      exact ⟨h1, by omega, by omega, h4, by omega⟩
    | some x =>
      rw [rmid_step r k x hx]
      obtain ⟨m1, m2, m3, m4⟩ := rarr_mid (rmid r k).1 x
      unfold rstep
      split
      · exact ⟨h1, by show (rmid r k).1.ac.length ≤ _; omega, by show (rmid r k).1.ms.length ≤ _; omega, h4, by simp; omega⟩
      · exact ⟨m1.trans h1, by show (rarr (rmid r k).1 x).ac.length ≤ _; omega, by show (rarr (rmid r k).1 x).ms.length ≤ _; omega, fun f hf => h4 f (m4 f hf), by show (rmid r k).2.length ≤ _; omega⟩
end NwM
/-- Within Tick's second loop: the network's box Q, the answer's, what arrives, the numbers. -/
structure TkS (C : Nat → Prop) (w w1 : World) (Q : Nat) (D : List Ms) (vd : Value) (s : RNt) (ids : List Int) (vi : Value) (C' : Nat → Prop) (aa : Option Addr) (an ac : Nat) (fa : Option Addr) (fn fc : Nat) (ma : Option Addr) (mn mc : Nat) (wr : World) : Prop where
  rv : RefV C' wr s aa an ac fa fn fc ma mn mc
  q : Blk Q 34 [.int .i64 ((s.now : Nat) : Int), .slice aa an ac, .slice fa fn fc, .slice ma mn mc] wr
  z : Blk (Q + 1) 34 [.int .i64 0, .slice none 0 0, .slice none 0 0, .slice none 0 0] wr
  d : RowM w1.heap.size wr vd D
  db : ∀ x ∈ D, Bd C' wr x.ba x.bn x.bc x.bs
  i : RowV 3 w1.heap.size wr vi (ids.map iv)
  c : ∀ g, C' g → (C g ∨ w1.heap.size ≤ g) ∧ vi.ownBlock ≠ some g
  id : ∀ g, vi.ownBlock = some g → vd.ownBlock ≠ some g
  b : Below w.heap.size w wr
  cq : ∀ g, C g → g < Q
  s1 : w1.heap.size = Q + 2
  s0 : w.heap.size = Q
section
variable {C C' : Nat → Prop} {w w1 wr : World} {Q : Nat} {D : List Ms} {vd vi : Value} {s : RNt} {ids : List Int} {aa : Option Addr} {an ac : Nat} {fa : Option Addr} {fn fc : Nat} {ma : Option Addr} {mn mc : Nat}
theorem TkS.below {w' : World} (h : TkS C w w1 Q D vd s ids vi C' aa an ac fa fn fc ma mn mc wr) (b : Below wr.heap.size wr w') : TkS C w w1 Q D vd s ids vi C' aa an ac fa fn fc ma mn mc w' :=
  ⟨h.rv.below b, h.q.below b, h.z.below b, own_grown h.d (grownBy_below b none) (fun _ _ => by simp), fun x hx => (h.db x hx).kp (Kp.of_below b (fun _ => False)) (fun _ _ h => h), own_grown h.i (grownBy_below b none) (fun _ _ => by simp), h.c, h.id, below_trans h.b b, h.cq, h.s1, h.s0⟩
/-- The last stores: the network into the answer. -/
theorem TkS.fin (h : TkS C w w1 Q D vd s ids vi C' aa an ac fa fn fc ma mn mc wr) :
    Blk (Q + 1) 34 [.int .i64 ((s.now : Nat) : Int), .slice aa an ac, .slice fa fn fc, .slice ma mn mc] ((((wr.setCell ⟨Q + 1, 0, none⟩ (.int .i64 ((s.now : Nat) : Int))).setCell ⟨Q + 1, 1, none⟩ (.slice aa an ac)).setCell ⟨Q + 1, 2, none⟩ (.slice fa fn fc)).setCell ⟨Q + 1, 3, none⟩ (.slice ma mn mc)) ∧
    RfPost C w s (.agg #[.int .i64 ((s.now : Nat) : Int), .slice aa an ac, .slice fa fn fc, .slice ma mn mc]) ((((wr.setCell ⟨Q + 1, 0, none⟩ (.int .i64 ((s.now : Nat) : Int))).setCell ⟨Q + 1, 1, none⟩ (.slice aa an ac)).setCell ⟨Q + 1, 2, none⟩ (.slice fa fn fc)).setCell ⟨Q + 1, 3, none⟩ (.slice ma mn mc)) ∧
    RowV 3 w.heap.size ((((wr.setCell ⟨Q + 1, 0, none⟩ (.int .i64 ((s.now : Nat) : Int))).setCell ⟨Q + 1, 1, none⟩ (.slice aa an ac)).setCell ⟨Q + 1, 2, none⟩ (.slice fa fn fc)).setCell ⟨Q + 1, 3, none⟩ (.slice ma mn mc)) vi (ids.map iv) := by
  have s2 := grownBy_trans (grownBy_trans (grownBy_trans (setCell_grown wr (Q + 1) 0 (.int .i64 ((s.now : Nat) : Int))) (setCell_grown _ (Q + 1) 1 (.slice aa an ac))) (setCell_grown _ (Q + 1) 2 (.slice fa fn fc))) (setCell_grown _ (Q + 1) 3 (.slice ma mn mc))
  have key : ∀ g, C' g → C g ∨ Q + 2 ≤ g := fun g hg => (h.c g hg).1.imp (fun h => h) (fun q => by have := h.s1; omega)
  refine ⟨(((h.z.set (i := 0) _).set (i := 1) _).set (i := 2) _).set (i := 3) _, ⟨⟨C', ⟨aa, an, ac, fa, fn, fc, ma, mn, mc, rfl, h.rv.kp (Kp.of_grown s2) (fun g hg e => ?_)⟩, fun g hg => ?_⟩, below_row h.b s2 (by have := h.s0; omega)⟩, own_mono (own_grown h.i s2 (fun g e q => ?_)) (by have := h.s0; have := h.s1; omega)⟩
  · injection e with e
    rcases key g hg with q | q
    · have := h.cq g q; omega
    · omega
  · rcases key g hg with q | q
    · exact .inl q
    · exact .inr (by have := h.s0; omega)
  · injection q with q
    have := h.i.block_ge e
    have := h.s1
    omega
theorem TkS.ack {w' : World} {vi' : Value} {n : Int} (h : TkS C w w1 Q D vd s ids vi C' aa an ac fa fn fc ma mn mc wr) (o : RowV 3 w1.heap.size w' vi' (ids.map iv ++ [iv n])) (gr : wr.grownBy w' vi.ownBlock) (hat : ∀ g, vi'.ownBlock = some g → vi.ownBlock = some g ∨ wr.heap.size ≤ g) :
    TkS C w w1 Q D vd s (ids ++ [n]) vi' C' aa an ac fa fn fc ma mn mc w' := by
  have ge : ∀ g, vi.ownBlock = some g → Q + 2 ≤ g := fun g e => by have := h.i.block_ge e; have := h.s1; omega
  have k := Kp.of_grown gr
  refine ⟨h.rv.kp k (fun g hg => (h.c g hg).2), h.q.grown gr (fun e => by have := ge _ e; omega), h.z.grown gr (fun e => by have := ge _ e; omega), own_grown h.d gr (fun g e q => h.id g q e), fun x hx => (h.db x hx).kp k (fun g hg => (h.c g hg).2), by rw [List.map_append]; exact o, fun g hg => ⟨(h.c g hg).1, fun e => ?_⟩, fun g e q => ?_, ?_, h.cq, h.s1, h.s0⟩
  · rcases hat g e with e | e
    · exact (h.c g hg).2 e
    · have := h.rv.c g hg; omega
  · rcases hat g e with e | e
    · exact h.id g e q
    · have := own_lt h.d q; omega
  · exact h.b.grown gr h.b.size (fun y e => by have := ge y e; have := h.s0; omega)
theorem TkS.took {w8 : World} {s' : RNt} {v' : Value} (h : TkS C w w1 Q D vd s ids vi C' aa an ac fa fn fc ma mn mc wr) (hp : RfPost C' wr s' v' w8) :
    ∃ C2 ab bn bc fb gn gc mb nn nc, v' = .agg #[.int .i64 ((s'.now : Nat) : Int), .slice ab bn bc, .slice fb gn gc, .slice mb nn nc] ∧ TkS C w w1 Q D vd s' ids vi C2 ab bn bc fb gn gc mb nn nc ((((w8.setCell ⟨Q, 0, none⟩ (.int .i64 ((s'.now : Nat) : Int))).setCell ⟨Q, 1, none⟩ (.slice ab bn bc)).setCell ⟨Q, 2, none⟩ (.slice fb gn gc)).setCell ⟨Q, 3, none⟩ (.slice mb nn nc)) := by
  obtain ⟨⟨C2, ⟨ab, bn, bc, fb, gn, gc, mb, nn, nc, rfl, hv⟩, h2⟩, b8⟩ := hp
  have s2 := grownBy_trans (grownBy_trans (grownBy_trans (setCell_grown w8 Q 0 (.int .i64 ((s'.now : Nat) : Int))) (setCell_grown _ Q 1 (.slice ab bn bc))) (setCell_grown _ Q 2 (.slice fb gn gc))) (setCell_grown _ Q 3 (.slice mb nn nc))
  have k := Kp.of_grown s2
  have ge : ∀ g, vi.ownBlock = some g → Q + 2 ≤ g := fun g e => by have := h.i.block_ge e; have := h.s1; omega
  have gd : ∀ g, vd.ownBlock = some g → Q + 2 ≤ g := fun g e => by have := (own_heap h.d e).1; have := h.s1; omega
  have lw : Q + 2 ≤ wr.heap.size := by have := h.z.lt; omega
  have key : ∀ g, C' g → g ≠ Q := fun g hg e => by
    rcases (h.c g hg).1 with q | q
    · have := h.cq g q; omega
    · have := h.s1; omega
  have key2 : ∀ g, C2 g → g ≠ Q := fun g hg e => by
    rcases h2 g hg with q | q
    · exact key g q e
    · omega
  have k8 := Kp.of_below b8 (fun _ => False)
  refine ⟨fun g => C2 g ∨ C' g, ab, bn, bc, fb, gn, gc, mb, nn, nc, rfl, ⟨?_, ?_, ?_, ?_, fun x hx => ?_, ?_, fun g hg => ?_, h.id, ?_, h.cq, h.s1, h.s0⟩⟩
  · have h9 := hv.kp k (fun g hg e => by injection e with e; exact key2 g hg e.symm)
    exact ⟨h9.acc, h9.fts, h9.mss, fun g e => .inl (h9.ca g e), fun g e => .inl (h9.cf g e), fun g e => .inl (h9.cm g e), fun x hx => (h9.ba x hx).mono (fun _ h => .inl h), fun x hx => (h9.bm x hx).mono (fun _ h => .inl h), fun g hg => by
      rcases hg with hg | hg
      · exact h9.c g hg
      · exact Nat.lt_of_lt_of_le (h.rv.c g hg) (Nat.le_trans b8.size s2.size)⟩
  · exact ((((h.q.below b8).set (i := 0) _).set (i := 1) _).set (i := 2) _).set (i := 3) _
  · exact (h.z.below b8).grown s2 (fun e => by injection e with e; omega)
  · exact own_grown (own_grown h.d (grownBy_below b8 none) (fun _ _ => by simp)) s2 (fun g e q => by injection q with q; have := gd g e; omega)
  · exact (((h.db x hx).kp k8 (fun _ _ h => h)).kp k (fun g hg e => by injection e with e; exact key g hg e.symm)).mono (fun _ h => .inr h)
  · exact own_grown (own_grown h.i (grownBy_below b8 none) (fun _ _ => by simp)) s2 (fun g e q => by injection q with q; have := ge g e; omega)
  · have li : ∀ y, vi.ownBlock = some y → y < wr.heap.size := fun y e => h.i.block_lt e
    have : (C' g ∨ wr.heap.size ≤ g) := by
      rcases hg with hg | hg
      · exact h2 g hg
      · exact .inl hg
    rcases this with hg | hg
    · exact h.c g hg
    · exact ⟨.inr (by have := h.s1; omega), fun e => by have := li g e; omega⟩
  · exact below_row (below_trans h.b b8) s2 (by have := h.s0; omega)
theorem TkS.tookG {w8 : World} {s' : RNt} {v' : Value} (h : TkS C w w1 Q D vd s ids vi C' aa an ac fa fn fc ma mn mc wr) (hp : RfPost C' wr s' v' w8) :
    ∃ C2 ab bn bc fb gn gc mb nn nc, v' = .agg #[.int .i64 ((s'.now : Nat) : Int), .slice ab bn bc, .slice fb gn gc, .slice mb nn nc] ∧ ∀ w9, Blk Q 34 [.int .i64 ((s'.now : Nat) : Int), .slice ab bn bc, .slice fb gn gc, .slice mb nn nc] w9 → w8.grownBy w9 (some Q) → TkS C w w1 Q D vd s' ids vi C2 ab bn bc fb gn gc mb nn nc w9 := by
  obtain ⟨⟨C2, ⟨ab, bn, bc, fb, gn, gc, mb, nn, nc, rfl, hv⟩, h2⟩, b8⟩ := hp
  have ge : ∀ g, vi.ownBlock = some g → Q + 2 ≤ g := fun g e => by have := h.i.block_ge e; have := h.s1; omega
  have gd : ∀ g, vd.ownBlock = some g → Q + 2 ≤ g := fun g e => by have := (own_heap h.d e).1; have := h.s1; omega
  have lw : Q + 2 ≤ wr.heap.size := by have := h.z.lt; omega
  have key : ∀ g, C' g → g ≠ Q := fun g hg e => by
    rcases (h.c g hg).1 with q | q
    · have := h.cq g q; omega
    · have := h.s1; omega
  have key2 : ∀ g, C2 g → g ≠ Q := fun g hg e => by
    rcases h2 g hg with q | q
    · exact key g q e
    · omega
  have k8 := Kp.of_below b8 (fun _ => False)
  refine ⟨fun g => C2 g ∨ C' g, ab, bn, bc, fb, gn, gc, mb, nn, nc, rfl, fun w9 nb9 s2 => ?_⟩
  have k := Kp.of_grown s2
  refine ⟨?_, ?_, ?_, ?_, fun x hx => ?_, ?_, fun g hg => ?_, h.id, ?_, h.cq, h.s1, h.s0⟩
  · have h9 := hv.kp k (fun g hg e => by injection e with e; exact key2 g hg e.symm)
    exact ⟨h9.acc, h9.fts, h9.mss, fun g e => .inl (h9.ca g e), fun g e => .inl (h9.cf g e), fun g e => .inl (h9.cm g e), fun x hx => (h9.ba x hx).mono (fun _ h => .inl h), fun x hx => (h9.bm x hx).mono (fun _ h => .inl h), fun g hg => by
      rcases hg with hg | hg
      · exact h9.c g hg
      · exact Nat.lt_of_lt_of_le (h.rv.c g hg) (Nat.le_trans b8.size s2.size)⟩
  · exact nb9
  · exact (h.z.below b8).grown s2 (fun e => by injection e with e; omega)
  · exact own_grown (own_grown h.d (grownBy_below b8 none) (fun _ _ => by simp)) s2 (fun g e q => by injection q with q; have := gd g e; omega)
  · exact (((h.db x hx).kp k8 (fun _ _ h => h)).kp k (fun g hg e => by injection e with e; exact key g hg e.symm)).mono (fun _ h => .inr h)
  · exact own_grown (own_grown h.i (grownBy_below b8 none) (fun _ _ => by simp)) s2 (fun g e q => by injection q with q; have := ge g e; omega)
  · have li : ∀ y, vi.ownBlock = some y → y < wr.heap.size := fun y e => h.i.block_lt e
    have : (C' g ∨ wr.heap.size ≤ g) := by
      rcases hg with hg | hg
      · exact h2 g hg
      · exact .inl hg
    rcases this with hg | hg
    · exact h.c g hg
    · exact ⟨.inr (by have := h.s1; omega), fun e => by have := li g e; omega⟩
  · exact below_row (below_trans h.b b8) s2 (by have := h.s0; omega)
end
theorem tks_start {C : Nat → Prop} {w w1 wr : World} {Q : Nat} {r : RNt} {D L : List Ms} {vd : Value} {aa : Option Addr} {an ac : Nat} {fa : Option Addr} {fn fc : Nat} {ma : Option Addr} {mn mc : Nat} {la : Option Addr} {ln lc : Nat} (rv : RefV C w r aa an ac fa fn fc ma mn mc) (kb : Below w.heap.size w w1) (q : Blk Q 34 [.int .i64 (((r.now : Nat) : Int) + 1), .slice aa an ac, .slice fa fn fc, .slice ma mn mc] w1) (z : Blk (Q + 1) 34 [.int .i64 0, .slice none 0 0, .slice none 0 0, .slice none 0 0] w1) (hs : w1.heap.size = Q + 2) (h0 : w.heap.size = Q) (tk : TkR w1 D L vd (.slice la ln lc) wr) (hD : D = rdue r) (hL : L = rleft r) :
    TkS C w w1 Q D vd (rbeg r) [] (.slice none 0 0) (fun g => C g ∨ (Value.slice la ln lc).ownBlock = some g) aa an ac fa fn fc la ln lc (wr.setCell ⟨Q, 3, none⟩ (.slice la ln lc)) := by
  have b := below_trans kb tk.2.2.2
  have s1 := setCell_grown wr Q 3 (.slice la ln lc)
  have k := Kp.of_grown s1
  have cq : ∀ g, C g → g < Q := fun g hg => by have := rv.c g hg; omega
  have gl : ∀ g, (Value.slice la ln lc).ownBlock = some g → Q + 2 ≤ g := fun g e => by have := (own_heap tk.2.1 e).1; omega
  have gd : ∀ g, vd.ownBlock = some g → Q + 2 ≤ g := fun g e => by have := (own_heap tk.1 e).1; omega
  have hv := (rv.below b).kp k (fun g hg e => by injection e with e; have := cq g hg; omega)
  have en : (((rbeg r).now : Nat) : Int) = ((r.now : Nat) : Int) + 1 := by show ((r.now + 1 : Nat) : Int) = _; omega
  have rl := own_grown tk.2.1 s1 (fun g e q => by injection q with q; have := gl g e; omega)
  refine ⟨⟨hv.acc, hv.fts, ?_, fun g e => .inl (hv.ca g e), fun g e => .inl (hv.cf g e), fun g e => .inr e, fun x hx => (hv.ba x hx).mono (fun _ h => .inl h), fun x hx => ?_, fun g hg => ?_⟩, ?_, ?_, ?_, fun x hx => ?_, RowV.nil _ _ _, fun g hg => ⟨hg.imp (fun h => h) (fun e => by have := gl g e; omega), by simp [Value.ownBlock]⟩, fun g e => by simp [Value.ownBlock] at e, below_row b s1 (by omega), cq, hs, h0⟩
  · show RowM 0 _ _ (rleft r)
    rw [← hL]
    exact own_mono rl (Nat.zero_le _)
  · exact (hv.bm x (List.mem_filter.1 hx).1).mono (fun _ h => .inl h)
  · rcases hg with hg | hg
    · exact hv.c g hg
    · exact own_lt rl hg
  · rw [en]
    exact (q.below tk.2.2.2).set (i := 3) _
  · exact (z.below tk.2.2.2).grown s1 (fun e => by injection e with e; omega)
  · exact own_grown tk.1 s1 (fun g e q => by injection q with q; have := gd g e; omega)
  · rw [hD] at hx
    exact (hv.bm x (List.mem_filter.1 hx).1).mono (fun _ h => .inl h)
end Go.Proofs.Ytcnhcdlbippjoaa
