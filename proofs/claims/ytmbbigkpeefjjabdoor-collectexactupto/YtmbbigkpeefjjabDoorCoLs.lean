/-
  Ours: events as they read; what stands while a statement over a policy, a case and events is walked.
-/
import Derived.Test.YtmbbigkpeefjjabDoorCoSt
import Derived.Test.YtmbbigkpeefjjabDoorPolRf2
import Derived.Test.YtmbbigkpeefjjabDoorCoInv
import Derived.LoopTactic
namespace Go.Proofs.YtmbbigkpeefjjabDoor
open Go.RowKit LedM PolM CoM

def polZc : List Value := polL [0, 0, 0, 0, 0, 0, 0, 0, 0, 0, 0, 0, 0, 0, 0, 0, 0] (.slice none 0 0)
theorem polL_oneC {l : List Int} {a : Option Addr} {n c : Nat} : ∀ v ∈ polL l (.slice a n c), v.oneCell' = true := fun v hv => by
  rcases List.mem_append.1 hv with h | h
  · exact bkL_one l v h
  · simp at h; subst h; rfl
theorem polL_setC {l : List Int} {s t : Value} (hl : l.length = 17) : (polL l s).set 17 t = polL l t := by
  rw [polL, List.set_append_right _ _ (by rw [bkL_len]; omega), bkL_len, hl]; rfl
/-- 'v = append(v, x...)', the new slice laid open. -/
theorem wpList_catS {P : Program} {wr : World} {ops : Array Oper} {rest : List Oper} {o : Oper} {a : Act} {Q : Exit → Act → World → Prop} (hgd : o.guard = none) (s x : Operand) (t : TypeId)
    (ho : o.op = .call { callee := .builtin .append, args := #[s, x], argTypes := #[t, t] })
    (e : TypeId) (i : TypeInfo) (z : Value) (by' : Nat) (ht : P.underlying t = some (.slice e)) (hi : P.info? e = some i) (hz : i.zero = some z) (hsize : i.size = 1) (hby : i.bytes = by') (hzc : z.cells.size = 1)
    (base : Nat) (v v2 : Value) (vs us : List Value) (hy : ∀ u ∈ us, u.oneCell' = true) (hs : a.eval s = v) (hown : RowV e base wr v vs) (hsz : base ≤ wr.heap.size)
    (hx : a.eval x = v2) (hr : Rd wr v2 us) (hl : vs.length + us.length ≤ maxLen) (hl2 : (vs.length + us.length) * by' ≤ 140737488355328)
    (h : ∀ ao n cap w', RowV e base w' (.slice ao n cap) (vs ++ us) → wr.grownBy w' v.ownBlock → wpList P ops Q rest (a.put o.dst (.slice ao n cap)) w') :
    wpList P ops Q (o :: rest) a wr :=
  wpList_catV hgd s x t ho e i z by' ht hi hz hsize hby hzc base v v2 vs us hy hs hown hsz hx hr hl hl2 fun v' w' h1 h2 => by
    obtain ⟨ao, cap, rfl, _⟩ := h1.rd.len
    exact h _ _ _ _ h1 h2

theorem nilOwn (g : Nat) : (Value.slice none 0 0).ownBlock ≠ some g := fun h => by cases h
/-- What own answers. -/
def OwnAns (l hs : List Int) (w : World) (e : Ending) (w' : World) : Prop := ∃ ao n cap, e = .returned (PV l (.slice ao n cap)) ∧ RowV 3 w.heap.size w' (.slice ao n cap) (bkL hs) ∧ Below w.heap.size w w'
set_option maxRecDepth 20000 in
set_option maxHeartbeats 2000000 in
theorem own_at (l hs : List Int) (s : Value) (w : World) (hl : l.length = 17) (hr : Rd w s (bkL hs)) (hb : hs.length * 8 ≤ 140737488355328) :
    Calls Tryd.prog 16 #[PV l s] w (OwnAns l hs w) := by
  show Calls _ _ #[.agg (polL l s).toArray] _ _
  obtain ⟨i0, hi, hz0, hz1, hz2⟩ := info_partsC infoInt
  have SZ : Hid (∀ t : Value, (Tryd.prog.info? 24).map (·.size) = some (polL l t).length) := fun t => by rw [polL_len hl]; exact sizeP
  have FT : Hid (∀ t : Value, 0 + (polL l t).length ≤ polZc.length) := fun t => by rw [polL_len hl]; exact Nat.le_refl 18
  have FZ : Hid (∀ t : Value, polZc.length ≤ 0 + (polL l t).length) := fun t => by rw [polL_len hl]; exact Nat.le_refl 18
  have HO : Hid (∀ s : Value, (polL l s)[17]? = some s) := fun s => polL_hol hl
  have ST : Hid (∀ s t : Value, (polL l s).set 17 t = polL l t) := fun s t => polL_setC hl
  have W0 : Hid (Blk w.heap.size 24 (polL l s) ((w.alloc (.cells (polL l s).toArray 24)).alloc (.cells #[.int .i64 0, .int .i64 0, .int .i64 0, .int .i64 0, .int .i64 0, .int .i64 0, .int .i64 0, .int .i64 0, .int .i64 0, .int .i64 0, .int .i64 0, .int .i64 0, .int .i64 0, .int .i64 0, .int .i64 0, .int .i64 0, .int .i64 0, .slice none 0 0] 24))) := (Blk.new _ _ _).below (below_alloc _ _)
  have W1 : Hid (Blk (w.heap.size + 1) 24 polZc ((w.alloc (.cells (polL l s).toArray 24)).alloc (.cells #[.int .i64 0, .int .i64 0, .int .i64 0, .int .i64 0, .int .i64 0, .int .i64 0, .int .i64 0, .int .i64 0, .int .i64 0, .int .i64 0, .int .i64 0, .int .i64 0, .int .i64 0, .int .i64 0, .int .i64 0, .int .i64 0, .int .i64 0, .slice none 0 0] 24))) := Blk.new2 _ _ _ _
  have B0 : Hid (Below w.heap.size w ((w.alloc (.cells (polL l s).toArray 24)).alloc (.cells #[.int .i64 0, .int .i64 0, .int .i64 0, .int .i64 0, .int .i64 0, .int .i64 0, .int .i64 0, .int .i64 0, .int .i64 0, .int .i64 0, .int .i64 0, .int .i64 0, .int .i64 0, .int .i64 0, .int .i64 0, .int .i64 0, .int .i64 0, .slice none 0 0] 24))) := below_trans (below_alloc _ _) (below_alloc _ _)
  have RS : Hid (∀ w', Below w.heap.size w w' → Rd w' s (bkL hs)) := fun w' h => hr.later h
  obtain ⟨ao, cp, rfl, -, -, -⟩ := hr
  rw [bkL_len] at *
  have l1 : Hid (([] : List Value).length + (bkL hs).length ≤ maxLen) := by show _ ≤ _; rw [bkL_len]; simp only [List.length_nil]; unfold maxLen; omega
  have l2 : Hid ((([] : List Value).length + (bkL hs).length) * 8 ≤ 140737488355328) := by show _ ≤ _; rw [bkL_len]; simp only [List.length_nil]; omega
  generalize hs.length = N at *
  clear hl hb
  go_enter Tryd.func16, Tryd.ntmps16
  go_upto_region 1 with fail
  generalize ((w.alloc (.cells (polL l (.slice ao N cp)).toArray 24)).alloc (.cells #[.int .i64 0, .int .i64 0, .int .i64 0, .int .i64 0, .int .i64 0, .int .i64 0, .int .i64 0, .int .i64 0, .int .i64 0, .int .i64 0, .int .i64 0, .int .i64 0, .int .i64 0, .int .i64 0, .int .i64 0, .int .i64 0, .int .i64 0, .slice none 0 0] 24)) = w0 at *
  have c17 := W0.out.cell 17 _ (HO.out _)
  have hsz := B0.out.size
  go_upto_region 3 with (at_builtin; refine wpList_catS rfl (.tmp 4) (.tmp 6) 22 rfl 3 i0 (.int .i64 0) 8 Tryd.underlying22 hi hz0 hz1 hz2 rfl w.heap.size _ _ [] (bkL hs) (bkL_one hs) rfl (RowV.nil _ _ _) hsz rfl (RS.out _ B0.out) l1.out l2.out ?_; intro a1 n1 k1 w1 r1 g1; have X0 : Hid (Blk w.heap.size 24 (polL l (.slice ao N cp)) w1) := W0.out.grown g1 (nilOwn _); have X1 : Hid (Blk (w.heap.size + 1) 24 polZc w1) := W1.out.grown g1 (nilOwn _); have d17 := X0.out.cell 17 _ (HO.out _); have f17 := X0.out.fz 17; have lt1 := X0.out.lt)
  have Y0 : Hid (Blk w.heap.size 24 (polL l (.slice a1 n1 k1)) (w1.setCell ⟨w.heap.size, 17, none⟩ (.slice a1 n1 k1))) := by
    have := X0.out.set (i := 17) (.slice a1 n1 k1)
    rwa [ST.out] at this
  have Y1 : Hid (Blk (w.heap.size + 1) 24 polZc (w1.setCell ⟨w.heap.size, 17, none⟩ (.slice a1 n1 k1))) := X1.out.grown (setCell_grown _ _ _ _) (fun e => by injection e with e; omega)
  have r1' : RowV 3 w.heap.size w1 (.slice a1 n1 k1) (bkL hs) := r1
  have YR : Hid (RowV 3 w.heap.size (w1.setCell ⟨w.heap.size, 17, none⟩ (.slice a1 n1 k1)) (.slice a1 n1 k1) (bkL hs)) := r1'.kept (setCell_grown _ _ _ _) (fun g e q => row_ne_blkC r1' X0.out (by decide) (by rw [e, ← q]))
  have YB : Hid (Below w.heap.size w (w1.setCell ⟨w.heap.size, 17, none⟩ (.slice a1 n1 k1))) := below_row (B0.out.grown g1 hsz (fun k e => absurd e (nilOwn k))) (setCell_grown _ _ _ _) (Nat.le_refl _)
  clear r1 r1' g1 X0 X1 d17 f17 lt1 c17 hsz
  generalize w1.setCell ⟨w.heap.size, 17, none⟩ (.slice a1 n1 k1) = w2 at *
  go_wp2_with (first
  | (refine step_load rfl 24 _ rfl w.heap.size 0 rfl (polL l (.slice a1 n1 k1)) _ (Blk.all Y0.out) Tryd.underlying24 rfl (SZ.out _) ?_)
  | ((with_reducible refine at_store ?_); refine step_store rfl 24 _ _ rfl (w.heap.size + 1) 0 24 polZc (polL l (.slice a1 n1 k1)) rfl rfl Y1.out (FT.out _) (SZ.out _) polL_oneC ?_; intro w4 nb4 g4))
  have N4 : Blk (w.heap.size + 1) 24 (polL l (.slice a1 n1 k1)) w4 := blk_whole2 (FZ.out _) nb4
  refine ret_blk rfl rfl (w.heap.size + 1) 24 (polL l (.slice a1 n1 k1)) _ rfl N4 Tryd.underlying24 rfl (SZ.out _) ?_
  exact ⟨a1, n1, k1, rfl, YR.out.kept g4 (fun g e q => row_ne_blkC YR.out Y1.out (by decide) (by rw [e, ← q])), below_row YB.out g4 (by omega)⟩

end Go.Proofs.YtmbbigkpeefjjabDoor

namespace Go.Proofs.YtmbbigkpeefjjabDoor
open Go.RowKit LedM PolM CoM

namespace CoM
def ez : Ev := ⟨0, 0, 0, 0⟩
def eN (es : List Ev) (i : Nat) : Ev := es.getD i ez
end CoM
/-- The slice value v reads as the events es. -/
def RdV (w : World) (v : Value) (es : List Ev) : Prop :=
  ∃ ao cap, v = .slice ao es.length cap ∧ es.length ≤ cap ∧ (ao = none → cap = 0) ∧ ∀ i, i < es.length → ∃ g o, ao = some ⟨g, o, none⟩ ∧ g < w.heap.size ∧ w.rangeAt g (o + i * 4) (evL (eN es i))
theorem range_laterC {w w' : World} {g o : Nat} {cs : List Value} (h : w.rangeAt g o cs) (hg : g < w.heap.size) (hb : Below w.heap.size w w') : w'.rangeAt g o cs := fun j v hv => (hb.cell (p := ⟨g, o + j, none⟩) hg).trans (h j v hv)
theorem RdV.later {w w' : World} {v : Value} {es : List Ev} (h : RdV w v es) (hb : Below w.heap.size w w') : RdV w' v es := by
  obtain ⟨ao, cap, rfl, h1, h2, h3⟩ := h
  refine ⟨ao, cap, rfl, h1, h2, fun i hi => ?_⟩
  obtain ⟨g, o, e, lt, r⟩ := h3 i hi
  exact ⟨g, o, e, Nat.lt_of_lt_of_le lt hb.size, range_laterC r lt hb⟩

/-- A load by the row behind a guard that wants it. -/
theorem step_loadG {P : Program} {ops : Array Oper} {rest : List Oper} {op : Oper} {a : Act} {w : World} {Q : Exit → Act → World → Prop} (hw : Region.wanted op (yielded ops a.tmps) = true) (ty : TypeId) (x : Operand) (ho : op.op = .load ty x)
    (G o : Nat) (hx : a.eval x = .pointer (some ⟨G, o, none⟩)) (cs : List Value) (d : TypeDesc) (hc : w.rangeAt G o cs)
    (hu : P.underlying ty = some d) (hd : d.isRow = true) (hi : (P.info? ty).map (·.size) = some cs.length)
    (h : wpList P ops Q rest (a.put op.dst (.agg cs.toArray)) w) : wpList P ops Q (op :: rest) a w :=
  BigFrame.wpList_want hw fun _ hK => wp_load_mid ty x ho G o hx cs d hc hu hd hi (hK _ _ h)
theorem at_loadG {P : Program} {ops : Array Oper} {rest : List Oper} {a : Act} {w : World} {Q : Exit → Act → World → Prop} {dst : Option Tmp} (ty : TypeId) {t : TypeId} {x : Operand} {pos : String} {af : Array Edge} {gd : Nat × Bool}
    (h : wpList P ops Q ({ dst := dst, op := .load ty x, type := t, pos := pos, after := af, guard := some gd } :: rest) a w) : wpList P ops Q ({ dst := dst, op := .load ty x, type := t, pos := pos, after := af, guard := some gd } :: rest) a w := h
theorem at_loadT {P : Program} {ops : Array Oper} {rest : List Oper} {a : Act} {w : World} {Q : Exit → Act → World → Prop} {dst : Option Tmp} (ty : TypeId) {t : TypeId} {x : Operand} {pos : String} {af : Array Edge}
    (h : wpList P ops Q ({ dst := dst, op := .load ty x, type := t, pos := pos, after := af, guard := none } :: rest) a w) : wpList P ops Q ({ dst := dst, op := .load ty x, type := t, pos := pos, after := af, guard := none } :: rest) a w := h
/-- A policy's box, a case's, and all that was there. -/
structure LS (w : World) (l : List Int) (s : Value) (c : Cs) (C : Nat) (w' : World) : Prop where
  p : Blk w.heap.size 24 (polL l s) w'
  c : Blk C 27 (csL c) w'
  bb : Below w.heap.size w w'
  ge : w.heap.size < C
section
variable {w : World} {l : List Int} {s : Value} {c : Cs} {C : Nat} {w1 w2 : World}
theorem LS.later (h : LS w l s c C w1) (hb : Below w1.heap.size w1 w2) : LS w l s c C w2 := ⟨h.p.below hb, h.c.below hb, below_trans h.bb hb, h.ge⟩
theorem LS.drew (h : LS w l s c C w1) : LS w l s c C w1.drew := ⟨h.p, h.c, Below.drew h.bb, h.ge⟩
theorem LS.drewN (h : LS w l s c C w1) (n : Nat) : LS w l s c C (w1.drewN n) := ⟨h.p, h.c, below_drewN h.bb n, h.ge⟩
theorem LS.grown {G : Nat} (h : LS w l s c C w1) (g : w1.grownBy w2 (some G)) (hG : C < G) : LS w l s c C w2 :=
  ⟨h.p.grown g (fun e => by injection e with e; have := h.ge; omega), h.c.grown g (fun e => by injection e with e; omega), below_row h.bb g (by have := h.ge; omega), h.ge⟩
theorem LS.cs (h : LS w l s c C w1) (k : Nat) (u : Value) (hu : (csL c)[k]? = some u) : w1.cell? ⟨C, k, none⟩ = some u := h.c.cell k u hu
theorem LS.pol (h : LS w l s c C w1) (hl : l.length = 17) (k : Nat) (hk : k < 17) : w1.cell? ⟨w.heap.size, k, none⟩ = some (.int .i64 (l.getD k 0)) := h.p.cell k _ (polL_at hl k hk)
/-- The case is stored anew. -/
theorem LS.put {c' : Cs} (h : LS w l s c C w1) (nb : Blk C 27 (csL c') w2) (g : w1.grownBy w2 (some C)) : LS w l s c' C w2 :=
  ⟨h.p.grown g (fun e => by injection e with e; have := h.ge; omega), nb, below_row h.bb g (by have := h.ge; omega), h.ge⟩
/-- Behind 'd, acts, e := Step(own(p), c, event)'. -/
structure SA (w : World) (l : List Int) (s : Value) (c : Cs) (C G : Nat) (a : An) (v : Value) (w' : World) : Prop where
  ls : LS w l s c C w'
  d : Blk G 27 (csL a.2.1) w'
  lt : C < G
  r : RowV 3 w.heap.size w' v (bkL a.2.2)
variable {G : Nat} {a : An} {v : Value}
theorem SA.later (h : SA w l s c C G a v w1) (hb : Below w1.heap.size w1 w2) : SA w l s c C G a v w2 := ⟨h.ls.later hb, h.d.below hb, h.lt, h.r.later hb⟩
theorem SA.drewN (h : SA w l s c C G a v w1) (n : Nat) : SA w l s c C G a v (w1.drewN n) := ⟨h.ls.drewN n, h.d, h.lt, h.r⟩
end
theorem rowV_blk {e T : TypeId} {base G : Nat} {w w' : World} {v : Value} {vs cs : List Value} (h : RowV e base w v vs) (hb : Blk G T cs w) (g : w.grownBy w' (some G)) (hne : e ≠ T) : RowV e base w' v vs :=
  h.kept g (fun x q y => row_ne_blkC h hb hne (by rw [q, y]))
end Go.Proofs.YtmbbigkpeefjjabDoor
