/-
  Ours: the reference's PopDue.
-/
import Derived.Test.YtfdehlfhnlgcjaaDoorTqRf3
namespace Go.Proofs.YtfdehlfhnlgcjaaDoor
open Go.RowKit TqM

theorem ret_t_blk_tmp2 {P : Program} {fn : Func} {R : Ending → World → Prop} {a : Act} {w : World} {q p u v : Tmp} {ty : TypeId} (h : fn.results = #[.tmp q, .cell p ty, .tmp u, .tmp v]) (hdf : a.defers = [])
    (g : Nat) (t : TypeId) (cs : List Value) (d : TypeDesc) (hp : a.tmps.getD p undef = .pointer (some ⟨g, 0, none⟩)) (hg : Blk g t cs w)
    (hu : P.underlying ty = some d) (hd : (match d with | .struct _ | .array _ _ => true | _ => false) = true) (hi : (P.info? ty).map (·.size) = some cs.length)
    (hR : R (.returned (.tuple #[a.tmps.getD q undef, .agg cs.toArray, a.tmps.getD u undef, a.tmps.getD v undef])) w) : bodyPost P fn R .ret a w := by
  refine bodyPost_ret_by ?_ hdf hR
  have hp' : a.tmps[p]?.getD undef = .pointer (some ⟨g, 0, none⟩) := by simpa using hp
  simp only [results, h]
  simp [Result.andThen, hp', asAddr, run_loadVar_row w g t ty cs.toArray (0, 0) d hg hu hd (by simpa using hi)]

/-- Nothing is due. -/
def RNot (v : Value) (w : World) (e : Ending) (w' : World) : Prop := e = .returned (.tuple #[v, kyV ⟨0, 0, 0⟩, .int .i64 0, .bool false]) ∧ Below w.heap.size w w'

set_option maxRecDepth 20000 in
set_option maxHeartbeats 2000000 in
theorem rpop_none (v : Value) (day : Int) (w : World) (h : RdI w v []) :
    Calls Tryd.prog 45 #[v, .int .i64 day] w (RNot v w) := by
  obtain ⟨ao, cap, rfl, hcap, -, -⟩ := h
  clear hcap
  rw [List.length_nil]
  have FN : Hid (Blk w.heap.size 24 (kyL ⟨0, 0, 0⟩) (w.alloc (.cells #[.int .i64 0, .int .i64 0, .int .i64 0] 24)) ∧ Below w.heap.size w (w.alloc (.cells #[.int .i64 0, .int .i64 0, .int .i64 0] 24))) := ⟨Blk.new 24 (kyL ⟨0, 0, 0⟩) w, below_alloc _ _⟩
  go_enter Tryd.func45, Tryd.ntmps45
  go_wp2_with fail
  exact ret_t_blk_tmp2 rfl rfl w.heap.size _ (kyL ⟨0, 0, 0⟩) _ rfl FN.out.1 Tryd.underlying24 rfl (TQ.infoKy _) ⟨rfl, FN.out.2⟩

set_option maxRecDepth 20000 in
set_option maxHeartbeats 2000000 in
theorem rpop_late (G : List (Ky × Int)) (v : Value) (day : Int) (w : World) (h : RdI w v G) (h0 : 0 < G.length) (hd : day < (gN G 0).1.d) :
    Calls Tryd.prog 45 #[v, .int .i64 day] w (RNot v w) := by
  obtain ⟨ao, cap, rfl, hcap, -, H⟩ := h
  obtain ⟨g, o, rfl, lt, r⟩ := H 0 h0
  have c0 : w.cell? ⟨g, o, none⟩ = some (.int .i64 (gN G 0).1.d) := by simpa using r 0 _ rfl
  have lt' : g < w.heap.size := lt
  have ltw : g ≠ w.heap.size := by omega
  clear H r hcap
  generalize (gN G 0).1.d = z at *
  have h0' : (0 : Int) < (G.length : Int) := by omega
  have n0 : ((G.length : Int) == 0) = false := beq_eq_false_iff_ne.2 (by omega)
  generalize G.length = n at *
  have hd' : decide (day < z) = true := decide_eq_true hd
  have FN : Hid (Blk w.heap.size 24 (kyL ⟨0, 0, 0⟩) (w.alloc (.cells #[.int .i64 0, .int .i64 0, .int .i64 0] 24)) ∧ Below w.heap.size w (w.alloc (.cells #[.int .i64 0, .int .i64 0, .int .i64 0] 24))) := ⟨Blk.new 24 (kyL ⟨0, 0, 0⟩) w, below_alloc _ _⟩
  go_enter Tryd.func45, Tryd.ntmps45
  go_wp2_with fail
  exact ret_t_blk_tmp2 rfl rfl w.heap.size _ (kyL ⟨0, 0, 0⟩) _ rfl FN.out.1 Tryd.underlying24 rfl (TQ.infoKy _) ⟨rfl, FN.out.2⟩

theorem oneK3 (k : Ky) : ∀ v ∈ kyL k, v.oneCell' = true := fun v h => by
  simp [kyL] at h
  rcases h with rfl | rfl | rfl <;> rfl
/-- The first item's cells, in a region that answers into a block of its own. -/
abbrev I4 (w : World) (g o : Nat) (z : Ky × Int) (w' : World) : Prop := (Below w.heap.size w w' ∧ w.heap.size + 1 ≤ w'.heap.size) ∧
  w'.cell? ⟨g, o, none⟩ = some (.int .i64 z.1.d) ∧ w'.cell? ⟨g, o + 1, none⟩ = some (.int .i64 z.1.l) ∧ w'.cell? ⟨g, o + 2, none⟩ = some (.int .i64 z.1.n) ∧ w'.cell? ⟨g, o + 3, none⟩ = some (.int .i64 z.2)
theorem I4.keep {w w1 w2 : World} {g o : Nat} {z : Ky × Int} (b : Below w1.heap.size w1 w2) (c : I4 w g o z w1) : I4 w g o z w2 :=
  ⟨⟨below_trans c.1.1 b, Nat.le_trans c.1.2 b.size⟩, below_cell b c.2.1, below_cell b c.2.2.1, below_cell b c.2.2.2.1, below_cell b c.2.2.2.2⟩
theorem I4.set3 {w w1 : World} {g o : Nat} {z : Ky × Int} (lt : g < w.heap.size) (x y u : Value) (c : I4 w g o z w1) : I4 w g o z (((w1.setCell ⟨w.heap.size, 0, none⟩ x).setCell ⟨w.heap.size, 1, none⟩ y).setCell ⟨w.heap.size, 2, none⟩ u) := by
  have hn : g ≠ w.heap.size := by omega
  have G7 := grownBy_trans (grownBy_trans (setCell_grown w1 w.heap.size 0 x) (setCell_grown _ w.heap.size 1 y)) (setCell_grown _ w.heap.size 2 u)
  exact ⟨⟨below_row c.1.1 G7 (Nat.le_refl _), Nat.le_trans c.1.2 G7.size⟩, TQ.cell_grown G7 hn c.2.1, TQ.cell_grown G7 hn c.2.2.1, TQ.cell_grown G7 hn c.2.2.2.1, TQ.cell_grown G7 hn c.2.2.2.2⟩

set_option maxRecDepth 20000 in
set_option maxHeartbeats 2000000 in
theorem rpop_yes (G : List (Ky × Int)) (v : Value) (day : Int) (w : World) (hl : G.length ≤ 1000000000) (h : RdI w v G) (h0 : 0 < G.length) (hd : (gN G 0).1.d ≤ day) :
    Calls Tryd.prog 45 #[v, .int .i64 day] w fun e w' => ∃ v', e = .returned (.tuple #[v', kyV (gN G 0).1, .int .i64 (gN G 0).2, .bool true]) ∧ RowI w.heap.size w' v' (G.filter (fun x => !decide (x.1 = (gN G 0).1))) ∧ Below w.heap.size w w' := by
  have WO : Hid (∀ w', (Below w.heap.size w w' ∧ w.heap.size + 1 ≤ w'.heap.size) → Calls Tryd.prog 33 #[v, .agg #[.int .i64 (gN G 0).1.d, .int .i64 (gN G 0).1.l, .int .i64 (gN G 0).1.n]] w' fun e w2 => ∃ v', e = .returned v' ∧ RowI (w.heap.size + 1) w2 v' (G.filter (fun x => !decide (x.1 = (gN G 0).1))) ∧ Below w'.heap.size w' w2) := fun w' b => (rwithout_at G v (gN G 0).1 w' hl (h.later b.1)).mono (by rintro e w2 ⟨v', rfl, r, b2⟩; exact ⟨v', rfl, r.mono b.2, b2⟩)
  obtain ⟨ao, cap, rfl, hcap, -, H⟩ := h
  obtain ⟨g, o, rfl, lt, r⟩ := H 0 h0
  have c0 : w.cell? ⟨g, o, none⟩ = some (.int .i64 (gN G 0).1.d) := by simpa using r 0 _ rfl
  have c1 : w.cell? ⟨g, o + 1, none⟩ = some (.int .i64 (gN G 0).1.l) := by simpa using r 1 _ rfl
  have c2 : w.cell? ⟨g, o + 2, none⟩ = some (.int .i64 (gN G 0).1.n) := by simpa using r 2 _ rfl
  have c3 : w.cell? ⟨g, o + 3, none⟩ = some (.int .i64 (gN G 0).2) := by simpa using r 3 _ rfl
  have lt' : g < w.heap.size := lt
  have ltw : g ≠ w.heap.size := by omega
  clear H r hcap hl
  have h0' : (0 : Int) < (G.length : Int) := by omega
  have n0 : ((G.length : Int) == 0) = false := beq_eq_false_iff_ne.2 (by omega)
  generalize gN G 0 = z at *
  generalize G.length = n at *
  have hd' : decide (day < z.1.d) = false := decide_eq_false (by omega)
  have S0 : Hid (I4 w g o z (w.alloc (.cells #[.int .i64 0, .int .i64 0, .int .i64 0] 24)).drew) := (by
    have b := Below.drew (below_alloc w (.cells #[.int .i64 0, .int .i64 0, .int .i64 0] 24))
    exact ⟨⟨b, by simp⟩, below_cell b c0, below_cell b c1, below_cell b c2, below_cell b c3⟩)
  have BQ0 : Hid (Blk w.heap.size 24 (kyL ⟨0, 0, 0⟩) (w.alloc (.cells #[.int .i64 0, .int .i64 0, .int .i64 0] 24)).drew) := Blk.new 24 (kyL ⟨0, 0, 0⟩) w
  go_enter Tryd.func45, Tryd.ntmps45
  go_upto_region 3 with fail
  generalize w.alloc (.cells #[.int .i64 0, .int .i64 0, .int .i64 0] 24) = W0 at *
  go_region_held3 (fun w' => I4 w g o z w') (first | assumption | exact S0.out | exact I4.keep hU (by assumption) | exact I4.set3 lt' _ _ _ (by assumption)) (first
    | (go_at_call 33; refine (WO.out _ (And.left (show I4 w g o z _ by assumption))).mono ?_; rintro e w4 ⟨v4, rfl, r4, hU⟩; have BQ4 : Hid (Blk w.heap.size 24 (kyL ⟨0, 0, 0⟩) w4) := BQ0.out.below hU; have q0 := BQ4.out.cell 0 _ rfl; have q1 := BQ4.out.cell 1 _ rfl; have q2 := BQ4.out.cell 2 _ rfl; have f0 := BQ4.out.fz 0; have f1 := BQ4.out.fz 1; have f2 := BQ4.out.fz 2; have ltQ := BQ4.out.lt))
  all_goals
    have b7 := And.left (And.left (show I4 w g o z (((w4.setCell ⟨w.heap.size, 0, none⟩ (.int .i64 z.1.d)).setCell ⟨w.heap.size, 1, none⟩ (.int .i64 z.1.l)).setCell ⟨w.heap.size, 2, none⟩ (.int .i64 z.1.n)) by assumption))
    have G7 := grownBy_trans (grownBy_trans (setCell_grown w4 w.heap.size 0 (.int .i64 z.1.d)) (setCell_grown _ w.heap.size 1 (.int .i64 z.1.l))) (setCell_grown _ w.heap.size 2 (.int .i64 z.1.n))
    have N7 : Hid (Blk w.heap.size 24 (kyL z.1) (((w4.setCell ⟨w.heap.size, 0, none⟩ (.int .i64 z.1.d)).setCell ⟨w.heap.size, 1, none⟩ (.int .i64 z.1.l)).setCell ⟨w.heap.size, 2, none⟩ (.int .i64 z.1.n)) ∧ RowI w.heap.size (((w4.setCell ⟨w.heap.size, 0, none⟩ (.int .i64 z.1.d)).setCell ⟨w.heap.size, 1, none⟩ (.int .i64 z.1.l)).setCell ⟨w.heap.size, 2, none⟩ (.int .i64 z.1.n)) v4 (G.filter (fun x => !decide (x.1 = z.1))) ∧ Below w.heap.size w (((w4.setCell ⟨w.heap.size, 0, none⟩ (.int .i64 z.1.d)).setCell ⟨w.heap.size, 1, none⟩ (.int .i64 z.1.l)).setCell ⟨w.heap.size, 2, none⟩ (.int .i64 z.1.n))) := ⟨((BQ4.out.set (i := 0) (.int .i64 z.1.d)).set (i := 1) (.int .i64 z.1.l)).set (i := 2) (.int .i64 z.1.n), (r4.kept G7 (fun q hq e => by have := r4.ge hq; injection e with e; omega)).mono (by omega), b7⟩
    clear G7 r4 hU BQ4 b7 q0 q1 q2 f0 f1 f2 ltQ
    go_wp2_with fail
    exact ret_t_blk_tmp2 rfl rfl w.heap.size _ (kyL z.1) _ rfl N7.out.1 Tryd.underlying24 rfl (TQ.infoKy _) ⟨_, rfl, N7.out.2⟩
end Go.Proofs.YtfdehlfhnlgcjaaDoor
