/-
  Ours: the program's opFields, mask by mask.
-/
import Derived.Test.YtdbjjeaflfoppaaWirDecOp0B
namespace Go.Proofs.Ytdbjjeaflfoppaa
open Go.RowKit

/-- A return of a struct in a new block. -/
theorem bodyPost_cell {P : Program} {fn : Func} {R : Ending → World → Prop} {a : Act} {w : World} {p : Tmp} {ty : TypeId} (h : fn.results = #[.cell p ty]) (hdf : a.defers = [])
    (g : Nat) (t : TypeId) (cs : Array Value) (fr : Nat × Nat) (d : TypeDesc) (hp : a.tmps.getD p undef = .pointer (some ⟨g, 0, none⟩)) (hg : w.heap[g]? = some (.cells cs t fr))
    (hu : P.underlying ty = some d) (hd : (match d with | .struct _ | .array _ _ => true | _ => false) = true) (hi : (P.info? ty).map (·.size) = some cs.size)
    (hR : R (.returned (.agg cs)) w) : bodyPost P fn R .ret a w :=
  bodyPost_ret_by (results_cell_row h _ w g t cs fr d hp hg hu hd hi) hdf hR
/-- Seven cells written into a block. -/
theorem Blk.seven {G : Nat} {ty : TypeId} {z0 z1 z2 z3 z4 z5 z6 : Value} {w : World} (h : Blk G ty [z0, z1, z2, z3, z4, z5, z6] w) (a b c d e f g : Value) :
    Blk G ty [a, b, c, d, e, f, g] (((((((w.setCell ⟨G, 0, none⟩ a).setCell ⟨G, 1, none⟩ b).setCell ⟨G, 2, none⟩ c).setCell ⟨G, 3, none⟩ d).setCell ⟨G, 4, none⟩ e).setCell ⟨G, 5, none⟩ f).setCell ⟨G, 6, none⟩ g) ∧
    w.grownBy (((((((w.setCell ⟨G, 0, none⟩ a).setCell ⟨G, 1, none⟩ b).setCell ⟨G, 2, none⟩ c).setCell ⟨G, 3, none⟩ d).setCell ⟨G, 4, none⟩ e).setCell ⟨G, 5, none⟩ f).setCell ⟨G, 6, none⟩ g) (some G) := by
  have h0 := h.set (i := 0) a
  have h1 := h0.set (i := 1) b
  have h2 := h1.set (i := 2) c
  have h3 := h2.set (i := 3) d
  have h4 := h3.set (i := 4) e
  have h5 := h4.set (i := 5) f
  have h6 := h5.set (i := 6) g
  exact ⟨h6, grownBy_trans (grownBy_trans (grownBy_trans (grownBy_trans (grownBy_trans (grownBy_trans (setCell_grown _ _ _ _) (setCell_grown _ _ _ _)) (setCell_grown _ _ _ _)) (setCell_grown _ _ _ _)) (setCell_grown _ _ _ _)) (setCell_grown _ _ _ _)) (setCell_grown _ _ _ _)⟩

set_option maxRecDepth 20000 in
set_option maxHeartbeats 1000000 in
theorem opFields_31 (bs : List Nat) (hb : ∀ c ∈ bs, c < 256) (hl : bs.length ≤ 1000000000000) (R : Nat) (v : Value) (st : Option Nat) (w : World) (h : RS bs R v st w) (hm : fmask (tkI bs st).1 = some 31) :
    Calls Try.prog 69 #[.pointer (some ⟨R, 0, none⟩)] w fun e w' => e = .returned (opV (opR bs st).1) ∧ RS bs R v (opR bs st).2 w' ∧ w.grownBy w' (some R) := by
  obtain ⟨x0, ex0⟩ : ∃ x, (tkI bs st).1 = x := ⟨_, rfl⟩
  obtain ⟨s0, es0⟩ : ∃ s, (tkI bs st).2 = s := ⟨_, rfl⟩
  obtain ⟨x1, ex1⟩ : ∃ x, (tkI bs s0).1 = x := ⟨_, rfl⟩
  obtain ⟨s1, es1⟩ : ∃ s, (tkI bs s0).2 = s := ⟨_, rfl⟩
  obtain ⟨x2, ex2⟩ : ∃ x, (tkI bs s1).1 = x := ⟨_, rfl⟩
  obtain ⟨s2, es2⟩ : ∃ s, (tkI bs s1).2 = s := ⟨_, rfl⟩
  obtain ⟨x3, ex3⟩ : ∃ x, (tkI bs s2).1 = x := ⟨_, rfl⟩
  obtain ⟨s3, es3⟩ : ∃ s, (tkI bs s2).2 = s := ⟨_, rfl⟩
  obtain ⟨x4, ex4⟩ : ∃ x, (tkI bs s3).1 = x := ⟨_, rfl⟩
  obtain ⟨s4, es4⟩ : ∃ s, (tkI bs s3).2 = s := ⟨_, rfl⟩
  obtain ⟨x5, ex5⟩ : ∃ x, (tkI bs s4).1 = x := ⟨_, rfl⟩
  obtain ⟨s5, es5⟩ : ∃ s, (tkI bs s4).2 = s := ⟨_, rfl⟩
  have E1 : opR bs st = (⟨x0, x1, x2, x3, x4, x5, ⟨#[]⟩⟩, s5) := by
    unfold opR; rw [ex0] at hm; simp only [ex0, es0, hm]; simp [tkIf, tkTf, ex1, es1, ex2, es2, ex3, es3, ex4, es4, ex5, es5]
  have FO : Hid (∀ w, Calls Try.prog 46 #[.int .i64 x0] w fun e w' => e = .returned (.tuple #[.int .i64 31, .bool true]) ∧ w' = w) := fun w => by
    have := fieldsOf_at x0 w
    rw [ex0] at hm; rw [hm] at this; exact this
  have P0 : Hid (∀ w, RS bs R v st w → Calls Try.prog 74 #[.pointer (some ⟨R, 0, none⟩)] w fun e w' => e = .returned (.int .i64 x0) ∧ RS bs R v s0 w' ∧ w.grownBy w' (some R)) := fun w h => by
    have := number_at bs hb hl R v st w h
    rw [ex0, es0] at this; exact this
  have P1 : Hid (∀ w, RS bs R v s0 w → Calls Try.prog 74 #[.pointer (some ⟨R, 0, none⟩)] w fun e w' => e = .returned (.int .i64 x1) ∧ RS bs R v s1 w' ∧ w.grownBy w' (some R)) := fun w h => by
    have := number_at bs hb hl R v s0 w h
    rw [ex1, es1] at this; exact this
  have P2 : Hid (∀ w, RS bs R v s1 w → Calls Try.prog 80 #[.pointer (some ⟨R, 0, none⟩)] w fun e w' => e = .returned (.int .i64 x2) ∧ RS bs R v s2 w' ∧ w.grownBy w' (some R)) := fun w h => by
    have := cents_at bs hb hl R v s1 w h
    rw [ex2, es2] at this; exact this
  have P3 : Hid (∀ w, RS bs R v s2 w → Calls Try.prog 80 #[.pointer (some ⟨R, 0, none⟩)] w fun e w' => e = .returned (.int .i64 x3) ∧ RS bs R v s3 w' ∧ w.grownBy w' (some R)) := fun w h => by
    have := cents_at bs hb hl R v s2 w h
    rw [ex3, es3] at this; exact this
  have P4 : Hid (∀ w, RS bs R v s3 w → Calls Try.prog 74 #[.pointer (some ⟨R, 0, none⟩)] w fun e w' => e = .returned (.int .i64 x4) ∧ RS bs R v s4 w' ∧ w.grownBy w' (some R)) := fun w h => by
    have := number_at bs hb hl R v s3 w h
    rw [ex4, es4] at this; exact this
  have P5 : Hid (∀ w, RS bs R v s4 w → Calls Try.prog 74 #[.pointer (some ⟨R, 0, none⟩)] w fun e w' => e = .returned (.int .i64 x5) ∧ RS bs R v s5 w' ∧ w.grownBy w' (some R)) := fun w h => by
    have := number_at bs hb hl R v s4 w h
    rw [ex5, es5] at this; exact this
  rw [E1]
  have H0 : Hid (RS bs R v st w) := h
  have hR := h.lt
  have hV : Hid (∀ g, w.heap.size ≤ g → 0 < bs.length → v.ownBlock ≠ some g) := fun g hg h0 e => by
    have := Rd.block h.rd (by rw [List.length_map]; exact h0) e
    omega
  clear h hm E1 hb hl ex0 es0 ex1 es1 ex2 es2 ex3 es3 ex4 es4 ex5 es5
  unfold opV
  simp only
  go_enter Try.func69, Try.ntmps69
  go_wp2_with fail
  have BD0 := Blk.new 23 [.int .i64 0, .int .i64 0, .int .i64 0, .int .i64 0, .int .i64 0, .int .i64 0, .string ⟨#[]⟩] w
  have BA := below_alloc w (.cells #[.int .i64 0, .int .i64 0, .int .i64 0, .int .i64 0, .int .i64 0, .int .i64 0, .string ⟨#[]⟩] 23)
  refine (P0.out _ (H0.out.below BA)).mono ?_
  rintro e w1 ⟨rfl, r1, g1⟩
  have BD1 : Blk w.heap.size 23 [.int .i64 0, .int .i64 0, .int .i64 0, .int .i64 0, .int .i64 0, .int .i64 0, .string ⟨#[]⟩] w1 := Blk.grown BD0 g1 (by omega)
  have G1 : w.grownBy w1 (some R) := grownBy_trans (grownBy_below BA _) g1
  clear BD0 g1 BA
  have BA1 := below_alloc w1 (.cells #[.int .i64 x0, .int .i64 0, .int .i64 0, .int .i64 0, .int .i64 0, .int .i64 0, .string ⟨#[]⟩] 23)
  have BG2 := Blk.new 23 [.int .i64 x0, .int .i64 0, .int .i64 0, .int .i64 0, .int .i64 0, .int .i64 0, .string ⟨#[]⟩] w1
  have BD2 := Blk.below BD1 BA1
  have R2 := r1.below BA1
  have G2 : w.grownBy (w1.alloc (.cells #[.int .i64 x0, .int .i64 0, .int .i64 0, .int .i64 0, .int .i64 0, .int .i64 0, .string ⟨#[]⟩] 23)) (some R) := grownBy_trans G1 (grownBy_below BA1 _)
  have hG : w.heap.size ≤ w1.heap.size := G1.size
  have hD := BD1.lt
  clear BD1 r1 G1 BA1
  go_wp2_with fail
  refine (FO.out _).mono ?_
  rintro e wx ⟨rfl, hw⟩; rw [hw]; clear hw wx
  obtain ⟨G, hGe⟩ : ∃ G, w1.heap.size = G := ⟨_, rfl⟩
  obtain ⟨D, hDe⟩ : ∃ D, w.heap.size = D := ⟨_, rfl⟩
  rw [hGe] at BG2 hG hD ⊢
  rw [hDe] at BD2 hG hD hR hV ⊢
  have KG : Blk G 23 [.int .i64 x0, .int .i64 0, .int .i64 0, .int .i64 0, .int .i64 0, .int .i64 0, .string ⟨#[]⟩] (w1.alloc (.cells #[.int .i64 x0, .int .i64 0, .int .i64 0, .int .i64 0, .int .i64 0, .int .i64 0, .string ⟨#[]⟩] 23)) := BG2
  clear BG2
  generalize w1.alloc (.cells #[.int .i64 x0, .int .i64 0, .int .i64 0, .int .i64 0, .int .i64 0, .int .i64 0, .string ⟨#[]⟩] 23) = W0 at *
  have C0 := KG.cell 0 _ rfl
  go_wp2_with fail
  refine (P1.out _ R2).mono ?_
  rintro e u1 ⟨rfl, r1, g1⟩
  have bgA1 : Blk G 23 [.int .i64 x0, .int .i64 0, .int .i64 0, .int .i64 0, .int .i64 0, .int .i64 0, .string ⟨#[]⟩] u1 := Blk.grown KG g1 (by omega)
  have bdA1 : Blk D 23 [.int .i64 0, .int .i64 0, .int .i64 0, .int .i64 0, .int .i64 0, .int .i64 0, .string ⟨#[]⟩] u1 := Blk.grown BD2 g1 (by omega)
  have bgB1 : Blk G 23 [.int .i64 x0, .int .i64 x1, .int .i64 0, .int .i64 0, .int .i64 0, .int .i64 0, .string ⟨#[]⟩] (u1.setCell ⟨G, 1, none⟩ (.int .i64 x1)) := Blk.set (i := 1) bgA1 (.int .i64 x1)
  have sg1 := setCell_grown u1 G 1 (.int .i64 x1)
  have bdB1 : Blk D 23 [.int .i64 0, .int .i64 0, .int .i64 0, .int .i64 0, .int .i64 0, .int .i64 0, .string ⟨#[]⟩] (u1.setCell ⟨G, 1, none⟩ (.int .i64 x1)) := Blk.grown bdA1 sg1 (by omega)
  have rsB1 := r1.other sg1 (by omega) (hV.out G hG)
  have gA1 := grownBy_trans G2 g1
  have gB1 : w.grownBy (u1.setCell ⟨G, 1, none⟩ (.int .i64 x1)) (some R) := ⟨sg1.os.trans gA1.os, sg1.tape.trans gA1.tape, sg1.output.trans gA1.output, Nat.le_trans gA1.size sg1.size, fun k hk hn => (sg1.block k (Nat.lt_of_lt_of_le hk gA1.size) (fun e => by injection e with e; omega)).trans (gA1.block k hk hn)⟩
  have cs1 := bgA1.cell 1 _ rfl
  have cf1 := bgA1.fz 1
  clear KG BD2 R2 G2 r1 g1 bgA1 bdA1 gA1 sg1
  go_wp2_with fail
  refine (P2.out _ rsB1).mono ?_
  rintro e u2 ⟨rfl, r2, g2⟩
  have bgA2 : Blk G 23 [.int .i64 x0, .int .i64 x1, .int .i64 0, .int .i64 0, .int .i64 0, .int .i64 0, .string ⟨#[]⟩] u2 := Blk.grown bgB1 g2 (by omega)
  have bdA2 : Blk D 23 [.int .i64 0, .int .i64 0, .int .i64 0, .int .i64 0, .int .i64 0, .int .i64 0, .string ⟨#[]⟩] u2 := Blk.grown bdB1 g2 (by omega)
  have bgB2 : Blk G 23 [.int .i64 x0, .int .i64 x1, .int .i64 x2, .int .i64 0, .int .i64 0, .int .i64 0, .string ⟨#[]⟩] (u2.setCell ⟨G, 2, none⟩ (.int .i64 x2)) := Blk.set (i := 2) bgA2 (.int .i64 x2)
  have sg2 := setCell_grown u2 G 2 (.int .i64 x2)
  have bdB2 : Blk D 23 [.int .i64 0, .int .i64 0, .int .i64 0, .int .i64 0, .int .i64 0, .int .i64 0, .string ⟨#[]⟩] (u2.setCell ⟨G, 2, none⟩ (.int .i64 x2)) := Blk.grown bdA2 sg2 (by omega)
  have rsB2 := r2.other sg2 (by omega) (hV.out G hG)
  have gA2 := grownBy_trans gB1 g2
  have gB2 : w.grownBy (u2.setCell ⟨G, 2, none⟩ (.int .i64 x2)) (some R) := ⟨sg2.os.trans gA2.os, sg2.tape.trans gA2.tape, sg2.output.trans gA2.output, Nat.le_trans gA2.size sg2.size, fun k hk hn => (sg2.block k (Nat.lt_of_lt_of_le hk gA2.size) (fun e => by injection e with e; omega)).trans (gA2.block k hk hn)⟩
  have cs2 := bgA2.cell 2 _ rfl
  have cf2 := bgA2.fz 2
  clear bgB1 bdB1 rsB1 gB1 r2 g2 bgA2 bdA2 gA2 sg2
  go_wp2_with fail
  refine (P3.out _ rsB2).mono ?_
  rintro e u3 ⟨rfl, r3, g3⟩
  have bgA3 : Blk G 23 [.int .i64 x0, .int .i64 x1, .int .i64 x2, .int .i64 0, .int .i64 0, .int .i64 0, .string ⟨#[]⟩] u3 := Blk.grown bgB2 g3 (by omega)
  have bdA3 : Blk D 23 [.int .i64 0, .int .i64 0, .int .i64 0, .int .i64 0, .int .i64 0, .int .i64 0, .string ⟨#[]⟩] u3 := Blk.grown bdB2 g3 (by omega)
  have bgB3 : Blk G 23 [.int .i64 x0, .int .i64 x1, .int .i64 x2, .int .i64 x3, .int .i64 0, .int .i64 0, .string ⟨#[]⟩] (u3.setCell ⟨G, 3, none⟩ (.int .i64 x3)) := Blk.set (i := 3) bgA3 (.int .i64 x3)
  have sg3 := setCell_grown u3 G 3 (.int .i64 x3)
  have bdB3 : Blk D 23 [.int .i64 0, .int .i64 0, .int .i64 0, .int .i64 0, .int .i64 0, .int .i64 0, .string ⟨#[]⟩] (u3.setCell ⟨G, 3, none⟩ (.int .i64 x3)) := Blk.grown bdA3 sg3 (by omega)
  have rsB3 := r3.other sg3 (by omega) (hV.out G hG)
  have gA3 := grownBy_trans gB2 g3
  have gB3 : w.grownBy (u3.setCell ⟨G, 3, none⟩ (.int .i64 x3)) (some R) := ⟨sg3.os.trans gA3.os, sg3.tape.trans gA3.tape, sg3.output.trans gA3.output, Nat.le_trans gA3.size sg3.size, fun k hk hn => (sg3.block k (Nat.lt_of_lt_of_le hk gA3.size) (fun e => by injection e with e; omega)).trans (gA3.block k hk hn)⟩
  have cs3 := bgA3.cell 3 _ rfl
  have cf3 := bgA3.fz 3
  clear bgB2 bdB2 rsB2 gB2 r3 g3 bgA3 bdA3 gA3 sg3
  go_wp2_with fail
  refine (P4.out _ rsB3).mono ?_
  rintro e u4 ⟨rfl, r4, g4⟩
  have bgA4 : Blk G 23 [.int .i64 x0, .int .i64 x1, .int .i64 x2, .int .i64 x3, .int .i64 0, .int .i64 0, .string ⟨#[]⟩] u4 := Blk.grown bgB3 g4 (by omega)
  have bdA4 : Blk D 23 [.int .i64 0, .int .i64 0, .int .i64 0, .int .i64 0, .int .i64 0, .int .i64 0, .string ⟨#[]⟩] u4 := Blk.grown bdB3 g4 (by omega)
  have bgB4 : Blk G 23 [.int .i64 x0, .int .i64 x1, .int .i64 x2, .int .i64 x3, .int .i64 x4, .int .i64 0, .string ⟨#[]⟩] (u4.setCell ⟨G, 4, none⟩ (.int .i64 x4)) := Blk.set (i := 4) bgA4 (.int .i64 x4)
  have sg4 := setCell_grown u4 G 4 (.int .i64 x4)
  have bdB4 : Blk D 23 [.int .i64 0, .int .i64 0, .int .i64 0, .int .i64 0, .int .i64 0, .int .i64 0, .string ⟨#[]⟩] (u4.setCell ⟨G, 4, none⟩ (.int .i64 x4)) := Blk.grown bdA4 sg4 (by omega)
  have rsB4 := r4.other sg4 (by omega) (hV.out G hG)
  have gA4 := grownBy_trans gB3 g4
  have gB4 : w.grownBy (u4.setCell ⟨G, 4, none⟩ (.int .i64 x4)) (some R) := ⟨sg4.os.trans gA4.os, sg4.tape.trans gA4.tape, sg4.output.trans gA4.output, Nat.le_trans gA4.size sg4.size, fun k hk hn => (sg4.block k (Nat.lt_of_lt_of_le hk gA4.size) (fun e => by injection e with e; omega)).trans (gA4.block k hk hn)⟩
  have cs4 := bgA4.cell 4 _ rfl
  have cf4 := bgA4.fz 4
  clear bgB3 bdB3 rsB3 gB3 r4 g4 bgA4 bdA4 gA4 sg4
  go_wp2_with fail
  refine (P5.out _ rsB4).mono ?_
  rintro e u5 ⟨rfl, r5, g5⟩
  have bgA5 : Blk G 23 [.int .i64 x0, .int .i64 x1, .int .i64 x2, .int .i64 x3, .int .i64 x4, .int .i64 0, .string ⟨#[]⟩] u5 := Blk.grown bgB4 g5 (by omega)
  have bdA5 : Blk D 23 [.int .i64 0, .int .i64 0, .int .i64 0, .int .i64 0, .int .i64 0, .int .i64 0, .string ⟨#[]⟩] u5 := Blk.grown bdB4 g5 (by omega)
  have bgB5 : Blk G 23 [.int .i64 x0, .int .i64 x1, .int .i64 x2, .int .i64 x3, .int .i64 x4, .int .i64 x5, .string ⟨#[]⟩] (u5.setCell ⟨G, 5, none⟩ (.int .i64 x5)) := Blk.set (i := 5) bgA5 (.int .i64 x5)
  have sg5 := setCell_grown u5 G 5 (.int .i64 x5)
  have bdB5 : Blk D 23 [.int .i64 0, .int .i64 0, .int .i64 0, .int .i64 0, .int .i64 0, .int .i64 0, .string ⟨#[]⟩] (u5.setCell ⟨G, 5, none⟩ (.int .i64 x5)) := Blk.grown bdA5 sg5 (by omega)
  have rsB5 := r5.other sg5 (by omega) (hV.out G hG)
  have gA5 := grownBy_trans gB4 g5
  have gB5 : w.grownBy (u5.setCell ⟨G, 5, none⟩ (.int .i64 x5)) (some R) := ⟨sg5.os.trans gA5.os, sg5.tape.trans gA5.tape, sg5.output.trans gA5.output, Nat.le_trans gA5.size sg5.size, fun k hk hn => (sg5.block k (Nat.lt_of_lt_of_le hk gA5.size) (fun e => by injection e with e; omega)).trans (gA5.block k hk hn)⟩
  have cs5 := bgA5.cell 5 _ rfl
  have cf5 := bgA5.fz 5
  clear bgB4 bdB4 rsB4 gB4 r5 g5 bgA5 bdA5 gA5 sg5
  have ld0 := bgB5.cell 0 _ rfl
  have lz0 := bdB5.cell 0 _ rfl
  have lf0 := bdB5.fz 0
  have ld1 := bgB5.cell 1 _ rfl
  have lz1 := bdB5.cell 1 _ rfl
  have lf1 := bdB5.fz 1
  have ld2 := bgB5.cell 2 _ rfl
  have lz2 := bdB5.cell 2 _ rfl
  have lf2 := bdB5.fz 2
  have ld3 := bgB5.cell 3 _ rfl
  have lz3 := bdB5.cell 3 _ rfl
  have lf3 := bdB5.fz 3
  have ld4 := bgB5.cell 4 _ rfl
  have lz4 := bdB5.cell 4 _ rfl
  have lf4 := bdB5.fz 4
  have ld5 := bgB5.cell 5 _ rfl
  have lz5 := bdB5.cell 5 _ rfl
  have lf5 := bdB5.fz 5
  have ld6 := bgB5.cell 6 _ rfl
  have lz6 := bdB5.cell 6 _ rfl
  have lf6 := bdB5.fz 6
  go_wp2_with fail
  obtain ⟨b7, g7⟩ := Blk.seven bdB5 (.int .i64 x0) (.int .i64 x1) (.int .i64 x2) (.int .i64 x3) (.int .i64 x4) (.int .i64 x5) (.string ⟨#[]⟩)
  refine bodyPost_cell rfl rfl D _ _ _ _ rfl b7 Try.underlying23 rfl (by kernel_rfl) ⟨rfl, ?_, ?_⟩
  · exact rsB5.other g7 (by omega) (hV.out D (Nat.le_refl _))
  · exact ⟨g7.os.trans gB5.os, g7.tape.trans gB5.tape, g7.output.trans gB5.output, Nat.le_trans gB5.size g7.size, fun k hk hn => (g7.block k (Nat.lt_of_lt_of_le hk gB5.size) (fun e => by injection e with e; omega)).trans (gB5.block k hk hn)⟩

set_option maxRecDepth 20000 in
set_option maxHeartbeats 1000000 in
theorem opFields_11 (bs : List Nat) (hb : ∀ c ∈ bs, c < 256) (hl : bs.length ≤ 1000000000000) (R : Nat) (v : Value) (st : Option Nat) (w : World) (h : RS bs R v st w) (hm : fmask (tkI bs st).1 = some 11) :
    Calls Try.prog 69 #[.pointer (some ⟨R, 0, none⟩)] w fun e w' => e = .returned (opV (opR bs st).1) ∧ RS bs R v (opR bs st).2 w' ∧ w.grownBy w' (some R) := by
  obtain ⟨x0, ex0⟩ : ∃ x, (tkI bs st).1 = x := ⟨_, rfl⟩
  obtain ⟨s0, es0⟩ : ∃ s, (tkI bs st).2 = s := ⟨_, rfl⟩
  obtain ⟨x1, ex1⟩ : ∃ x, (tkI bs s0).1 = x := ⟨_, rfl⟩
  obtain ⟨s1, es1⟩ : ∃ s, (tkI bs s0).2 = s := ⟨_, rfl⟩
  obtain ⟨x2, ex2⟩ : ∃ x, (tkI bs s1).1 = x := ⟨_, rfl⟩
  obtain ⟨s2, es2⟩ : ∃ s, (tkI bs s1).2 = s := ⟨_, rfl⟩
  obtain ⟨x4, ex4⟩ : ∃ x, (tkI bs s2).1 = x := ⟨_, rfl⟩
  obtain ⟨s4, es4⟩ : ∃ s, (tkI bs s2).2 = s := ⟨_, rfl⟩
  have E1 : opR bs st = (⟨x0, x1, x2, 0, x4, 0, ⟨#[]⟩⟩, s4) := by
    unfold opR; rw [ex0] at hm; simp only [ex0, es0, hm]; simp [tkIf, tkTf, ex1, es1, ex2, es2, ex4, es4]
  have FO : Hid (∀ w, Calls Try.prog 46 #[.int .i64 x0] w fun e w' => e = .returned (.tuple #[.int .i64 11, .bool true]) ∧ w' = w) := fun w => by
    have := fieldsOf_at x0 w
    rw [ex0] at hm; rw [hm] at this; exact this
  have P0 : Hid (∀ w, RS bs R v st w → Calls Try.prog 74 #[.pointer (some ⟨R, 0, none⟩)] w fun e w' => e = .returned (.int .i64 x0) ∧ RS bs R v s0 w' ∧ w.grownBy w' (some R)) := fun w h => by
    have := number_at bs hb hl R v st w h
    rw [ex0, es0] at this; exact this
  have P1 : Hid (∀ w, RS bs R v s0 w → Calls Try.prog 74 #[.pointer (some ⟨R, 0, none⟩)] w fun e w' => e = .returned (.int .i64 x1) ∧ RS bs R v s1 w' ∧ w.grownBy w' (some R)) := fun w h => by
    have := number_at bs hb hl R v s0 w h
    rw [ex1, es1] at this; exact this
  have P2 : Hid (∀ w, RS bs R v s1 w → Calls Try.prog 80 #[.pointer (some ⟨R, 0, none⟩)] w fun e w' => e = .returned (.int .i64 x2) ∧ RS bs R v s2 w' ∧ w.grownBy w' (some R)) := fun w h => by
    have := cents_at bs hb hl R v s1 w h
    rw [ex2, es2] at this; exact this
  have P4 : Hid (∀ w, RS bs R v s2 w → Calls Try.prog 74 #[.pointer (some ⟨R, 0, none⟩)] w fun e w' => e = .returned (.int .i64 x4) ∧ RS bs R v s4 w' ∧ w.grownBy w' (some R)) := fun w h => by
    have := number_at bs hb hl R v s2 w h
    rw [ex4, es4] at this; exact this
  rw [E1]
  have H0 : Hid (RS bs R v st w) := h
  have hR := h.lt
  have hV : Hid (∀ g, w.heap.size ≤ g → 0 < bs.length → v.ownBlock ≠ some g) := fun g hg h0 e => by
    have := Rd.block h.rd (by rw [List.length_map]; exact h0) e
    omega
  clear h hm E1 hb hl ex0 es0 ex1 es1 ex2 es2 ex4 es4
  unfold opV
  simp only
  go_enter Try.func69, Try.ntmps69
  go_wp2_with fail
  have BD0 := Blk.new 23 [.int .i64 0, .int .i64 0, .int .i64 0, .int .i64 0, .int .i64 0, .int .i64 0, .string ⟨#[]⟩] w
  have BA := below_alloc w (.cells #[.int .i64 0, .int .i64 0, .int .i64 0, .int .i64 0, .int .i64 0, .int .i64 0, .string ⟨#[]⟩] 23)
  refine (P0.out _ (H0.out.below BA)).mono ?_
  rintro e w1 ⟨rfl, r1, g1⟩
  have BD1 : Blk w.heap.size 23 [.int .i64 0, .int .i64 0, .int .i64 0, .int .i64 0, .int .i64 0, .int .i64 0, .string ⟨#[]⟩] w1 := Blk.grown BD0 g1 (by omega)
  have G1 : w.grownBy w1 (some R) := grownBy_trans (grownBy_below BA _) g1
  clear BD0 g1 BA
  have BA1 := below_alloc w1 (.cells #[.int .i64 x0, .int .i64 0, .int .i64 0, .int .i64 0, .int .i64 0, .int .i64 0, .string ⟨#[]⟩] 23)
  have BG2 := Blk.new 23 [.int .i64 x0, .int .i64 0, .int .i64 0, .int .i64 0, .int .i64 0, .int .i64 0, .string ⟨#[]⟩] w1
  have BD2 := Blk.below BD1 BA1
  have R2 := r1.below BA1
  have G2 : w.grownBy (w1.alloc (.cells #[.int .i64 x0, .int .i64 0, .int .i64 0, .int .i64 0, .int .i64 0, .int .i64 0, .string ⟨#[]⟩] 23)) (some R) := grownBy_trans G1 (grownBy_below BA1 _)
  have hG : w.heap.size ≤ w1.heap.size := G1.size
  have hD := BD1.lt
  clear BD1 r1 G1 BA1
  go_wp2_with fail
  refine (FO.out _).mono ?_
  rintro e wx ⟨rfl, hw⟩; rw [hw]; clear hw wx
  obtain ⟨G, hGe⟩ : ∃ G, w1.heap.size = G := ⟨_, rfl⟩
  obtain ⟨D, hDe⟩ : ∃ D, w.heap.size = D := ⟨_, rfl⟩
  rw [hGe] at BG2 hG hD ⊢
  rw [hDe] at BD2 hG hD hR hV ⊢
  have KG : Blk G 23 [.int .i64 x0, .int .i64 0, .int .i64 0, .int .i64 0, .int .i64 0, .int .i64 0, .string ⟨#[]⟩] (w1.alloc (.cells #[.int .i64 x0, .int .i64 0, .int .i64 0, .int .i64 0, .int .i64 0, .int .i64 0, .string ⟨#[]⟩] 23)) := BG2
  clear BG2
  generalize w1.alloc (.cells #[.int .i64 x0, .int .i64 0, .int .i64 0, .int .i64 0, .int .i64 0, .int .i64 0, .string ⟨#[]⟩] 23) = W0 at *
  have C0 := KG.cell 0 _ rfl
  go_wp2_with fail
  refine (P1.out _ R2).mono ?_
  rintro e u1 ⟨rfl, r1, g1⟩
  have bgA1 : Blk G 23 [.int .i64 x0, .int .i64 0, .int .i64 0, .int .i64 0, .int .i64 0, .int .i64 0, .string ⟨#[]⟩] u1 := Blk.grown KG g1 (by omega)
  have bdA1 : Blk D 23 [.int .i64 0, .int .i64 0, .int .i64 0, .int .i64 0, .int .i64 0, .int .i64 0, .string ⟨#[]⟩] u1 := Blk.grown BD2 g1 (by omega)
  have bgB1 : Blk G 23 [.int .i64 x0, .int .i64 x1, .int .i64 0, .int .i64 0, .int .i64 0, .int .i64 0, .string ⟨#[]⟩] (u1.setCell ⟨G, 1, none⟩ (.int .i64 x1)) := Blk.set (i := 1) bgA1 (.int .i64 x1)
  have sg1 := setCell_grown u1 G 1 (.int .i64 x1)
  have bdB1 : Blk D 23 [.int .i64 0, .int .i64 0, .int .i64 0, .int .i64 0, .int .i64 0, .int .i64 0, .string ⟨#[]⟩] (u1.setCell ⟨G, 1, none⟩ (.int .i64 x1)) := Blk.grown bdA1 sg1 (by omega)
  have rsB1 := r1.other sg1 (by omega) (hV.out G hG)
  have gA1 := grownBy_trans G2 g1
  have gB1 : w.grownBy (u1.setCell ⟨G, 1, none⟩ (.int .i64 x1)) (some R) := ⟨sg1.os.trans gA1.os, sg1.tape.trans gA1.tape, sg1.output.trans gA1.output, Nat.le_trans gA1.size sg1.size, fun k hk hn => (sg1.block k (Nat.lt_of_lt_of_le hk gA1.size) (fun e => by injection e with e; omega)).trans (gA1.block k hk hn)⟩
  have cs1 := bgA1.cell 1 _ rfl
  have cf1 := bgA1.fz 1
  clear KG BD2 R2 G2 r1 g1 bgA1 bdA1 gA1 sg1
  go_wp2_with fail
  refine (P2.out _ rsB1).mono ?_
  rintro e u2 ⟨rfl, r2, g2⟩
  have bgA2 : Blk G 23 [.int .i64 x0, .int .i64 x1, .int .i64 0, .int .i64 0, .int .i64 0, .int .i64 0, .string ⟨#[]⟩] u2 := Blk.grown bgB1 g2 (by omega)
  have bdA2 : Blk D 23 [.int .i64 0, .int .i64 0, .int .i64 0, .int .i64 0, .int .i64 0, .int .i64 0, .string ⟨#[]⟩] u2 := Blk.grown bdB1 g2 (by omega)
  have bgB2 : Blk G 23 [.int .i64 x0, .int .i64 x1, .int .i64 x2, .int .i64 0, .int .i64 0, .int .i64 0, .string ⟨#[]⟩] (u2.setCell ⟨G, 2, none⟩ (.int .i64 x2)) := Blk.set (i := 2) bgA2 (.int .i64 x2)
  have sg2 := setCell_grown u2 G 2 (.int .i64 x2)
  have bdB2 : Blk D 23 [.int .i64 0, .int .i64 0, .int .i64 0, .int .i64 0, .int .i64 0, .int .i64 0, .string ⟨#[]⟩] (u2.setCell ⟨G, 2, none⟩ (.int .i64 x2)) := Blk.grown bdA2 sg2 (by omega)
  have rsB2 := r2.other sg2 (by omega) (hV.out G hG)
  have gA2 := grownBy_trans gB1 g2
  have gB2 : w.grownBy (u2.setCell ⟨G, 2, none⟩ (.int .i64 x2)) (some R) := ⟨sg2.os.trans gA2.os, sg2.tape.trans gA2.tape, sg2.output.trans gA2.output, Nat.le_trans gA2.size sg2.size, fun k hk hn => (sg2.block k (Nat.lt_of_lt_of_le hk gA2.size) (fun e => by injection e with e; omega)).trans (gA2.block k hk hn)⟩
  have cs2 := bgA2.cell 2 _ rfl
  have cf2 := bgA2.fz 2
  clear bgB1 bdB1 rsB1 gB1 r2 g2 bgA2 bdA2 gA2 sg2
  go_wp2_with fail
  refine (P4.out _ rsB2).mono ?_
  rintro e u4 ⟨rfl, r4, g4⟩
  have bgA4 : Blk G 23 [.int .i64 x0, .int .i64 x1, .int .i64 x2, .int .i64 0, .int .i64 0, .int .i64 0, .string ⟨#[]⟩] u4 := Blk.grown bgB2 g4 (by omega)
  have bdA4 : Blk D 23 [.int .i64 0, .int .i64 0, .int .i64 0, .int .i64 0, .int .i64 0, .int .i64 0, .string ⟨#[]⟩] u4 := Blk.grown bdB2 g4 (by omega)
  have bgB4 : Blk G 23 [.int .i64 x0, .int .i64 x1, .int .i64 x2, .int .i64 0, .int .i64 x4, .int .i64 0, .string ⟨#[]⟩] (u4.setCell ⟨G, 4, none⟩ (.int .i64 x4)) := Blk.set (i := 4) bgA4 (.int .i64 x4)
  have sg4 := setCell_grown u4 G 4 (.int .i64 x4)
  have bdB4 : Blk D 23 [.int .i64 0, .int .i64 0, .int .i64 0, .int .i64 0, .int .i64 0, .int .i64 0, .string ⟨#[]⟩] (u4.setCell ⟨G, 4, none⟩ (.int .i64 x4)) := Blk.grown bdA4 sg4 (by omega)
  have rsB4 := r4.other sg4 (by omega) (hV.out G hG)
  have gA4 := grownBy_trans gB2 g4
  have gB4 : w.grownBy (u4.setCell ⟨G, 4, none⟩ (.int .i64 x4)) (some R) := ⟨sg4.os.trans gA4.os, sg4.tape.trans gA4.tape, sg4.output.trans gA4.output, Nat.le_trans gA4.size sg4.size, fun k hk hn => (sg4.block k (Nat.lt_of_lt_of_le hk gA4.size) (fun e => by injection e with e; omega)).trans (gA4.block k hk hn)⟩
  have cs4 := bgA4.cell 4 _ rfl
  have cf4 := bgA4.fz 4
  clear bgB2 bdB2 rsB2 gB2 r4 g4 bgA4 bdA4 gA4 sg4
  have ld0 := bgB4.cell 0 _ rfl
  have lz0 := bdB4.cell 0 _ rfl
  have lf0 := bdB4.fz 0
  have ld1 := bgB4.cell 1 _ rfl
  have lz1 := bdB4.cell 1 _ rfl
  have lf1 := bdB4.fz 1
  have ld2 := bgB4.cell 2 _ rfl
  have lz2 := bdB4.cell 2 _ rfl
  have lf2 := bdB4.fz 2
  have ld3 := bgB4.cell 3 _ rfl
  have lz3 := bdB4.cell 3 _ rfl
  have lf3 := bdB4.fz 3
  have ld4 := bgB4.cell 4 _ rfl
  have lz4 := bdB4.cell 4 _ rfl
  have lf4 := bdB4.fz 4
  have ld5 := bgB4.cell 5 _ rfl
  have lz5 := bdB4.cell 5 _ rfl
  have lf5 := bdB4.fz 5
  have ld6 := bgB4.cell 6 _ rfl
  have lz6 := bdB4.cell 6 _ rfl
  have lf6 := bdB4.fz 6
  go_wp2_with fail
  obtain ⟨b7, g7⟩ := Blk.seven bdB4 (.int .i64 x0) (.int .i64 x1) (.int .i64 x2) (.int .i64 0) (.int .i64 x4) (.int .i64 0) (.string ⟨#[]⟩)
  refine bodyPost_cell rfl rfl D _ _ _ _ rfl b7 Try.underlying23 rfl (by kernel_rfl) ⟨rfl, ?_, ?_⟩
  · exact rsB4.other g7 (by omega) (hV.out D (Nat.le_refl _))
  · exact ⟨g7.os.trans gB4.os, g7.tape.trans gB4.tape, g7.output.trans gB4.output, Nat.le_trans gB4.size g7.size, fun k hk hn => (g7.block k (Nat.lt_of_lt_of_le hk gB4.size) (fun e => by injection e with e; omega)).trans (gB4.block k hk hn)⟩

set_option maxRecDepth 20000 in
set_option maxHeartbeats 1000000 in
theorem opFields_3 (bs : List Nat) (hb : ∀ c ∈ bs, c < 256) (hl : bs.length ≤ 1000000000000) (R : Nat) (v : Value) (st : Option Nat) (w : World) (h : RS bs R v st w) (hm : fmask (tkI bs st).1 = some 3) :
    Calls Try.prog 69 #[.pointer (some ⟨R, 0, none⟩)] w fun e w' => e = .returned (opV (opR bs st).1) ∧ RS bs R v (opR bs st).2 w' ∧ w.grownBy w' (some R) := by
  obtain ⟨x0, ex0⟩ : ∃ x, (tkI bs st).1 = x := ⟨_, rfl⟩
  obtain ⟨s0, es0⟩ : ∃ s, (tkI bs st).2 = s := ⟨_, rfl⟩
  obtain ⟨x1, ex1⟩ : ∃ x, (tkI bs s0).1 = x := ⟨_, rfl⟩
  obtain ⟨s1, es1⟩ : ∃ s, (tkI bs s0).2 = s := ⟨_, rfl⟩
  obtain ⟨x2, ex2⟩ : ∃ x, (tkI bs s1).1 = x := ⟨_, rfl⟩
  obtain ⟨s2, es2⟩ : ∃ s, (tkI bs s1).2 = s := ⟨_, rfl⟩
  have E1 : opR bs st = (⟨x0, x1, x2, 0, 0, 0, ⟨#[]⟩⟩, s2) := by
    unfold opR; rw [ex0] at hm; simp only [ex0, es0, hm]; simp [tkIf, tkTf, ex1, es1, ex2, es2]
  have FO : Hid (∀ w, Calls Try.prog 46 #[.int .i64 x0] w fun e w' => e = .returned (.tuple #[.int .i64 3, .bool true]) ∧ w' = w) := fun w => by
    have := fieldsOf_at x0 w
    rw [ex0] at hm; rw [hm] at this; exact this
  have P0 : Hid (∀ w, RS bs R v st w → Calls Try.prog 74 #[.pointer (some ⟨R, 0, none⟩)] w fun e w' => e = .returned (.int .i64 x0) ∧ RS bs R v s0 w' ∧ w.grownBy w' (some R)) := fun w h => by
    have := number_at bs hb hl R v st w h
    rw [ex0, es0] at this; exact this
  have P1 : Hid (∀ w, RS bs R v s0 w → Calls Try.prog 74 #[.pointer (some ⟨R, 0, none⟩)] w fun e w' => e = .returned (.int .i64 x1) ∧ RS bs R v s1 w' ∧ w.grownBy w' (some R)) := fun w h => by
    have := number_at bs hb hl R v s0 w h
    rw [ex1, es1] at this; exact this
  have P2 : Hid (∀ w, RS bs R v s1 w → Calls Try.prog 80 #[.pointer (some ⟨R, 0, none⟩)] w fun e w' => e = .returned (.int .i64 x2) ∧ RS bs R v s2 w' ∧ w.grownBy w' (some R)) := fun w h => by
    have := cents_at bs hb hl R v s1 w h
    rw [ex2, es2] at this; exact this
  rw [E1]
  have H0 : Hid (RS bs R v st w) := h
  have hR := h.lt
  have hV : Hid (∀ g, w.heap.size ≤ g → 0 < bs.length → v.ownBlock ≠ some g) := fun g hg h0 e => by
    have := Rd.block h.rd (by rw [List.length_map]; exact h0) e
    omega
  clear h hm E1 hb hl ex0 es0 ex1 es1 ex2 es2
  unfold opV
  simp only
  go_enter Try.func69, Try.ntmps69
  go_wp2_with fail
  have BD0 := Blk.new 23 [.int .i64 0, .int .i64 0, .int .i64 0, .int .i64 0, .int .i64 0, .int .i64 0, .string ⟨#[]⟩] w
  have BA := below_alloc w (.cells #[.int .i64 0, .int .i64 0, .int .i64 0, .int .i64 0, .int .i64 0, .int .i64 0, .string ⟨#[]⟩] 23)
  refine (P0.out _ (H0.out.below BA)).mono ?_
  rintro e w1 ⟨rfl, r1, g1⟩
  have BD1 : Blk w.heap.size 23 [.int .i64 0, .int .i64 0, .int .i64 0, .int .i64 0, .int .i64 0, .int .i64 0, .string ⟨#[]⟩] w1 := Blk.grown BD0 g1 (by omega)
  have G1 : w.grownBy w1 (some R) := grownBy_trans (grownBy_below BA _) g1
  clear BD0 g1 BA
  have BA1 := below_alloc w1 (.cells #[.int .i64 x0, .int .i64 0, .int .i64 0, .int .i64 0, .int .i64 0, .int .i64 0, .string ⟨#[]⟩] 23)
  have BG2 := Blk.new 23 [.int .i64 x0, .int .i64 0, .int .i64 0, .int .i64 0, .int .i64 0, .int .i64 0, .string ⟨#[]⟩] w1
  have BD2 := Blk.below BD1 BA1
  have R2 := r1.below BA1
  have G2 : w.grownBy (w1.alloc (.cells #[.int .i64 x0, .int .i64 0, .int .i64 0, .int .i64 0, .int .i64 0, .int .i64 0, .string ⟨#[]⟩] 23)) (some R) := grownBy_trans G1 (grownBy_below BA1 _)
  have hG : w.heap.size ≤ w1.heap.size := G1.size
  have hD := BD1.lt
  clear BD1 r1 G1 BA1
  go_wp2_with fail
  refine (FO.out _).mono ?_
  rintro e wx ⟨rfl, hw⟩; rw [hw]; clear hw wx
  obtain ⟨G, hGe⟩ : ∃ G, w1.heap.size = G := ⟨_, rfl⟩
  obtain ⟨D, hDe⟩ : ∃ D, w.heap.size = D := ⟨_, rfl⟩
  rw [hGe] at BG2 hG hD ⊢
  rw [hDe] at BD2 hG hD hR hV ⊢
  have KG : Blk G 23 [.int .i64 x0, .int .i64 0, .int .i64 0, .int .i64 0, .int .i64 0, .int .i64 0, .string ⟨#[]⟩] (w1.alloc (.cells #[.int .i64 x0, .int .i64 0, .int .i64 0, .int .i64 0, .int .i64 0, .int .i64 0, .string ⟨#[]⟩] 23)) := BG2
  clear BG2
  generalize w1.alloc (.cells #[.int .i64 x0, .int .i64 0, .int .i64 0, .int .i64 0, .int .i64 0, .int .i64 0, .string ⟨#[]⟩] 23) = W0 at *
  have C0 := KG.cell 0 _ rfl
  go_wp2_with fail
  refine (P1.out _ R2).mono ?_
  rintro e u1 ⟨rfl, r1, g1⟩
  have bgA1 : Blk G 23 [.int .i64 x0, .int .i64 0, .int .i64 0, .int .i64 0, .int .i64 0, .int .i64 0, .string ⟨#[]⟩] u1 := Blk.grown KG g1 (by omega)
  have bdA1 : Blk D 23 [.int .i64 0, .int .i64 0, .int .i64 0, .int .i64 0, .int .i64 0, .int .i64 0, .string ⟨#[]⟩] u1 := Blk.grown BD2 g1 (by omega)
  have bgB1 : Blk G 23 [.int .i64 x0, .int .i64 x1, .int .i64 0, .int .i64 0, .int .i64 0, .int .i64 0, .string ⟨#[]⟩] (u1.setCell ⟨G, 1, none⟩ (.int .i64 x1)) := Blk.set (i := 1) bgA1 (.int .i64 x1)
  have sg1 := setCell_grown u1 G 1 (.int .i64 x1)
  have bdB1 : Blk D 23 [.int .i64 0, .int .i64 0, .int .i64 0, .int .i64 0, .int .i64 0, .int .i64 0, .string ⟨#[]⟩] (u1.setCell ⟨G, 1, none⟩ (.int .i64 x1)) := Blk.grown bdA1 sg1 (by omega)
  have rsB1 := r1.other sg1 (by omega) (hV.out G hG)
  have gA1 := grownBy_trans G2 g1
  have gB1 : w.grownBy (u1.setCell ⟨G, 1, none⟩ (.int .i64 x1)) (some R) := ⟨sg1.os.trans gA1.os, sg1.tape.trans gA1.tape, sg1.output.trans gA1.output, Nat.le_trans gA1.size sg1.size, fun k hk hn => (sg1.block k (Nat.lt_of_lt_of_le hk gA1.size) (fun e => by injection e with e; omega)).trans (gA1.block k hk hn)⟩
  have cs1 := bgA1.cell 1 _ rfl
  have cf1 := bgA1.fz 1
  clear KG BD2 R2 G2 r1 g1 bgA1 bdA1 gA1 sg1
  go_wp2_with fail
  refine (P2.out _ rsB1).mono ?_
  rintro e u2 ⟨rfl, r2, g2⟩
  have bgA2 : Blk G 23 [.int .i64 x0, .int .i64 x1, .int .i64 0, .int .i64 0, .int .i64 0, .int .i64 0, .string ⟨#[]⟩] u2 := Blk.grown bgB1 g2 (by omega)
  have bdA2 : Blk D 23 [.int .i64 0, .int .i64 0, .int .i64 0, .int .i64 0, .int .i64 0, .int .i64 0, .string ⟨#[]⟩] u2 := Blk.grown bdB1 g2 (by omega)
  have bgB2 : Blk G 23 [.int .i64 x0, .int .i64 x1, .int .i64 x2, .int .i64 0, .int .i64 0, .int .i64 0, .string ⟨#[]⟩] (u2.setCell ⟨G, 2, none⟩ (.int .i64 x2)) := Blk.set (i := 2) bgA2 (.int .i64 x2)
  have sg2 := setCell_grown u2 G 2 (.int .i64 x2)
  have bdB2 : Blk D 23 [.int .i64 0, .int .i64 0, .int .i64 0, .int .i64 0, .int .i64 0, .int .i64 0, .string ⟨#[]⟩] (u2.setCell ⟨G, 2, none⟩ (.int .i64 x2)) := Blk.grown bdA2 sg2 (by omega)
  have rsB2 := r2.other sg2 (by omega) (hV.out G hG)
  have gA2 := grownBy_trans gB1 g2
  have gB2 : w.grownBy (u2.setCell ⟨G, 2, none⟩ (.int .i64 x2)) (some R) := ⟨sg2.os.trans gA2.os, sg2.tape.trans gA2.tape, sg2.output.trans gA2.output, Nat.le_trans gA2.size sg2.size, fun k hk hn => (sg2.block k (Nat.lt_of_lt_of_le hk gA2.size) (fun e => by injection e with e; omega)).trans (gA2.block k hk hn)⟩
  have cs2 := bgA2.cell 2 _ rfl
  have cf2 := bgA2.fz 2
  clear bgB1 bdB1 rsB1 gB1 r2 g2 bgA2 bdA2 gA2 sg2
  have ld0 := bgB2.cell 0 _ rfl
  have lz0 := bdB2.cell 0 _ rfl
  have lf0 := bdB2.fz 0
  have ld1 := bgB2.cell 1 _ rfl
  have lz1 := bdB2.cell 1 _ rfl
  have lf1 := bdB2.fz 1
  have ld2 := bgB2.cell 2 _ rfl
  have lz2 := bdB2.cell 2 _ rfl
  have lf2 := bdB2.fz 2
  have ld3 := bgB2.cell 3 _ rfl
  have lz3 := bdB2.cell 3 _ rfl
  have lf3 := bdB2.fz 3
  have ld4 := bgB2.cell 4 _ rfl
  have lz4 := bdB2.cell 4 _ rfl
  have lf4 := bdB2.fz 4
  have ld5 := bgB2.cell 5 _ rfl
  have lz5 := bdB2.cell 5 _ rfl
  have lf5 := bdB2.fz 5
  have ld6 := bgB2.cell 6 _ rfl
  have lz6 := bdB2.cell 6 _ rfl
  have lf6 := bdB2.fz 6
  go_wp2_with fail
  obtain ⟨b7, g7⟩ := Blk.seven bdB2 (.int .i64 x0) (.int .i64 x1) (.int .i64 x2) (.int .i64 0) (.int .i64 0) (.int .i64 0) (.string ⟨#[]⟩)
  refine bodyPost_cell rfl rfl D _ _ _ _ rfl b7 Try.underlying23 rfl (by kernel_rfl) ⟨rfl, ?_, ?_⟩
  · exact rsB2.other g7 (by omega) (hV.out D (Nat.le_refl _))
  · exact ⟨g7.os.trans gB2.os, g7.tape.trans gB2.tape, g7.output.trans gB2.output, Nat.le_trans gB2.size g7.size, fun k hk hn => (g7.block k (Nat.lt_of_lt_of_le hk gB2.size) (fun e => by injection e with e; omega)).trans (gB2.block k hk hn)⟩

set_option maxRecDepth 20000 in
set_option maxHeartbeats 1000000 in
theorem opFields_1 (bs : List Nat) (hb : ∀ c ∈ bs, c < 256) (hl : bs.length ≤ 1000000000000) (R : Nat) (v : Value) (st : Option Nat) (w : World) (h : RS bs R v st w) (hm : fmask (tkI bs st).1 = some 1) :
    Calls Try.prog 69 #[.pointer (some ⟨R, 0, none⟩)] w fun e w' => e = .returned (opV (opR bs st).1) ∧ RS bs R v (opR bs st).2 w' ∧ w.grownBy w' (some R) := by
  obtain ⟨x0, ex0⟩ : ∃ x, (tkI bs st).1 = x := ⟨_, rfl⟩
  obtain ⟨s0, es0⟩ : ∃ s, (tkI bs st).2 = s := ⟨_, rfl⟩
  obtain ⟨x1, ex1⟩ : ∃ x, (tkI bs s0).1 = x := ⟨_, rfl⟩
  obtain ⟨s1, es1⟩ : ∃ s, (tkI bs s0).2 = s := ⟨_, rfl⟩
  have E1 : opR bs st = (⟨x0, x1, 0, 0, 0, 0, ⟨#[]⟩⟩, s1) := by
    unfold opR; rw [ex0] at hm; simp only [ex0, es0, hm]; simp [tkIf, tkTf, ex1, es1]
  have FO : Hid (∀ w, Calls Try.prog 46 #[.int .i64 x0] w fun e w' => e = .returned (.tuple #[.int .i64 1, .bool true]) ∧ w' = w) := fun w => by
    have := fieldsOf_at x0 w
    rw [ex0] at hm; rw [hm] at this; exact this
  have P0 : Hid (∀ w, RS bs R v st w → Calls Try.prog 74 #[.pointer (some ⟨R, 0, none⟩)] w fun e w' => e = .returned (.int .i64 x0) ∧ RS bs R v s0 w' ∧ w.grownBy w' (some R)) := fun w h => by
    have := number_at bs hb hl R v st w h
    rw [ex0, es0] at this; exact this
  have P1 : Hid (∀ w, RS bs R v s0 w → Calls Try.prog 74 #[.pointer (some ⟨R, 0, none⟩)] w fun e w' => e = .returned (.int .i64 x1) ∧ RS bs R v s1 w' ∧ w.grownBy w' (some R)) := fun w h => by
    have := number_at bs hb hl R v s0 w h
    rw [ex1, es1] at this; exact this
  rw [E1]
  have H0 : Hid (RS bs R v st w) := h
  have hR := h.lt
  have hV : Hid (∀ g, w.heap.size ≤ g → 0 < bs.length → v.ownBlock ≠ some g) := fun g hg h0 e => by
    have := Rd.block h.rd (by rw [List.length_map]; exact h0) e
    omega
  clear h hm E1 hb hl ex0 es0 ex1 es1
  unfold opV
  simp only
  go_enter Try.func69, Try.ntmps69
  go_wp2_with fail
  have BD0 := Blk.new 23 [.int .i64 0, .int .i64 0, .int .i64 0, .int .i64 0, .int .i64 0, .int .i64 0, .string ⟨#[]⟩] w
  have BA := below_alloc w (.cells #[.int .i64 0, .int .i64 0, .int .i64 0, .int .i64 0, .int .i64 0, .int .i64 0, .string ⟨#[]⟩] 23)
  refine (P0.out _ (H0.out.below BA)).mono ?_
  rintro e w1 ⟨rfl, r1, g1⟩
  have BD1 : Blk w.heap.size 23 [.int .i64 0, .int .i64 0, .int .i64 0, .int .i64 0, .int .i64 0, .int .i64 0, .string ⟨#[]⟩] w1 := Blk.grown BD0 g1 (by omega)
  have G1 : w.grownBy w1 (some R) := grownBy_trans (grownBy_below BA _) g1
  clear BD0 g1 BA
  have BA1 := below_alloc w1 (.cells #[.int .i64 x0, .int .i64 0, .int .i64 0, .int .i64 0, .int .i64 0, .int .i64 0, .string ⟨#[]⟩] 23)
  have BG2 := Blk.new 23 [.int .i64 x0, .int .i64 0, .int .i64 0, .int .i64 0, .int .i64 0, .int .i64 0, .string ⟨#[]⟩] w1
  have BD2 := Blk.below BD1 BA1
  have R2 := r1.below BA1
  have G2 : w.grownBy (w1.alloc (.cells #[.int .i64 x0, .int .i64 0, .int .i64 0, .int .i64 0, .int .i64 0, .int .i64 0, .string ⟨#[]⟩] 23)) (some R) := grownBy_trans G1 (grownBy_below BA1 _)
  have hG : w.heap.size ≤ w1.heap.size := G1.size
  have hD := BD1.lt
  clear BD1 r1 G1 BA1
  go_wp2_with fail
  refine (FO.out _).mono ?_
  rintro e wx ⟨rfl, hw⟩; rw [hw]; clear hw wx
  obtain ⟨G, hGe⟩ : ∃ G, w1.heap.size = G := ⟨_, rfl⟩
  obtain ⟨D, hDe⟩ : ∃ D, w.heap.size = D := ⟨_, rfl⟩
  rw [hGe] at BG2 hG hD ⊢
  rw [hDe] at BD2 hG hD hR hV ⊢
  have KG : Blk G 23 [.int .i64 x0, .int .i64 0, .int .i64 0, .int .i64 0, .int .i64 0, .int .i64 0, .string ⟨#[]⟩] (w1.alloc (.cells #[.int .i64 x0, .int .i64 0, .int .i64 0, .int .i64 0, .int .i64 0, .int .i64 0, .string ⟨#[]⟩] 23)) := BG2
  clear BG2
  generalize w1.alloc (.cells #[.int .i64 x0, .int .i64 0, .int .i64 0, .int .i64 0, .int .i64 0, .int .i64 0, .string ⟨#[]⟩] 23) = W0 at *
  have C0 := KG.cell 0 _ rfl
  go_wp2_with fail
  refine (P1.out _ R2).mono ?_
  rintro e u1 ⟨rfl, r1, g1⟩
  have bgA1 : Blk G 23 [.int .i64 x0, .int .i64 0, .int .i64 0, .int .i64 0, .int .i64 0, .int .i64 0, .string ⟨#[]⟩] u1 := Blk.grown KG g1 (by omega)
  have bdA1 : Blk D 23 [.int .i64 0, .int .i64 0, .int .i64 0, .int .i64 0, .int .i64 0, .int .i64 0, .string ⟨#[]⟩] u1 := Blk.grown BD2 g1 (by omega)
  have bgB1 : Blk G 23 [.int .i64 x0, .int .i64 x1, .int .i64 0, .int .i64 0, .int .i64 0, .int .i64 0, .string ⟨#[]⟩] (u1.setCell ⟨G, 1, none⟩ (.int .i64 x1)) := Blk.set (i := 1) bgA1 (.int .i64 x1)
  have sg1 := setCell_grown u1 G 1 (.int .i64 x1)
  have bdB1 : Blk D 23 [.int .i64 0, .int .i64 0, .int .i64 0, .int .i64 0, .int .i64 0, .int .i64 0, .string ⟨#[]⟩] (u1.setCell ⟨G, 1, none⟩ (.int .i64 x1)) := Blk.grown bdA1 sg1 (by omega)
  have rsB1 := r1.other sg1 (by omega) (hV.out G hG)
  have gA1 := grownBy_trans G2 g1
  have gB1 : w.grownBy (u1.setCell ⟨G, 1, none⟩ (.int .i64 x1)) (some R) := ⟨sg1.os.trans gA1.os, sg1.tape.trans gA1.tape, sg1.output.trans gA1.output, Nat.le_trans gA1.size sg1.size, fun k hk hn => (sg1.block k (Nat.lt_of_lt_of_le hk gA1.size) (fun e => by injection e with e; omega)).trans (gA1.block k hk hn)⟩
  have cs1 := bgA1.cell 1 _ rfl
  have cf1 := bgA1.fz 1
  clear KG BD2 R2 G2 r1 g1 bgA1 bdA1 gA1 sg1
  have ld0 := bgB1.cell 0 _ rfl
  have lz0 := bdB1.cell 0 _ rfl
  have lf0 := bdB1.fz 0
  have ld1 := bgB1.cell 1 _ rfl
  have lz1 := bdB1.cell 1 _ rfl
  have lf1 := bdB1.fz 1
  have ld2 := bgB1.cell 2 _ rfl
  have lz2 := bdB1.cell 2 _ rfl
  have lf2 := bdB1.fz 2
  have ld3 := bgB1.cell 3 _ rfl
  have lz3 := bdB1.cell 3 _ rfl
  have lf3 := bdB1.fz 3
  have ld4 := bgB1.cell 4 _ rfl
  have lz4 := bdB1.cell 4 _ rfl
  have lf4 := bdB1.fz 4
  have ld5 := bgB1.cell 5 _ rfl
  have lz5 := bdB1.cell 5 _ rfl
  have lf5 := bdB1.fz 5
  have ld6 := bgB1.cell 6 _ rfl
  have lz6 := bdB1.cell 6 _ rfl
  have lf6 := bdB1.fz 6
  go_wp2_with fail
  obtain ⟨b7, g7⟩ := Blk.seven bdB1 (.int .i64 x0) (.int .i64 x1) (.int .i64 0) (.int .i64 0) (.int .i64 0) (.int .i64 0) (.string ⟨#[]⟩)
  refine bodyPost_cell rfl rfl D _ _ _ _ rfl b7 Try.underlying23 rfl (by kernel_rfl) ⟨rfl, ?_, ?_⟩
  · exact rsB1.other g7 (by omega) (hV.out D (Nat.le_refl _))
  · exact ⟨g7.os.trans gB1.os, g7.tape.trans gB1.tape, g7.output.trans gB1.output, Nat.le_trans gB1.size g7.size, fun k hk hn => (g7.block k (Nat.lt_of_lt_of_le hk gB1.size) (fun e => by injection e with e; omega)).trans (gB1.block k hk hn)⟩

set_option maxRecDepth 20000 in
set_option maxHeartbeats 1000000 in
theorem opFields_19 (bs : List Nat) (hb : ∀ c ∈ bs, c < 256) (hl : bs.length ≤ 1000000000000) (R : Nat) (v : Value) (st : Option Nat) (w : World) (h : RS bs R v st w) (hm : fmask (tkI bs st).1 = some 19) :
    Calls Try.prog 69 #[.pointer (some ⟨R, 0, none⟩)] w fun e w' => e = .returned (opV (opR bs st).1) ∧ RS bs R v (opR bs st).2 w' ∧ w.grownBy w' (some R) := by
  obtain ⟨x0, ex0⟩ : ∃ x, (tkI bs st).1 = x := ⟨_, rfl⟩
  obtain ⟨s0, es0⟩ : ∃ s, (tkI bs st).2 = s := ⟨_, rfl⟩
  obtain ⟨x1, ex1⟩ : ∃ x, (tkI bs s0).1 = x := ⟨_, rfl⟩
  obtain ⟨s1, es1⟩ : ∃ s, (tkI bs s0).2 = s := ⟨_, rfl⟩
  obtain ⟨x2, ex2⟩ : ∃ x, (tkI bs s1).1 = x := ⟨_, rfl⟩
  obtain ⟨s2, es2⟩ : ∃ s, (tkI bs s1).2 = s := ⟨_, rfl⟩
  obtain ⟨x5, ex5⟩ : ∃ x, (tkI bs s2).1 = x := ⟨_, rfl⟩
  obtain ⟨s5, es5⟩ : ∃ s, (tkI bs s2).2 = s := ⟨_, rfl⟩
  have E1 : opR bs st = (⟨x0, x1, x2, 0, 0, x5, ⟨#[]⟩⟩, s5) := by
    unfold opR; rw [ex0] at hm; simp only [ex0, es0, hm]; simp [tkIf, tkTf, ex1, es1, ex2, es2, ex5, es5]
  have FO : Hid (∀ w, Calls Try.prog 46 #[.int .i64 x0] w fun e w' => e = .returned (.tuple #[.int .i64 19, .bool true]) ∧ w' = w) := fun w => by
    have := fieldsOf_at x0 w
    rw [ex0] at hm; rw [hm] at this; exact this
  have P0 : Hid (∀ w, RS bs R v st w → Calls Try.prog 74 #[.pointer (some ⟨R, 0, none⟩)] w fun e w' => e = .returned (.int .i64 x0) ∧ RS bs R v s0 w' ∧ w.grownBy w' (some R)) := fun w h => by
    have := number_at bs hb hl R v st w h
    rw [ex0, es0] at this; exact this
  have P1 : Hid (∀ w, RS bs R v s0 w → Calls Try.prog 74 #[.pointer (some ⟨R, 0, none⟩)] w fun e w' => e = .returned (.int .i64 x1) ∧ RS bs R v s1 w' ∧ w.grownBy w' (some R)) := fun w h => by
    have := number_at bs hb hl R v s0 w h
    rw [ex1, es1] at this; exact this
  have P2 : Hid (∀ w, RS bs R v s1 w → Calls Try.prog 80 #[.pointer (some ⟨R, 0, none⟩)] w fun e w' => e = .returned (.int .i64 x2) ∧ RS bs R v s2 w' ∧ w.grownBy w' (some R)) := fun w h => by
    have := cents_at bs hb hl R v s1 w h
    rw [ex2, es2] at this; exact this
  have P5 : Hid (∀ w, RS bs R v s2 w → Calls Try.prog 74 #[.pointer (some ⟨R, 0, none⟩)] w fun e w' => e = .returned (.int .i64 x5) ∧ RS bs R v s5 w' ∧ w.grownBy w' (some R)) := fun w h => by
    have := number_at bs hb hl R v s2 w h
    rw [ex5, es5] at this; exact this
  rw [E1]
  have H0 : Hid (RS bs R v st w) := h
  have hR := h.lt
  have hV : Hid (∀ g, w.heap.size ≤ g → 0 < bs.length → v.ownBlock ≠ some g) := fun g hg h0 e => by
    have := Rd.block h.rd (by rw [List.length_map]; exact h0) e
    omega
  clear h hm E1 hb hl ex0 es0 ex1 es1 ex2 es2 ex5 es5
  unfold opV
  simp only
  go_enter Try.func69, Try.ntmps69
  go_wp2_with fail
  have BD0 := Blk.new 23 [.int .i64 0, .int .i64 0, .int .i64 0, .int .i64 0, .int .i64 0, .int .i64 0, .string ⟨#[]⟩] w
  have BA := below_alloc w (.cells #[.int .i64 0, .int .i64 0, .int .i64 0, .int .i64 0, .int .i64 0, .int .i64 0, .string ⟨#[]⟩] 23)
  refine (P0.out _ (H0.out.below BA)).mono ?_
  rintro e w1 ⟨rfl, r1, g1⟩
  have BD1 : Blk w.heap.size 23 [.int .i64 0, .int .i64 0, .int .i64 0, .int .i64 0, .int .i64 0, .int .i64 0, .string ⟨#[]⟩] w1 := Blk.grown BD0 g1 (by omega)
  have G1 : w.grownBy w1 (some R) := grownBy_trans (grownBy_below BA _) g1
  clear BD0 g1 BA
  have BA1 := below_alloc w1 (.cells #[.int .i64 x0, .int .i64 0, .int .i64 0, .int .i64 0, .int .i64 0, .int .i64 0, .string ⟨#[]⟩] 23)
  have BG2 := Blk.new 23 [.int .i64 x0, .int .i64 0, .int .i64 0, .int .i64 0, .int .i64 0, .int .i64 0, .string ⟨#[]⟩] w1
  have BD2 := Blk.below BD1 BA1
  have R2 := r1.below BA1
  have G2 : w.grownBy (w1.alloc (.cells #[.int .i64 x0, .int .i64 0, .int .i64 0, .int .i64 0, .int .i64 0, .int .i64 0, .string ⟨#[]⟩] 23)) (some R) := grownBy_trans G1 (grownBy_below BA1 _)
  have hG : w.heap.size ≤ w1.heap.size := G1.size
  have hD := BD1.lt
  clear BD1 r1 G1 BA1
  go_wp2_with fail
  refine (FO.out _).mono ?_
  rintro e wx ⟨rfl, hw⟩; rw [hw]; clear hw wx
  obtain ⟨G, hGe⟩ : ∃ G, w1.heap.size = G := ⟨_, rfl⟩
  obtain ⟨D, hDe⟩ : ∃ D, w.heap.size = D := ⟨_, rfl⟩
  rw [hGe] at BG2 hG hD ⊢
  rw [hDe] at BD2 hG hD hR hV ⊢
  have KG : Blk G 23 [.int .i64 x0, .int .i64 0, .int .i64 0, .int .i64 0, .int .i64 0, .int .i64 0, .string ⟨#[]⟩] (w1.alloc (.cells #[.int .i64 x0, .int .i64 0, .int .i64 0, .int .i64 0, .int .i64 0, .int .i64 0, .string ⟨#[]⟩] 23)) := BG2
  clear BG2
  generalize w1.alloc (.cells #[.int .i64 x0, .int .i64 0, .int .i64 0, .int .i64 0, .int .i64 0, .int .i64 0, .string ⟨#[]⟩] 23) = W0 at *
  have C0 := KG.cell 0 _ rfl
  go_wp2_with fail
  refine (P1.out _ R2).mono ?_
  rintro e u1 ⟨rfl, r1, g1⟩
  have bgA1 : Blk G 23 [.int .i64 x0, .int .i64 0, .int .i64 0, .int .i64 0, .int .i64 0, .int .i64 0, .string ⟨#[]⟩] u1 := Blk.grown KG g1 (by omega)
  have bdA1 : Blk D 23 [.int .i64 0, .int .i64 0, .int .i64 0, .int .i64 0, .int .i64 0, .int .i64 0, .string ⟨#[]⟩] u1 := Blk.grown BD2 g1 (by omega)
  have bgB1 : Blk G 23 [.int .i64 x0, .int .i64 x1, .int .i64 0, .int .i64 0, .int .i64 0, .int .i64 0, .string ⟨#[]⟩] (u1.setCell ⟨G, 1, none⟩ (.int .i64 x1)) := Blk.set (i := 1) bgA1 (.int .i64 x1)
  have sg1 := setCell_grown u1 G 1 (.int .i64 x1)
  have bdB1 : Blk D 23 [.int .i64 0, .int .i64 0, .int .i64 0, .int .i64 0, .int .i64 0, .int .i64 0, .string ⟨#[]⟩] (u1.setCell ⟨G, 1, none⟩ (.int .i64 x1)) := Blk.grown bdA1 sg1 (by omega)
  have rsB1 := r1.other sg1 (by omega) (hV.out G hG)
  have gA1 := grownBy_trans G2 g1
  have gB1 : w.grownBy (u1.setCell ⟨G, 1, none⟩ (.int .i64 x1)) (some R) := ⟨sg1.os.trans gA1.os, sg1.tape.trans gA1.tape, sg1.output.trans gA1.output, Nat.le_trans gA1.size sg1.size, fun k hk hn => (sg1.block k (Nat.lt_of_lt_of_le hk gA1.size) (fun e => by injection e with e; omega)).trans (gA1.block k hk hn)⟩
  have cs1 := bgA1.cell 1 _ rfl
  have cf1 := bgA1.fz 1
  clear KG BD2 R2 G2 r1 g1 bgA1 bdA1 gA1 sg1
  go_wp2_with fail
  refine (P2.out _ rsB1).mono ?_
  rintro e u2 ⟨rfl, r2, g2⟩
  have bgA2 : Blk G 23 [.int .i64 x0, .int .i64 x1, .int .i64 0, .int .i64 0, .int .i64 0, .int .i64 0, .string ⟨#[]⟩] u2 := Blk.grown bgB1 g2 (by omega)
  have bdA2 : Blk D 23 [.int .i64 0, .int .i64 0, .int .i64 0, .int .i64 0, .int .i64 0, .int .i64 0, .string ⟨#[]⟩] u2 := Blk.grown bdB1 g2 (by omega)
  have bgB2 : Blk G 23 [.int .i64 x0, .int .i64 x1, .int .i64 x2, .int .i64 0, .int .i64 0, .int .i64 0, .string ⟨#[]⟩] (u2.setCell ⟨G, 2, none⟩ (.int .i64 x2)) := Blk.set (i := 2) bgA2 (.int .i64 x2)
  have sg2 := setCell_grown u2 G 2 (.int .i64 x2)
  have bdB2 : Blk D 23 [.int .i64 0, .int .i64 0, .int .i64 0, .int .i64 0, .int .i64 0, .int .i64 0, .string ⟨#[]⟩] (u2.setCell ⟨G, 2, none⟩ (.int .i64 x2)) := Blk.grown bdA2 sg2 (by omega)
  have rsB2 := r2.other sg2 (by omega) (hV.out G hG)
  have gA2 := grownBy_trans gB1 g2
  have gB2 : w.grownBy (u2.setCell ⟨G, 2, none⟩ (.int .i64 x2)) (some R) := ⟨sg2.os.trans gA2.os, sg2.tape.trans gA2.tape, sg2.output.trans gA2.output, Nat.le_trans gA2.size sg2.size, fun k hk hn => (sg2.block k (Nat.lt_of_lt_of_le hk gA2.size) (fun e => by injection e with e; omega)).trans (gA2.block k hk hn)⟩
  have cs2 := bgA2.cell 2 _ rfl
  have cf2 := bgA2.fz 2
  clear bgB1 bdB1 rsB1 gB1 r2 g2 bgA2 bdA2 gA2 sg2
  go_wp2_with fail
  refine (P5.out _ rsB2).mono ?_
  rintro e u5 ⟨rfl, r5, g5⟩
  have bgA5 : Blk G 23 [.int .i64 x0, .int .i64 x1, .int .i64 x2, .int .i64 0, .int .i64 0, .int .i64 0, .string ⟨#[]⟩] u5 := Blk.grown bgB2 g5 (by omega)
  have bdA5 : Blk D 23 [.int .i64 0, .int .i64 0, .int .i64 0, .int .i64 0, .int .i64 0, .int .i64 0, .string ⟨#[]⟩] u5 := Blk.grown bdB2 g5 (by omega)
  have bgB5 : Blk G 23 [.int .i64 x0, .int .i64 x1, .int .i64 x2, .int .i64 0, .int .i64 0, .int .i64 x5, .string ⟨#[]⟩] (u5.setCell ⟨G, 5, none⟩ (.int .i64 x5)) := Blk.set (i := 5) bgA5 (.int .i64 x5)
  have sg5 := setCell_grown u5 G 5 (.int .i64 x5)
  have bdB5 : Blk D 23 [.int .i64 0, .int .i64 0, .int .i64 0, .int .i64 0, .int .i64 0, .int .i64 0, .string ⟨#[]⟩] (u5.setCell ⟨G, 5, none⟩ (.int .i64 x5)) := Blk.grown bdA5 sg5 (by omega)
  have rsB5 := r5.other sg5 (by omega) (hV.out G hG)
  have gA5 := grownBy_trans gB2 g5
  have gB5 : w.grownBy (u5.setCell ⟨G, 5, none⟩ (.int .i64 x5)) (some R) := ⟨sg5.os.trans gA5.os, sg5.tape.trans gA5.tape, sg5.output.trans gA5.output, Nat.le_trans gA5.size sg5.size, fun k hk hn => (sg5.block k (Nat.lt_of_lt_of_le hk gA5.size) (fun e => by injection e with e; omega)).trans (gA5.block k hk hn)⟩
  have cs5 := bgA5.cell 5 _ rfl
  have cf5 := bgA5.fz 5
  clear bgB2 bdB2 rsB2 gB2 r5 g5 bgA5 bdA5 gA5 sg5
  have ld0 := bgB5.cell 0 _ rfl
  have lz0 := bdB5.cell 0 _ rfl
  have lf0 := bdB5.fz 0
  have ld1 := bgB5.cell 1 _ rfl
  have lz1 := bdB5.cell 1 _ rfl
  have lf1 := bdB5.fz 1
  have ld2 := bgB5.cell 2 _ rfl
  have lz2 := bdB5.cell 2 _ rfl
  have lf2 := bdB5.fz 2
  have ld3 := bgB5.cell 3 _ rfl
  have lz3 := bdB5.cell 3 _ rfl
  have lf3 := bdB5.fz 3
  have ld4 := bgB5.cell 4 _ rfl
  have lz4 := bdB5.cell 4 _ rfl
  have lf4 := bdB5.fz 4
  have ld5 := bgB5.cell 5 _ rfl
  have lz5 := bdB5.cell 5 _ rfl
  have lf5 := bdB5.fz 5
  have ld6 := bgB5.cell 6 _ rfl
  have lz6 := bdB5.cell 6 _ rfl
  have lf6 := bdB5.fz 6
  go_wp2_with fail
  obtain ⟨b7, g7⟩ := Blk.seven bdB5 (.int .i64 x0) (.int .i64 x1) (.int .i64 x2) (.int .i64 0) (.int .i64 0) (.int .i64 x5) (.string ⟨#[]⟩)
  refine bodyPost_cell rfl rfl D _ _ _ _ rfl b7 Try.underlying23 rfl (by kernel_rfl) ⟨rfl, ?_, ?_⟩
  · exact rsB5.other g7 (by omega) (hV.out D (Nat.le_refl _))
  · exact ⟨g7.os.trans gB5.os, g7.tape.trans gB5.tape, g7.output.trans gB5.output, Nat.le_trans gB5.size g7.size, fun k hk hn => (g7.block k (Nat.lt_of_lt_of_le hk gB5.size) (fun e => by injection e with e; omega)).trans (gB5.block k hk hn)⟩

set_option maxRecDepth 20000 in
set_option maxHeartbeats 1000000 in
theorem opFields_13 (bs : List Nat) (hb : ∀ c ∈ bs, c < 256) (hl : bs.length ≤ 1000000000000) (R : Nat) (v : Value) (st : Option Nat) (w : World) (h : RS bs R v st w) (hm : fmask (tkI bs st).1 = some 13) :
    Calls Try.prog 69 #[.pointer (some ⟨R, 0, none⟩)] w fun e w' => e = .returned (opV (opR bs st).1) ∧ RS bs R v (opR bs st).2 w' ∧ w.grownBy w' (some R) := by
  obtain ⟨x0, ex0⟩ : ∃ x, (tkI bs st).1 = x := ⟨_, rfl⟩
  obtain ⟨s0, es0⟩ : ∃ s, (tkI bs st).2 = s := ⟨_, rfl⟩
  obtain ⟨x1, ex1⟩ : ∃ x, (tkI bs s0).1 = x := ⟨_, rfl⟩
  obtain ⟨s1, es1⟩ : ∃ s, (tkI bs s0).2 = s := ⟨_, rfl⟩
  obtain ⟨x3, ex3⟩ : ∃ x, (tkI bs s1).1 = x := ⟨_, rfl⟩
  obtain ⟨s3, es3⟩ : ∃ s, (tkI bs s1).2 = s := ⟨_, rfl⟩
  obtain ⟨x4, ex4⟩ : ∃ x, (tkI bs s3).1 = x := ⟨_, rfl⟩
  obtain ⟨s4, es4⟩ : ∃ s, (tkI bs s3).2 = s := ⟨_, rfl⟩
  have E1 : opR bs st = (⟨x0, x1, 0, x3, x4, 0, ⟨#[]⟩⟩, s4) := by
    unfold opR; rw [ex0] at hm; simp only [ex0, es0, hm]; simp [tkIf, tkTf, ex1, es1, ex3, es3, ex4, es4]
  have FO : Hid (∀ w, Calls Try.prog 46 #[.int .i64 x0] w fun e w' => e = .returned (.tuple #[.int .i64 13, .bool true]) ∧ w' = w) := fun w => by
    have := fieldsOf_at x0 w
    rw [ex0] at hm; rw [hm] at this; exact this
  have P0 : Hid (∀ w, RS bs R v st w → Calls Try.prog 74 #[.pointer (some ⟨R, 0, none⟩)] w fun e w' => e = .returned (.int .i64 x0) ∧ RS bs R v s0 w' ∧ w.grownBy w' (some R)) := fun w h => by
    have := number_at bs hb hl R v st w h
    rw [ex0, es0] at this; exact this
  have P1 : Hid (∀ w, RS bs R v s0 w → Calls Try.prog 74 #[.pointer (some ⟨R, 0, none⟩)] w fun e w' => e = .returned (.int .i64 x1) ∧ RS bs R v s1 w' ∧ w.grownBy w' (some R)) := fun w h => by
    have := number_at bs hb hl R v s0 w h
    rw [ex1, es1] at this; exact this
  have P3 : Hid (∀ w, RS bs R v s1 w → Calls Try.prog 80 #[.pointer (some ⟨R, 0, none⟩)] w fun e w' => e = .returned (.int .i64 x3) ∧ RS bs R v s3 w' ∧ w.grownBy w' (some R)) := fun w h => by
    have := cents_at bs hb hl R v s1 w h
    rw [ex3, es3] at this; exact this
  have P4 : Hid (∀ w, RS bs R v s3 w → Calls Try.prog 74 #[.pointer (some ⟨R, 0, none⟩)] w fun e w' => e = .returned (.int .i64 x4) ∧ RS bs R v s4 w' ∧ w.grownBy w' (some R)) := fun w h => by
    have := number_at bs hb hl R v s3 w h
    rw [ex4, es4] at this; exact this
  rw [E1]
  have H0 : Hid (RS bs R v st w) := h
  have hR := h.lt
  have hV : Hid (∀ g, w.heap.size ≤ g → 0 < bs.length → v.ownBlock ≠ some g) := fun g hg h0 e => by
    have := Rd.block h.rd (by rw [List.length_map]; exact h0) e
    omega
  clear h hm E1 hb hl ex0 es0 ex1 es1 ex3 es3 ex4 es4
  unfold opV
  simp only
  go_enter Try.func69, Try.ntmps69
  go_wp2_with fail
  have BD0 := Blk.new 23 [.int .i64 0, .int .i64 0, .int .i64 0, .int .i64 0, .int .i64 0, .int .i64 0, .string ⟨#[]⟩] w
  have BA := below_alloc w (.cells #[.int .i64 0, .int .i64 0, .int .i64 0, .int .i64 0, .int .i64 0, .int .i64 0, .string ⟨#[]⟩] 23)
  refine (P0.out _ (H0.out.below BA)).mono ?_
  rintro e w1 ⟨rfl, r1, g1⟩
  have BD1 : Blk w.heap.size 23 [.int .i64 0, .int .i64 0, .int .i64 0, .int .i64 0, .int .i64 0, .int .i64 0, .string ⟨#[]⟩] w1 := Blk.grown BD0 g1 (by omega)
  have G1 : w.grownBy w1 (some R) := grownBy_trans (grownBy_below BA _) g1
  clear BD0 g1 BA
  have BA1 := below_alloc w1 (.cells #[.int .i64 x0, .int .i64 0, .int .i64 0, .int .i64 0, .int .i64 0, .int .i64 0, .string ⟨#[]⟩] 23)
  have BG2 := Blk.new 23 [.int .i64 x0, .int .i64 0, .int .i64 0, .int .i64 0, .int .i64 0, .int .i64 0, .string ⟨#[]⟩] w1
  have BD2 := Blk.below BD1 BA1
  have R2 := r1.below BA1
  have G2 : w.grownBy (w1.alloc (.cells #[.int .i64 x0, .int .i64 0, .int .i64 0, .int .i64 0, .int .i64 0, .int .i64 0, .string ⟨#[]⟩] 23)) (some R) := grownBy_trans G1 (grownBy_below BA1 _)
  have hG : w.heap.size ≤ w1.heap.size := G1.size
  have hD := BD1.lt
  clear BD1 r1 G1 BA1
  go_wp2_with fail
  refine (FO.out _).mono ?_
  rintro e wx ⟨rfl, hw⟩; rw [hw]; clear hw wx
  obtain ⟨G, hGe⟩ : ∃ G, w1.heap.size = G := ⟨_, rfl⟩
  obtain ⟨D, hDe⟩ : ∃ D, w.heap.size = D := ⟨_, rfl⟩
  rw [hGe] at BG2 hG hD ⊢
  rw [hDe] at BD2 hG hD hR hV ⊢
  have KG : Blk G 23 [.int .i64 x0, .int .i64 0, .int .i64 0, .int .i64 0, .int .i64 0, .int .i64 0, .string ⟨#[]⟩] (w1.alloc (.cells #[.int .i64 x0, .int .i64 0, .int .i64 0, .int .i64 0, .int .i64 0, .int .i64 0, .string ⟨#[]⟩] 23)) := BG2
  clear BG2
  generalize w1.alloc (.cells #[.int .i64 x0, .int .i64 0, .int .i64 0, .int .i64 0, .int .i64 0, .int .i64 0, .string ⟨#[]⟩] 23) = W0 at *
  have C0 := KG.cell 0 _ rfl
  go_wp2_with fail
  refine (P1.out _ R2).mono ?_
  rintro e u1 ⟨rfl, r1, g1⟩
  have bgA1 : Blk G 23 [.int .i64 x0, .int .i64 0, .int .i64 0, .int .i64 0, .int .i64 0, .int .i64 0, .string ⟨#[]⟩] u1 := Blk.grown KG g1 (by omega)
  have bdA1 : Blk D 23 [.int .i64 0, .int .i64 0, .int .i64 0, .int .i64 0, .int .i64 0, .int .i64 0, .string ⟨#[]⟩] u1 := Blk.grown BD2 g1 (by omega)
  have bgB1 : Blk G 23 [.int .i64 x0, .int .i64 x1, .int .i64 0, .int .i64 0, .int .i64 0, .int .i64 0, .string ⟨#[]⟩] (u1.setCell ⟨G, 1, none⟩ (.int .i64 x1)) := Blk.set (i := 1) bgA1 (.int .i64 x1)
  have sg1 := setCell_grown u1 G 1 (.int .i64 x1)
  have bdB1 : Blk D 23 [.int .i64 0, .int .i64 0, .int .i64 0, .int .i64 0, .int .i64 0, .int .i64 0, .string ⟨#[]⟩] (u1.setCell ⟨G, 1, none⟩ (.int .i64 x1)) := Blk.grown bdA1 sg1 (by omega)
  have rsB1 := r1.other sg1 (by omega) (hV.out G hG)
  have gA1 := grownBy_trans G2 g1
  have gB1 : w.grownBy (u1.setCell ⟨G, 1, none⟩ (.int .i64 x1)) (some R) := ⟨sg1.os.trans gA1.os, sg1.tape.trans gA1.tape, sg1.output.trans gA1.output, Nat.le_trans gA1.size sg1.size, fun k hk hn => (sg1.block k (Nat.lt_of_lt_of_le hk gA1.size) (fun e => by injection e with e; omega)).trans (gA1.block k hk hn)⟩
  have cs1 := bgA1.cell 1 _ rfl
  have cf1 := bgA1.fz 1
  clear KG BD2 R2 G2 r1 g1 bgA1 bdA1 gA1 sg1
  go_wp2_with fail
  refine (P3.out _ rsB1).mono ?_
  rintro e u3 ⟨rfl, r3, g3⟩
  have bgA3 : Blk G 23 [.int .i64 x0, .int .i64 x1, .int .i64 0, .int .i64 0, .int .i64 0, .int .i64 0, .string ⟨#[]⟩] u3 := Blk.grown bgB1 g3 (by omega)
  have bdA3 : Blk D 23 [.int .i64 0, .int .i64 0, .int .i64 0, .int .i64 0, .int .i64 0, .int .i64 0, .string ⟨#[]⟩] u3 := Blk.grown bdB1 g3 (by omega)
  have bgB3 : Blk G 23 [.int .i64 x0, .int .i64 x1, .int .i64 0, .int .i64 x3, .int .i64 0, .int .i64 0, .string ⟨#[]⟩] (u3.setCell ⟨G, 3, none⟩ (.int .i64 x3)) := Blk.set (i := 3) bgA3 (.int .i64 x3)
  have sg3 := setCell_grown u3 G 3 (.int .i64 x3)
  have bdB3 : Blk D 23 [.int .i64 0, .int .i64 0, .int .i64 0, .int .i64 0, .int .i64 0, .int .i64 0, .string ⟨#[]⟩] (u3.setCell ⟨G, 3, none⟩ (.int .i64 x3)) := Blk.grown bdA3 sg3 (by omega)
  have rsB3 := r3.other sg3 (by omega) (hV.out G hG)
  have gA3 := grownBy_trans gB1 g3
  have gB3 : w.grownBy (u3.setCell ⟨G, 3, none⟩ (.int .i64 x3)) (some R) := ⟨sg3.os.trans gA3.os, sg3.tape.trans gA3.tape, sg3.output.trans gA3.output, Nat.le_trans gA3.size sg3.size, fun k hk hn => (sg3.block k (Nat.lt_of_lt_of_le hk gA3.size) (fun e => by injection e with e; omega)).trans (gA3.block k hk hn)⟩
  have cs3 := bgA3.cell 3 _ rfl
  have cf3 := bgA3.fz 3
  clear bgB1 bdB1 rsB1 gB1 r3 g3 bgA3 bdA3 gA3 sg3
  go_wp2_with fail
  refine (P4.out _ rsB3).mono ?_
  rintro e u4 ⟨rfl, r4, g4⟩
  have bgA4 : Blk G 23 [.int .i64 x0, .int .i64 x1, .int .i64 0, .int .i64 x3, .int .i64 0, .int .i64 0, .string ⟨#[]⟩] u4 := Blk.grown bgB3 g4 (by omega)
  have bdA4 : Blk D 23 [.int .i64 0, .int .i64 0, .int .i64 0, .int .i64 0, .int .i64 0, .int .i64 0, .string ⟨#[]⟩] u4 := Blk.grown bdB3 g4 (by omega)
  have bgB4 : Blk G 23 [.int .i64 x0, .int .i64 x1, .int .i64 0, .int .i64 x3, .int .i64 x4, .int .i64 0, .string ⟨#[]⟩] (u4.setCell ⟨G, 4, none⟩ (.int .i64 x4)) := Blk.set (i := 4) bgA4 (.int .i64 x4)
  have sg4 := setCell_grown u4 G 4 (.int .i64 x4)
  have bdB4 : Blk D 23 [.int .i64 0, .int .i64 0, .int .i64 0, .int .i64 0, .int .i64 0, .int .i64 0, .string ⟨#[]⟩] (u4.setCell ⟨G, 4, none⟩ (.int .i64 x4)) := Blk.grown bdA4 sg4 (by omega)
  have rsB4 := r4.other sg4 (by omega) (hV.out G hG)
  have gA4 := grownBy_trans gB3 g4
  have gB4 : w.grownBy (u4.setCell ⟨G, 4, none⟩ (.int .i64 x4)) (some R) := ⟨sg4.os.trans gA4.os, sg4.tape.trans gA4.tape, sg4.output.trans gA4.output, Nat.le_trans gA4.size sg4.size, fun k hk hn => (sg4.block k (Nat.lt_of_lt_of_le hk gA4.size) (fun e => by injection e with e; omega)).trans (gA4.block k hk hn)⟩
  have cs4 := bgA4.cell 4 _ rfl
  have cf4 := bgA4.fz 4
  clear bgB3 bdB3 rsB3 gB3 r4 g4 bgA4 bdA4 gA4 sg4
  have ld0 := bgB4.cell 0 _ rfl
  have lz0 := bdB4.cell 0 _ rfl
  have lf0 := bdB4.fz 0
  have ld1 := bgB4.cell 1 _ rfl
  have lz1 := bdB4.cell 1 _ rfl
  have lf1 := bdB4.fz 1
  have ld2 := bgB4.cell 2 _ rfl
  have lz2 := bdB4.cell 2 _ rfl
  have lf2 := bdB4.fz 2
  have ld3 := bgB4.cell 3 _ rfl
  have lz3 := bdB4.cell 3 _ rfl
  have lf3 := bdB4.fz 3
  have ld4 := bgB4.cell 4 _ rfl
  have lz4 := bdB4.cell 4 _ rfl
  have lf4 := bdB4.fz 4
  have ld5 := bgB4.cell 5 _ rfl
  have lz5 := bdB4.cell 5 _ rfl
  have lf5 := bdB4.fz 5
  have ld6 := bgB4.cell 6 _ rfl
  have lz6 := bdB4.cell 6 _ rfl
  have lf6 := bdB4.fz 6
  go_wp2_with fail
  obtain ⟨b7, g7⟩ := Blk.seven bdB4 (.int .i64 x0) (.int .i64 x1) (.int .i64 0) (.int .i64 x3) (.int .i64 x4) (.int .i64 0) (.string ⟨#[]⟩)
  refine bodyPost_cell rfl rfl D _ _ _ _ rfl b7 Try.underlying23 rfl (by kernel_rfl) ⟨rfl, ?_, ?_⟩
  · exact rsB4.other g7 (by omega) (hV.out D (Nat.le_refl _))
  · exact ⟨g7.os.trans gB4.os, g7.tape.trans gB4.tape, g7.output.trans gB4.output, Nat.le_trans gB4.size g7.size, fun k hk hn => (g7.block k (Nat.lt_of_lt_of_le hk gB4.size) (fun e => by injection e with e; omega)).trans (gB4.block k hk hn)⟩

set_option maxRecDepth 20000 in
set_option maxHeartbeats 1000000 in
theorem opFields_16 (bs : List Nat) (hb : ∀ c ∈ bs, c < 256) (hl : bs.length ≤ 1000000000000) (R : Nat) (v : Value) (st : Option Nat) (w : World) (h : RS bs R v st w) (hm : fmask (tkI bs st).1 = some 16) :
    Calls Try.prog 69 #[.pointer (some ⟨R, 0, none⟩)] w fun e w' => e = .returned (opV (opR bs st).1) ∧ RS bs R v (opR bs st).2 w' ∧ w.grownBy w' (some R) := by
  obtain ⟨x0, ex0⟩ : ∃ x, (tkI bs st).1 = x := ⟨_, rfl⟩
  obtain ⟨s0, es0⟩ : ∃ s, (tkI bs st).2 = s := ⟨_, rfl⟩
  obtain ⟨x5, ex5⟩ : ∃ x, (tkI bs s0).1 = x := ⟨_, rfl⟩
  obtain ⟨s5, es5⟩ : ∃ s, (tkI bs s0).2 = s := ⟨_, rfl⟩
  have E1 : opR bs st = (⟨x0, 0, 0, 0, 0, x5, ⟨#[]⟩⟩, s5) := by
    unfold opR; rw [ex0] at hm; simp only [ex0, es0, hm]; simp [tkIf, tkTf, ex5, es5]
  have FO : Hid (∀ w, Calls Try.prog 46 #[.int .i64 x0] w fun e w' => e = .returned (.tuple #[.int .i64 16, .bool true]) ∧ w' = w) := fun w => by
    have := fieldsOf_at x0 w
    rw [ex0] at hm; rw [hm] at this; exact this
  have P0 : Hid (∀ w, RS bs R v st w → Calls Try.prog 74 #[.pointer (some ⟨R, 0, none⟩)] w fun e w' => e = .returned (.int .i64 x0) ∧ RS bs R v s0 w' ∧ w.grownBy w' (some R)) := fun w h => by
    have := number_at bs hb hl R v st w h
    rw [ex0, es0] at this; exact this
  have P5 : Hid (∀ w, RS bs R v s0 w → Calls Try.prog 74 #[.pointer (some ⟨R, 0, none⟩)] w fun e w' => e = .returned (.int .i64 x5) ∧ RS bs R v s5 w' ∧ w.grownBy w' (some R)) := fun w h => by
    have := number_at bs hb hl R v s0 w h
    rw [ex5, es5] at this; exact this
  rw [E1]
  have H0 : Hid (RS bs R v st w) := h
  have hR := h.lt
  have hV : Hid (∀ g, w.heap.size ≤ g → 0 < bs.length → v.ownBlock ≠ some g) := fun g hg h0 e => by
    have := Rd.block h.rd (by rw [List.length_map]; exact h0) e
    omega
  clear h hm E1 hb hl ex0 es0 ex5 es5
  unfold opV
  simp only
  go_enter Try.func69, Try.ntmps69
  go_wp2_with fail
  have BD0 := Blk.new 23 [.int .i64 0, .int .i64 0, .int .i64 0, .int .i64 0, .int .i64 0, .int .i64 0, .string ⟨#[]⟩] w
  have BA := below_alloc w (.cells #[.int .i64 0, .int .i64 0, .int .i64 0, .int .i64 0, .int .i64 0, .int .i64 0, .string ⟨#[]⟩] 23)
  refine (P0.out _ (H0.out.below BA)).mono ?_
  rintro e w1 ⟨rfl, r1, g1⟩
  have BD1 : Blk w.heap.size 23 [.int .i64 0, .int .i64 0, .int .i64 0, .int .i64 0, .int .i64 0, .int .i64 0, .string ⟨#[]⟩] w1 := Blk.grown BD0 g1 (by omega)
  have G1 : w.grownBy w1 (some R) := grownBy_trans (grownBy_below BA _) g1
  clear BD0 g1 BA
  have BA1 := below_alloc w1 (.cells #[.int .i64 x0, .int .i64 0, .int .i64 0, .int .i64 0, .int .i64 0, .int .i64 0, .string ⟨#[]⟩] 23)
  have BG2 := Blk.new 23 [.int .i64 x0, .int .i64 0, .int .i64 0, .int .i64 0, .int .i64 0, .int .i64 0, .string ⟨#[]⟩] w1
  have BD2 := Blk.below BD1 BA1
  have R2 := r1.below BA1
  have G2 : w.grownBy (w1.alloc (.cells #[.int .i64 x0, .int .i64 0, .int .i64 0, .int .i64 0, .int .i64 0, .int .i64 0, .string ⟨#[]⟩] 23)) (some R) := grownBy_trans G1 (grownBy_below BA1 _)
  have hG : w.heap.size ≤ w1.heap.size := G1.size
  have hD := BD1.lt
  clear BD1 r1 G1 BA1
  go_wp2_with fail
  refine (FO.out _).mono ?_
  rintro e wx ⟨rfl, hw⟩; rw [hw]; clear hw wx
  obtain ⟨G, hGe⟩ : ∃ G, w1.heap.size = G := ⟨_, rfl⟩
  obtain ⟨D, hDe⟩ : ∃ D, w.heap.size = D := ⟨_, rfl⟩
  rw [hGe] at BG2 hG hD ⊢
  rw [hDe] at BD2 hG hD hR hV ⊢
  have KG : Blk G 23 [.int .i64 x0, .int .i64 0, .int .i64 0, .int .i64 0, .int .i64 0, .int .i64 0, .string ⟨#[]⟩] (w1.alloc (.cells #[.int .i64 x0, .int .i64 0, .int .i64 0, .int .i64 0, .int .i64 0, .int .i64 0, .string ⟨#[]⟩] 23)) := BG2
  clear BG2
  generalize w1.alloc (.cells #[.int .i64 x0, .int .i64 0, .int .i64 0, .int .i64 0, .int .i64 0, .int .i64 0, .string ⟨#[]⟩] 23) = W0 at *
  have C0 := KG.cell 0 _ rfl
  go_wp2_with fail
  refine (P5.out _ R2).mono ?_
  rintro e u5 ⟨rfl, r5, g5⟩
  have bgA5 : Blk G 23 [.int .i64 x0, .int .i64 0, .int .i64 0, .int .i64 0, .int .i64 0, .int .i64 0, .string ⟨#[]⟩] u5 := Blk.grown KG g5 (by omega)
  have bdA5 : Blk D 23 [.int .i64 0, .int .i64 0, .int .i64 0, .int .i64 0, .int .i64 0, .int .i64 0, .string ⟨#[]⟩] u5 := Blk.grown BD2 g5 (by omega)
  have bgB5 : Blk G 23 [.int .i64 x0, .int .i64 0, .int .i64 0, .int .i64 0, .int .i64 0, .int .i64 x5, .string ⟨#[]⟩] (u5.setCell ⟨G, 5, none⟩ (.int .i64 x5)) := Blk.set (i := 5) bgA5 (.int .i64 x5)
  have sg5 := setCell_grown u5 G 5 (.int .i64 x5)
  have bdB5 : Blk D 23 [.int .i64 0, .int .i64 0, .int .i64 0, .int .i64 0, .int .i64 0, .int .i64 0, .string ⟨#[]⟩] (u5.setCell ⟨G, 5, none⟩ (.int .i64 x5)) := Blk.grown bdA5 sg5 (by omega)
  have rsB5 := r5.other sg5 (by omega) (hV.out G hG)
  have gA5 := grownBy_trans G2 g5
  have gB5 : w.grownBy (u5.setCell ⟨G, 5, none⟩ (.int .i64 x5)) (some R) := ⟨sg5.os.trans gA5.os, sg5.tape.trans gA5.tape, sg5.output.trans gA5.output, Nat.le_trans gA5.size sg5.size, fun k hk hn => (sg5.block k (Nat.lt_of_lt_of_le hk gA5.size) (fun e => by injection e with e; omega)).trans (gA5.block k hk hn)⟩
  have cs5 := bgA5.cell 5 _ rfl
  have cf5 := bgA5.fz 5
  clear KG BD2 R2 G2 r5 g5 bgA5 bdA5 gA5 sg5
  have ld0 := bgB5.cell 0 _ rfl
  have lz0 := bdB5.cell 0 _ rfl
  have lf0 := bdB5.fz 0
  have ld1 := bgB5.cell 1 _ rfl
  have lz1 := bdB5.cell 1 _ rfl
  have lf1 := bdB5.fz 1
  have ld2 := bgB5.cell 2 _ rfl
  have lz2 := bdB5.cell 2 _ rfl
  have lf2 := bdB5.fz 2
  have ld3 := bgB5.cell 3 _ rfl
  have lz3 := bdB5.cell 3 _ rfl
  have lf3 := bdB5.fz 3
  have ld4 := bgB5.cell 4 _ rfl
  have lz4 := bdB5.cell 4 _ rfl
  have lf4 := bdB5.fz 4
  have ld5 := bgB5.cell 5 _ rfl
  have lz5 := bdB5.cell 5 _ rfl
  have lf5 := bdB5.fz 5
  have ld6 := bgB5.cell 6 _ rfl
  have lz6 := bdB5.cell 6 _ rfl
  have lf6 := bdB5.fz 6
  go_wp2_with fail
  obtain ⟨b7, g7⟩ := Blk.seven bdB5 (.int .i64 x0) (.int .i64 0) (.int .i64 0) (.int .i64 0) (.int .i64 0) (.int .i64 x5) (.string ⟨#[]⟩)
  refine bodyPost_cell rfl rfl D _ _ _ _ rfl b7 Try.underlying23 rfl (by kernel_rfl) ⟨rfl, ?_, ?_⟩
  · exact rsB5.other g7 (by omega) (hV.out D (Nat.le_refl _))
  · exact ⟨g7.os.trans gB5.os, g7.tape.trans gB5.tape, g7.output.trans gB5.output, Nat.le_trans gB5.size g7.size, fun k hk hn => (g7.block k (Nat.lt_of_lt_of_le hk gB5.size) (fun e => by injection e with e; omega)).trans (gB5.block k hk hn)⟩

set_option maxRecDepth 20000 in
set_option maxHeartbeats 1000000 in
theorem opFields_32 (bs : List Nat) (hb : ∀ c ∈ bs, c < 256) (hl : bs.length ≤ 1000000000000) (R : Nat) (v : Value) (st : Option Nat) (w : World) (h : RS bs R v st w) (hm : fmask (tkI bs st).1 = some 32) :
    Calls Try.prog 69 #[.pointer (some ⟨R, 0, none⟩)] w fun e w' => e = .returned (opV (opR bs st).1) ∧ RS bs R v (opR bs st).2 w' ∧ w.grownBy w' (some R) := by
  obtain ⟨x0, ex0⟩ : ∃ x, (tkI bs st).1 = x := ⟨_, rfl⟩
  obtain ⟨s0, es0⟩ : ∃ s, (tkI bs st).2 = s := ⟨_, rfl⟩
  obtain ⟨x6, ex6⟩ : ∃ x, (tkT bs s0).1 = x := ⟨_, rfl⟩
  obtain ⟨s6, es6⟩ : ∃ s, (tkT bs s0).2 = s := ⟨_, rfl⟩
  have E1 : opR bs st = (⟨x0, 0, 0, 0, 0, 0, x6⟩, s6) := by
    unfold opR; rw [ex0] at hm; simp only [ex0, es0, hm]; simp [tkIf, tkTf, ex6, es6]
  have FO : Hid (∀ w, Calls Try.prog 46 #[.int .i64 x0] w fun e w' => e = .returned (.tuple #[.int .i64 32, .bool true]) ∧ w' = w) := fun w => by
    have := fieldsOf_at x0 w
    rw [ex0] at hm; rw [hm] at this; exact this
  have P0 : Hid (∀ w, RS bs R v st w → Calls Try.prog 74 #[.pointer (some ⟨R, 0, none⟩)] w fun e w' => e = .returned (.int .i64 x0) ∧ RS bs R v s0 w' ∧ w.grownBy w' (some R)) := fun w h => by
    have := number_at bs hb hl R v st w h
    rw [ex0, es0] at this; exact this
  have P6 : Hid (∀ w, RS bs R v s0 w → Calls Try.prog 94 #[.pointer (some ⟨R, 0, none⟩), .func (.func 95) #[] #[]] w fun e w' => e = .returned (.string x6) ∧ RS bs R v s6 w' ∧ w.grownBy w' (some R)) := fun w h => by
    have := takeT_at bs hb hl R v s0 w h
    rw [ex6, es6] at this; exact this
  rw [E1]
  have H0 : Hid (RS bs R v st w) := h
  have hR := h.lt
  have hV : Hid (∀ g, w.heap.size ≤ g → 0 < bs.length → v.ownBlock ≠ some g) := fun g hg h0 e => by
    have := Rd.block h.rd (by rw [List.length_map]; exact h0) e
    omega
  clear h hm E1 hb hl ex0 es0 ex6 es6
  unfold opV
  simp only
  go_enter Try.func69, Try.ntmps69
  go_wp2_with fail
  have BD0 := Blk.new 23 [.int .i64 0, .int .i64 0, .int .i64 0, .int .i64 0, .int .i64 0, .int .i64 0, .string ⟨#[]⟩] w
  have BA := below_alloc w (.cells #[.int .i64 0, .int .i64 0, .int .i64 0, .int .i64 0, .int .i64 0, .int .i64 0, .string ⟨#[]⟩] 23)
  refine (P0.out _ (H0.out.below BA)).mono ?_
  rintro e w1 ⟨rfl, r1, g1⟩
  have BD1 : Blk w.heap.size 23 [.int .i64 0, .int .i64 0, .int .i64 0, .int .i64 0, .int .i64 0, .int .i64 0, .string ⟨#[]⟩] w1 := Blk.grown BD0 g1 (by omega)
  have G1 : w.grownBy w1 (some R) := grownBy_trans (grownBy_below BA _) g1
  clear BD0 g1 BA
  have BA1 := below_alloc w1 (.cells #[.int .i64 x0, .int .i64 0, .int .i64 0, .int .i64 0, .int .i64 0, .int .i64 0, .string ⟨#[]⟩] 23)
  have BG2 := Blk.new 23 [.int .i64 x0, .int .i64 0, .int .i64 0, .int .i64 0, .int .i64 0, .int .i64 0, .string ⟨#[]⟩] w1
  have BD2 := Blk.below BD1 BA1
  have R2 := r1.below BA1
  have G2 : w.grownBy (w1.alloc (.cells #[.int .i64 x0, .int .i64 0, .int .i64 0, .int .i64 0, .int .i64 0, .int .i64 0, .string ⟨#[]⟩] 23)) (some R) := grownBy_trans G1 (grownBy_below BA1 _)
  have hG : w.heap.size ≤ w1.heap.size := G1.size
  have hD := BD1.lt
  clear BD1 r1 G1 BA1
  go_wp2_with fail
  refine (FO.out _).mono ?_
  rintro e wx ⟨rfl, hw⟩; rw [hw]; clear hw wx
  obtain ⟨G, hGe⟩ : ∃ G, w1.heap.size = G := ⟨_, rfl⟩
  obtain ⟨D, hDe⟩ : ∃ D, w.heap.size = D := ⟨_, rfl⟩
  rw [hGe] at BG2 hG hD ⊢
  rw [hDe] at BD2 hG hD hR hV ⊢
  have KG : Blk G 23 [.int .i64 x0, .int .i64 0, .int .i64 0, .int .i64 0, .int .i64 0, .int .i64 0, .string ⟨#[]⟩] (w1.alloc (.cells #[.int .i64 x0, .int .i64 0, .int .i64 0, .int .i64 0, .int .i64 0, .int .i64 0, .string ⟨#[]⟩] 23)) := BG2
  clear BG2
  generalize w1.alloc (.cells #[.int .i64 x0, .int .i64 0, .int .i64 0, .int .i64 0, .int .i64 0, .int .i64 0, .string ⟨#[]⟩] 23) = W0 at *
  have C0 := KG.cell 0 _ rfl
  go_wp2_with fail
  refine (P6.out _ R2).mono ?_
  rintro e u6 ⟨rfl, r6, g6⟩
  have bgA6 : Blk G 23 [.int .i64 x0, .int .i64 0, .int .i64 0, .int .i64 0, .int .i64 0, .int .i64 0, .string ⟨#[]⟩] u6 := Blk.grown KG g6 (by omega)
  have bdA6 : Blk D 23 [.int .i64 0, .int .i64 0, .int .i64 0, .int .i64 0, .int .i64 0, .int .i64 0, .string ⟨#[]⟩] u6 := Blk.grown BD2 g6 (by omega)
  have bgB6 : Blk G 23 [.int .i64 x0, .int .i64 0, .int .i64 0, .int .i64 0, .int .i64 0, .int .i64 0, .string x6] (u6.setCell ⟨G, 6, none⟩ (.string x6)) := Blk.set (i := 6) bgA6 (.string x6)
  have sg6 := setCell_grown u6 G 6 (.string x6)
  have bdB6 : Blk D 23 [.int .i64 0, .int .i64 0, .int .i64 0, .int .i64 0, .int .i64 0, .int .i64 0, .string ⟨#[]⟩] (u6.setCell ⟨G, 6, none⟩ (.string x6)) := Blk.grown bdA6 sg6 (by omega)
  have rsB6 := r6.other sg6 (by omega) (hV.out G hG)
  have gA6 := grownBy_trans G2 g6
  have gB6 : w.grownBy (u6.setCell ⟨G, 6, none⟩ (.string x6)) (some R) := ⟨sg6.os.trans gA6.os, sg6.tape.trans gA6.tape, sg6.output.trans gA6.output, Nat.le_trans gA6.size sg6.size, fun k hk hn => (sg6.block k (Nat.lt_of_lt_of_le hk gA6.size) (fun e => by injection e with e; omega)).trans (gA6.block k hk hn)⟩
  have cs6 := bgA6.cell 6 _ rfl
  have cf6 := bgA6.fz 6
  clear KG BD2 R2 G2 r6 g6 bgA6 bdA6 gA6 sg6
  have ld0 := bgB6.cell 0 _ rfl
  have lz0 := bdB6.cell 0 _ rfl
  have lf0 := bdB6.fz 0
  have ld1 := bgB6.cell 1 _ rfl
  have lz1 := bdB6.cell 1 _ rfl
  have lf1 := bdB6.fz 1
  have ld2 := bgB6.cell 2 _ rfl
  have lz2 := bdB6.cell 2 _ rfl
  have lf2 := bdB6.fz 2
  have ld3 := bgB6.cell 3 _ rfl
  have lz3 := bdB6.cell 3 _ rfl
  have lf3 := bdB6.fz 3
  have ld4 := bgB6.cell 4 _ rfl
  have lz4 := bdB6.cell 4 _ rfl
  have lf4 := bdB6.fz 4
  have ld5 := bgB6.cell 5 _ rfl
  have lz5 := bdB6.cell 5 _ rfl
  have lf5 := bdB6.fz 5
  have ld6 := bgB6.cell 6 _ rfl
  have lz6 := bdB6.cell 6 _ rfl
  have lf6 := bdB6.fz 6
  go_wp2_with fail
  obtain ⟨b7, g7⟩ := Blk.seven bdB6 (.int .i64 x0) (.int .i64 0) (.int .i64 0) (.int .i64 0) (.int .i64 0) (.int .i64 0) (.string x6)
  refine bodyPost_cell rfl rfl D _ _ _ _ rfl b7 Try.underlying23 rfl (by kernel_rfl) ⟨rfl, ?_, ?_⟩
  · exact rsB6.other g7 (by omega) (hV.out D (Nat.le_refl _))
  · exact ⟨g7.os.trans gB6.os, g7.tape.trans gB6.tape, g7.output.trans gB6.output, Nat.le_trans gB6.size g7.size, fun k hk hn => (g7.block k (Nat.lt_of_lt_of_le hk gB6.size) (fun e => by injection e with e; omega)).trans (gB6.block k hk hn)⟩

set_option maxRecDepth 20000 in
set_option maxHeartbeats 1000000 in
theorem opFields_24 (bs : List Nat) (hb : ∀ c ∈ bs, c < 256) (hl : bs.length ≤ 1000000000000) (R : Nat) (v : Value) (st : Option Nat) (w : World) (h : RS bs R v st w) (hm : fmask (tkI bs st).1 = some 24) :
    Calls Try.prog 69 #[.pointer (some ⟨R, 0, none⟩)] w fun e w' => e = .returned (opV (opR bs st).1) ∧ RS bs R v (opR bs st).2 w' ∧ w.grownBy w' (some R) := by
  obtain ⟨x0, ex0⟩ : ∃ x, (tkI bs st).1 = x := ⟨_, rfl⟩
  obtain ⟨s0, es0⟩ : ∃ s, (tkI bs st).2 = s := ⟨_, rfl⟩
  obtain ⟨x4, ex4⟩ : ∃ x, (tkI bs s0).1 = x := ⟨_, rfl⟩
  obtain ⟨s4, es4⟩ : ∃ s, (tkI bs s0).2 = s := ⟨_, rfl⟩
  obtain ⟨x5, ex5⟩ : ∃ x, (tkI bs s4).1 = x := ⟨_, rfl⟩
  obtain ⟨s5, es5⟩ : ∃ s, (tkI bs s4).2 = s := ⟨_, rfl⟩
  have E1 : opR bs st = (⟨x0, 0, 0, 0, x4, x5, ⟨#[]⟩⟩, s5) := by
    unfold opR; rw [ex0] at hm; simp only [ex0, es0, hm]; simp [tkIf, tkTf, ex4, es4, ex5, es5]
  have FO : Hid (∀ w, Calls Try.prog 46 #[.int .i64 x0] w fun e w' => e = .returned (.tuple #[.int .i64 24, .bool true]) ∧ w' = w) := fun w => by
    have := fieldsOf_at x0 w
    rw [ex0] at hm; rw [hm] at this; exact this
  have P0 : Hid (∀ w, RS bs R v st w → Calls Try.prog 74 #[.pointer (some ⟨R, 0, none⟩)] w fun e w' => e = .returned (.int .i64 x0) ∧ RS bs R v s0 w' ∧ w.grownBy w' (some R)) := fun w h => by
    have := number_at bs hb hl R v st w h
    rw [ex0, es0] at this; exact this
  have P4 : Hid (∀ w, RS bs R v s0 w → Calls Try.prog 74 #[.pointer (some ⟨R, 0, none⟩)] w fun e w' => e = .returned (.int .i64 x4) ∧ RS bs R v s4 w' ∧ w.grownBy w' (some R)) := fun w h => by
    have := number_at bs hb hl R v s0 w h
    rw [ex4, es4] at this; exact this
  have P5 : Hid (∀ w, RS bs R v s4 w → Calls Try.prog 74 #[.pointer (some ⟨R, 0, none⟩)] w fun e w' => e = .returned (.int .i64 x5) ∧ RS bs R v s5 w' ∧ w.grownBy w' (some R)) := fun w h => by
    have := number_at bs hb hl R v s4 w h
    rw [ex5, es5] at this; exact this
  rw [E1]
  have H0 : Hid (RS bs R v st w) := h
  have hR := h.lt
  have hV : Hid (∀ g, w.heap.size ≤ g → 0 < bs.length → v.ownBlock ≠ some g) := fun g hg h0 e => by
    have := Rd.block h.rd (by rw [List.length_map]; exact h0) e
    omega
  clear h hm E1 hb hl ex0 es0 ex4 es4 ex5 es5
  unfold opV
  simp only
  go_enter Try.func69, Try.ntmps69
  go_wp2_with fail
  have BD0 := Blk.new 23 [.int .i64 0, .int .i64 0, .int .i64 0, .int .i64 0, .int .i64 0, .int .i64 0, .string ⟨#[]⟩] w
  have BA := below_alloc w (.cells #[.int .i64 0, .int .i64 0, .int .i64 0, .int .i64 0, .int .i64 0, .int .i64 0, .string ⟨#[]⟩] 23)
  refine (P0.out _ (H0.out.below BA)).mono ?_
  rintro e w1 ⟨rfl, r1, g1⟩
  have BD1 : Blk w.heap.size 23 [.int .i64 0, .int .i64 0, .int .i64 0, .int .i64 0, .int .i64 0, .int .i64 0, .string ⟨#[]⟩] w1 := Blk.grown BD0 g1 (by omega)
  have G1 : w.grownBy w1 (some R) := grownBy_trans (grownBy_below BA _) g1
  clear BD0 g1 BA
  have BA1 := below_alloc w1 (.cells #[.int .i64 x0, .int .i64 0, .int .i64 0, .int .i64 0, .int .i64 0, .int .i64 0, .string ⟨#[]⟩] 23)
  have BG2 := Blk.new 23 [.int .i64 x0, .int .i64 0, .int .i64 0, .int .i64 0, .int .i64 0, .int .i64 0, .string ⟨#[]⟩] w1
  have BD2 := Blk.below BD1 BA1
  have R2 := r1.below BA1
  have G2 : w.grownBy (w1.alloc (.cells #[.int .i64 x0, .int .i64 0, .int .i64 0, .int .i64 0, .int .i64 0, .int .i64 0, .string ⟨#[]⟩] 23)) (some R) := grownBy_trans G1 (grownBy_below BA1 _)
  have hG : w.heap.size ≤ w1.heap.size := G1.size
  have hD := BD1.lt
  clear BD1 r1 G1 BA1
  go_wp2_with fail
  refine (FO.out _).mono ?_
  rintro e wx ⟨rfl, hw⟩; rw [hw]; clear hw wx
  obtain ⟨G, hGe⟩ : ∃ G, w1.heap.size = G := ⟨_, rfl⟩
  obtain ⟨D, hDe⟩ : ∃ D, w.heap.size = D := ⟨_, rfl⟩
  rw [hGe] at BG2 hG hD ⊢
  rw [hDe] at BD2 hG hD hR hV ⊢
  have KG : Blk G 23 [.int .i64 x0, .int .i64 0, .int .i64 0, .int .i64 0, .int .i64 0, .int .i64 0, .string ⟨#[]⟩] (w1.alloc (.cells #[.int .i64 x0, .int .i64 0, .int .i64 0, .int .i64 0, .int .i64 0, .int .i64 0, .string ⟨#[]⟩] 23)) := BG2
  clear BG2
  generalize w1.alloc (.cells #[.int .i64 x0, .int .i64 0, .int .i64 0, .int .i64 0, .int .i64 0, .int .i64 0, .string ⟨#[]⟩] 23) = W0 at *
  have C0 := KG.cell 0 _ rfl
  go_wp2_with fail
  refine (P4.out _ R2).mono ?_
  rintro e u4 ⟨rfl, r4, g4⟩
  have bgA4 : Blk G 23 [.int .i64 x0, .int .i64 0, .int .i64 0, .int .i64 0, .int .i64 0, .int .i64 0, .string ⟨#[]⟩] u4 := Blk.grown KG g4 (by omega)
  have bdA4 : Blk D 23 [.int .i64 0, .int .i64 0, .int .i64 0, .int .i64 0, .int .i64 0, .int .i64 0, .string ⟨#[]⟩] u4 := Blk.grown BD2 g4 (by omega)
  have bgB4 : Blk G 23 [.int .i64 x0, .int .i64 0, .int .i64 0, .int .i64 0, .int .i64 x4, .int .i64 0, .string ⟨#[]⟩] (u4.setCell ⟨G, 4, none⟩ (.int .i64 x4)) := Blk.set (i := 4) bgA4 (.int .i64 x4)
  have sg4 := setCell_grown u4 G 4 (.int .i64 x4)
  have bdB4 : Blk D 23 [.int .i64 0, .int .i64 0, .int .i64 0, .int .i64 0, .int .i64 0, .int .i64 0, .string ⟨#[]⟩] (u4.setCell ⟨G, 4, none⟩ (.int .i64 x4)) := Blk.grown bdA4 sg4 (by omega)
  have rsB4 := r4.other sg4 (by omega) (hV.out G hG)
  have gA4 := grownBy_trans G2 g4
  have gB4 : w.grownBy (u4.setCell ⟨G, 4, none⟩ (.int .i64 x4)) (some R) := ⟨sg4.os.trans gA4.os, sg4.tape.trans gA4.tape, sg4.output.trans gA4.output, Nat.le_trans gA4.size sg4.size, fun k hk hn => (sg4.block k (Nat.lt_of_lt_of_le hk gA4.size) (fun e => by injection e with e; omega)).trans (gA4.block k hk hn)⟩
  have cs4 := bgA4.cell 4 _ rfl
  have cf4 := bgA4.fz 4
  clear KG BD2 R2 G2 r4 g4 bgA4 bdA4 gA4 sg4
  go_wp2_with fail
  refine (P5.out _ rsB4).mono ?_
  rintro e u5 ⟨rfl, r5, g5⟩
  have bgA5 : Blk G 23 [.int .i64 x0, .int .i64 0, .int .i64 0, .int .i64 0, .int .i64 x4, .int .i64 0, .string ⟨#[]⟩] u5 := Blk.grown bgB4 g5 (by omega)
  have bdA5 : Blk D 23 [.int .i64 0, .int .i64 0, .int .i64 0, .int .i64 0, .int .i64 0, .int .i64 0, .string ⟨#[]⟩] u5 := Blk.grown bdB4 g5 (by omega)
  have bgB5 : Blk G 23 [.int .i64 x0, .int .i64 0, .int .i64 0, .int .i64 0, .int .i64 x4, .int .i64 x5, .string ⟨#[]⟩] (u5.setCell ⟨G, 5, none⟩ (.int .i64 x5)) := Blk.set (i := 5) bgA5 (.int .i64 x5)
  have sg5 := setCell_grown u5 G 5 (.int .i64 x5)
  have bdB5 : Blk D 23 [.int .i64 0, .int .i64 0, .int .i64 0, .int .i64 0, .int .i64 0, .int .i64 0, .string ⟨#[]⟩] (u5.setCell ⟨G, 5, none⟩ (.int .i64 x5)) := Blk.grown bdA5 sg5 (by omega)
  have rsB5 := r5.other sg5 (by omega) (hV.out G hG)
  have gA5 := grownBy_trans gB4 g5
  have gB5 : w.grownBy (u5.setCell ⟨G, 5, none⟩ (.int .i64 x5)) (some R) := ⟨sg5.os.trans gA5.os, sg5.tape.trans gA5.tape, sg5.output.trans gA5.output, Nat.le_trans gA5.size sg5.size, fun k hk hn => (sg5.block k (Nat.lt_of_lt_of_le hk gA5.size) (fun e => by injection e with e; omega)).trans (gA5.block k hk hn)⟩
  have cs5 := bgA5.cell 5 _ rfl
  have cf5 := bgA5.fz 5
  clear bgB4 bdB4 rsB4 gB4 r5 g5 bgA5 bdA5 gA5 sg5
  have ld0 := bgB5.cell 0 _ rfl
  have lz0 := bdB5.cell 0 _ rfl
  have lf0 := bdB5.fz 0
  have ld1 := bgB5.cell 1 _ rfl
  have lz1 := bdB5.cell 1 _ rfl
  have lf1 := bdB5.fz 1
  have ld2 := bgB5.cell 2 _ rfl
  have lz2 := bdB5.cell 2 _ rfl
  have lf2 := bdB5.fz 2
  have ld3 := bgB5.cell 3 _ rfl
  have lz3 := bdB5.cell 3 _ rfl
  have lf3 := bdB5.fz 3
  have ld4 := bgB5.cell 4 _ rfl
  have lz4 := bdB5.cell 4 _ rfl
  have lf4 := bdB5.fz 4
  have ld5 := bgB5.cell 5 _ rfl
  have lz5 := bdB5.cell 5 _ rfl
  have lf5 := bdB5.fz 5
  have ld6 := bgB5.cell 6 _ rfl
  have lz6 := bdB5.cell 6 _ rfl
  have lf6 := bdB5.fz 6
  go_wp2_with fail
  obtain ⟨b7, g7⟩ := Blk.seven bdB5 (.int .i64 x0) (.int .i64 0) (.int .i64 0) (.int .i64 0) (.int .i64 x4) (.int .i64 x5) (.string ⟨#[]⟩)
  refine bodyPost_cell rfl rfl D _ _ _ _ rfl b7 Try.underlying23 rfl (by kernel_rfl) ⟨rfl, ?_, ?_⟩
  · exact rsB5.other g7 (by omega) (hV.out D (Nat.le_refl _))
  · exact ⟨g7.os.trans gB5.os, g7.tape.trans gB5.tape, g7.output.trans gB5.output, Nat.le_trans gB5.size g7.size, fun k hk hn => (g7.block k (Nat.lt_of_lt_of_le hk gB5.size) (fun e => by injection e with e; omega)).trans (gB5.block k hk hn)⟩

set_option maxRecDepth 20000 in
set_option maxHeartbeats 1000000 in
theorem opFields_0 (bs : List Nat) (hb : ∀ c ∈ bs, c < 256) (hl : bs.length ≤ 1000000000000) (R : Nat) (v : Value) (st : Option Nat) (w : World) (h : RS bs R v st w) (hm : fmask (tkI bs st).1 = some 0) :
    Calls Try.prog 69 #[.pointer (some ⟨R, 0, none⟩)] w fun e w' => e = .returned (opV (opR bs st).1) ∧ RS bs R v (opR bs st).2 w' ∧ w.grownBy w' (some R) := by
  obtain ⟨x0, ex0⟩ : ∃ x, (tkI bs st).1 = x := ⟨_, rfl⟩
  obtain ⟨s0, es0⟩ : ∃ s, (tkI bs st).2 = s := ⟨_, rfl⟩
  have E1 : opR bs st = (⟨x0, 0, 0, 0, 0, 0, ⟨#[]⟩⟩, s0) := by
    unfold opR; rw [ex0] at hm; simp only [ex0, es0, hm]; simp [tkIf, tkTf]
  have FO : Hid (∀ w, Calls Try.prog 46 #[.int .i64 x0] w fun e w' => e = .returned (.tuple #[.int .i64 0, .bool true]) ∧ w' = w) := fun w => by
    have := fieldsOf_at x0 w
    rw [ex0] at hm; rw [hm] at this; exact this
  have P0 : Hid (∀ w, RS bs R v st w → Calls Try.prog 74 #[.pointer (some ⟨R, 0, none⟩)] w fun e w' => e = .returned (.int .i64 x0) ∧ RS bs R v s0 w' ∧ w.grownBy w' (some R)) := fun w h => by
    have := number_at bs hb hl R v st w h
    rw [ex0, es0] at this; exact this
  rw [E1]
  have H0 : Hid (RS bs R v st w) := h
  have hR := h.lt
  have hV : Hid (∀ g, w.heap.size ≤ g → 0 < bs.length → v.ownBlock ≠ some g) := fun g hg h0 e => by
    have := Rd.block h.rd (by rw [List.length_map]; exact h0) e
    omega
  clear h hm E1 hb hl ex0 es0
  unfold opV
  simp only
  go_enter Try.func69, Try.ntmps69
  go_wp2_with fail
  have BD0 := Blk.new 23 [.int .i64 0, .int .i64 0, .int .i64 0, .int .i64 0, .int .i64 0, .int .i64 0, .string ⟨#[]⟩] w
  have BA := below_alloc w (.cells #[.int .i64 0, .int .i64 0, .int .i64 0, .int .i64 0, .int .i64 0, .int .i64 0, .string ⟨#[]⟩] 23)
  refine (P0.out _ (H0.out.below BA)).mono ?_
  rintro e w1 ⟨rfl, r1, g1⟩
  have BD1 : Blk w.heap.size 23 [.int .i64 0, .int .i64 0, .int .i64 0, .int .i64 0, .int .i64 0, .int .i64 0, .string ⟨#[]⟩] w1 := Blk.grown BD0 g1 (by omega)
  have G1 : w.grownBy w1 (some R) := grownBy_trans (grownBy_below BA _) g1
  clear BD0 g1 BA
  have BA1 := below_alloc w1 (.cells #[.int .i64 x0, .int .i64 0, .int .i64 0, .int .i64 0, .int .i64 0, .int .i64 0, .string ⟨#[]⟩] 23)
  have BG2 := Blk.new 23 [.int .i64 x0, .int .i64 0, .int .i64 0, .int .i64 0, .int .i64 0, .int .i64 0, .string ⟨#[]⟩] w1
  have BD2 := Blk.below BD1 BA1
  have R2 := r1.below BA1
  have G2 : w.grownBy (w1.alloc (.cells #[.int .i64 x0, .int .i64 0, .int .i64 0, .int .i64 0, .int .i64 0, .int .i64 0, .string ⟨#[]⟩] 23)) (some R) := grownBy_trans G1 (grownBy_below BA1 _)
  have hG : w.heap.size ≤ w1.heap.size := G1.size
  have hD := BD1.lt
  clear BD1 r1 G1 BA1
  go_wp2_with fail
  refine (FO.out _).mono ?_
  rintro e wx ⟨rfl, hw⟩; rw [hw]; clear hw wx
  obtain ⟨G, hGe⟩ : ∃ G, w1.heap.size = G := ⟨_, rfl⟩
  obtain ⟨D, hDe⟩ : ∃ D, w.heap.size = D := ⟨_, rfl⟩
  rw [hGe] at BG2 hG hD ⊢
  rw [hDe] at BD2 hG hD hR hV ⊢
  have KG : Blk G 23 [.int .i64 x0, .int .i64 0, .int .i64 0, .int .i64 0, .int .i64 0, .int .i64 0, .string ⟨#[]⟩] (w1.alloc (.cells #[.int .i64 x0, .int .i64 0, .int .i64 0, .int .i64 0, .int .i64 0, .int .i64 0, .string ⟨#[]⟩] 23)) := BG2
  clear BG2
  generalize w1.alloc (.cells #[.int .i64 x0, .int .i64 0, .int .i64 0, .int .i64 0, .int .i64 0, .int .i64 0, .string ⟨#[]⟩] 23) = W0 at *
  have C0 := KG.cell 0 _ rfl
  have ld0 := KG.cell 0 _ rfl
  have lz0 := BD2.cell 0 _ rfl
  have lf0 := BD2.fz 0
  have ld1 := KG.cell 1 _ rfl
  have lz1 := BD2.cell 1 _ rfl
  have lf1 := BD2.fz 1
  have ld2 := KG.cell 2 _ rfl
  have lz2 := BD2.cell 2 _ rfl
  have lf2 := BD2.fz 2
  have ld3 := KG.cell 3 _ rfl
  have lz3 := BD2.cell 3 _ rfl
  have lf3 := BD2.fz 3
  have ld4 := KG.cell 4 _ rfl
  have lz4 := BD2.cell 4 _ rfl
  have lf4 := BD2.fz 4
  have ld5 := KG.cell 5 _ rfl
  have lz5 := BD2.cell 5 _ rfl
  have lf5 := BD2.fz 5
  have ld6 := KG.cell 6 _ rfl
  have lz6 := BD2.cell 6 _ rfl
  have lf6 := BD2.fz 6
  go_wp2_with fail
  obtain ⟨b7, g7⟩ := Blk.seven BD2 (.int .i64 x0) (.int .i64 0) (.int .i64 0) (.int .i64 0) (.int .i64 0) (.int .i64 0) (.string ⟨#[]⟩)
  refine bodyPost_cell rfl rfl D _ _ _ _ rfl b7 Try.underlying23 rfl (by kernel_rfl) ⟨rfl, ?_, ?_⟩
  · exact R2.other g7 (by omega) (hV.out D (Nat.le_refl _))
  · exact ⟨g7.os.trans G2.os, g7.tape.trans G2.tape, g7.output.trans G2.output, Nat.le_trans G2.size g7.size, fun k hk hn => (g7.block k (Nat.lt_of_lt_of_le hk G2.size) (fun e => by injection e with e; omega)).trans (G2.block k hk hn)⟩

theorem RS.bad {bs : List Nat} {R : Nat} {v : Value} {st : Option Nat} {w : World} (h : RS bs R v st w) : RS bs R v none (w.setCell ⟨R, 2, none⟩ (.bool true)) := by
  obtain ⟨p, c1, _⟩ := h.c1
  refine ⟨?_, ⟨p, ?_, (fun q h => by cases h)⟩, ?_, fun i => by rw [World.frozen?_setCell]; exact h.fz i, by simp; exact h.lt, Rd.grownN h.rd (setCell_grown w R 2 _) (by rw [List.length_map]; exact h.ap), h.ap, (fun q h => by cases h)⟩
  · rw [World.cell?_setCell_other _ _ _ _ (by simp)]; exact h.c0
  · rw [World.cell?_setCell_other _ _ _ _ (by simp)]; exact c1
  · exact World.cell?_setCell_same _ _ _ h.c2

set_option maxRecDepth 20000 in
set_option maxHeartbeats 1000000 in
theorem opFields_none (bs : List Nat) (hb : ∀ c ∈ bs, c < 256) (hl : bs.length ≤ 1000000000000) (R : Nat) (v : Value) (st : Option Nat) (w : World) (h : RS bs R v st w) (hm : fmask (tkI bs st).1 = none) :
    Calls Try.prog 69 #[.pointer (some ⟨R, 0, none⟩)] w fun e w' => e = .returned (opV (opR bs st).1) ∧ RS bs R v (opR bs st).2 w' ∧ w.grownBy w' (some R) := by
  obtain ⟨x0, ex0⟩ : ∃ x, (tkI bs st).1 = x := ⟨_, rfl⟩
  obtain ⟨s0, es0⟩ : ∃ s, (tkI bs st).2 = s := ⟨_, rfl⟩
  have E1 : opR bs st = (⟨x0, 0, 0, 0, 0, 0, ⟨#[]⟩⟩, none) := by
    unfold opR; rw [ex0] at hm; simp only [ex0, hm]
  have FO : Hid (∀ w, Calls Try.prog 46 #[.int .i64 x0] w fun e w' => e = .returned (.tuple #[.int .i64 0, .bool false]) ∧ w' = w) := fun w => by
    have := fieldsOf_at x0 w
    rw [ex0] at hm; rw [hm] at this; exact this
  have P0 : Hid (∀ w, RS bs R v st w → Calls Try.prog 74 #[.pointer (some ⟨R, 0, none⟩)] w fun e w' => e = .returned (.int .i64 x0) ∧ RS bs R v s0 w' ∧ w.grownBy w' (some R)) := fun w h => by
    have := number_at bs hb hl R v st w h
    rw [ex0, es0] at this; exact this
  rw [E1]
  have H0 : Hid (RS bs R v st w) := h
  have hR := h.lt
  have hV : Hid (∀ g, w.heap.size ≤ g → 0 < bs.length → v.ownBlock ≠ some g) := fun g hg h0 e => by
    have := Rd.block h.rd (by rw [List.length_map]; exact h0) e
    omega
  clear h hm E1 hb hl ex0 es0
  unfold opV
  simp only
  go_enter Try.func69, Try.ntmps69
  go_wp2_with fail
  have BD0 := Blk.new 23 [.int .i64 0, .int .i64 0, .int .i64 0, .int .i64 0, .int .i64 0, .int .i64 0, .string ⟨#[]⟩] w
  have BA := below_alloc w (.cells #[.int .i64 0, .int .i64 0, .int .i64 0, .int .i64 0, .int .i64 0, .int .i64 0, .string ⟨#[]⟩] 23)
  refine (P0.out _ (H0.out.below BA)).mono ?_
  rintro e w1 ⟨rfl, r1, g1⟩
  have BD1 : Blk w.heap.size 23 [.int .i64 0, .int .i64 0, .int .i64 0, .int .i64 0, .int .i64 0, .int .i64 0, .string ⟨#[]⟩] w1 := Blk.grown BD0 g1 (by omega)
  have G1 : w.grownBy w1 (some R) := grownBy_trans (grownBy_below BA _) g1
  clear BD0 g1 BA
  have BA1 := below_alloc w1 (.cells #[.int .i64 x0, .int .i64 0, .int .i64 0, .int .i64 0, .int .i64 0, .int .i64 0, .string ⟨#[]⟩] 23)
  have BG2 := Blk.new 23 [.int .i64 x0, .int .i64 0, .int .i64 0, .int .i64 0, .int .i64 0, .int .i64 0, .string ⟨#[]⟩] w1
  have BD2 := Blk.below BD1 BA1
  have R2 := r1.below BA1
  have G2 : w.grownBy (w1.alloc (.cells #[.int .i64 x0, .int .i64 0, .int .i64 0, .int .i64 0, .int .i64 0, .int .i64 0, .string ⟨#[]⟩] 23)) (some R) := grownBy_trans G1 (grownBy_below BA1 _)
  have hG : w.heap.size ≤ w1.heap.size := G1.size
  have hD := BD1.lt
  clear BD1 r1 G1 BA1
  go_wp2_with fail
  refine (FO.out _).mono ?_
  rintro e wx ⟨rfl, hw⟩; rw [hw]; clear hw wx
  obtain ⟨G, hGe⟩ : ∃ G, w1.heap.size = G := ⟨_, rfl⟩
  obtain ⟨D, hDe⟩ : ∃ D, w.heap.size = D := ⟨_, rfl⟩
  rw [hGe] at BG2 hG hD ⊢
  rw [hDe] at BD2 hG hD hR hV ⊢
  have KG : Blk G 23 [.int .i64 x0, .int .i64 0, .int .i64 0, .int .i64 0, .int .i64 0, .int .i64 0, .string ⟨#[]⟩] (w1.alloc (.cells #[.int .i64 x0, .int .i64 0, .int .i64 0, .int .i64 0, .int .i64 0, .int .i64 0, .string ⟨#[]⟩] 23)) := BG2
  clear BG2
  generalize w1.alloc (.cells #[.int .i64 x0, .int .i64 0, .int .i64 0, .int .i64 0, .int .i64 0, .int .i64 0, .string ⟨#[]⟩] 23) = W0 at *
  have c2 := R2.c2
  have f2 := R2.fz 2
  have sg := setCell_grown W0 R 2 (.bool true)
  have KG2 : Blk G 23 [.int .i64 x0, .int .i64 0, .int .i64 0, .int .i64 0, .int .i64 0, .int .i64 0, .string ⟨#[]⟩] (W0.setCell ⟨R, 2, none⟩ (.bool true)) := Blk.grown KG sg (by omega)
  have BD3 : Blk D 23 [.int .i64 0, .int .i64 0, .int .i64 0, .int .i64 0, .int .i64 0, .int .i64 0, .string ⟨#[]⟩] (W0.setCell ⟨R, 2, none⟩ (.bool true)) := Blk.grown BD2 sg (by omega)
  have R3 := R2.bad
  have G3 := grownBy_trans G2 sg
  clear KG BD2 R2 G2 sg
  have ld0 := KG2.cell 0 _ rfl
  have lz0 := BD3.cell 0 _ rfl
  have lf0 := BD3.fz 0
  have ld1 := KG2.cell 1 _ rfl
  have lz1 := BD3.cell 1 _ rfl
  have lf1 := BD3.fz 1
  have ld2 := KG2.cell 2 _ rfl
  have lz2 := BD3.cell 2 _ rfl
  have lf2 := BD3.fz 2
  have ld3 := KG2.cell 3 _ rfl
  have lz3 := BD3.cell 3 _ rfl
  have lf3 := BD3.fz 3
  have ld4 := KG2.cell 4 _ rfl
  have lz4 := BD3.cell 4 _ rfl
  have lf4 := BD3.fz 4
  have ld5 := KG2.cell 5 _ rfl
  have lz5 := BD3.cell 5 _ rfl
  have lf5 := BD3.fz 5
  have ld6 := KG2.cell 6 _ rfl
  have lz6 := BD3.cell 6 _ rfl
  have lf6 := BD3.fz 6
  go_wp2_with fail
  obtain ⟨b7, g7⟩ := Blk.seven BD3 (.int .i64 x0) (.int .i64 0) (.int .i64 0) (.int .i64 0) (.int .i64 0) (.int .i64 0) (.string ⟨#[]⟩)
  refine bodyPost_cell rfl rfl D _ _ _ _ rfl b7 Try.underlying23 rfl (by kernel_rfl) ⟨rfl, ?_, ?_⟩
  · exact R3.other g7 (by omega) (hV.out D (Nat.le_refl _))
  · exact ⟨g7.os.trans G3.os, g7.tape.trans G3.tape, g7.output.trans G3.output, Nat.le_trans G3.size g7.size, fun k hk hn => (g7.block k (Nat.lt_of_lt_of_le hk G3.size) (fun e => by injection e with e; omega)).trans (G3.block k hk hn)⟩

theorem opFields_at (bs : List Nat) (hb : ∀ c ∈ bs, c < 256) (hl : bs.length ≤ 1000000000000) (R : Nat) (v : Value) (st : Option Nat) (w : World) (h : RS bs R v st w) :
    Calls Try.prog 69 #[.pointer (some ⟨R, 0, none⟩)] w fun e w' => e = .returned (opV (opR bs st).1) ∧ RS bs R v (opR bs st).2 w' ∧ w.grownBy w' (some R) := by
  rcases fmask_cases (tkI bs st).1 with hm | hm | hm | hm | hm | hm | hm | hm | hm | hm | hm
  · exact opFields_none bs hb hl R v st w h hm
  · exact opFields_31 bs hb hl R v st w h hm
  · exact opFields_11 bs hb hl R v st w h hm
  · exact opFields_3 bs hb hl R v st w h hm
  · exact opFields_1 bs hb hl R v st w h hm
  · exact opFields_19 bs hb hl R v st w h hm
  · exact opFields_13 bs hb hl R v st w h hm
  · exact opFields_16 bs hb hl R v st w h hm
  · exact opFields_32 bs hb hl R v st w h hm
  · exact opFields_24 bs hb hl R v st w h hm
  · exact opFields_0 bs hb hl R v st w h hm
end Go.Proofs.Ytdbjjeaflfoppaa
