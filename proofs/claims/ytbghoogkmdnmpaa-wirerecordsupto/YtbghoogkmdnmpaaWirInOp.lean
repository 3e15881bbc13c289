/-
  Ours: the reference's In.op, mask by mask.
-/
import Derived.Test.YtbghoogkmdnmpaaWirIn
import Derived.Test.YtbghoogkmdnmpaaWirUses
namespace Go.Proofs.Ytbghoogkmdnmpaa
open Go.RowKit

theorem IS.other {bs : List Nat} {R g : Nat} {v : Value} {st : Option Nat} {w w' : World} (h : IS bs R v st w) (hb : w.grownBy w' (some g)) (hR : g ≠ R) (hv : 0 < bs.length → v.ownBlock ≠ some g) : IS bs R v st w' := by
  obtain ⟨p, c1, p0, p1⟩ := h.pb
  exact ⟨h.rs.other hb hR hv, p, (World.cell?_of_block (a := ⟨R, 1, none⟩) (hb.block R h.rs.lt (fun e => hR (by injection e with e; exact e.symm)))).trans c1, p0, p1⟩
theorem grownBy_past {w a b : World} {R G : Nat} (h : w.grownBy a (some R)) (k : a.grownBy b (some G)) (hG : w.heap.size ≤ G) : w.grownBy b (some R) :=
  ⟨k.os.trans h.os, k.tape.trans h.tape, k.output.trans h.output, Nat.le_trans h.size k.size, fun i hi hn => (k.block i (Nat.lt_of_lt_of_le hi h.size) (fun e => by injection e with e; omega)).trans (h.block i hi hn)⟩

set_option maxRecDepth 20000 in
set_option maxHeartbeats 1000000 in
theorem inOp_31 (bs : List Nat) (hb : ∀ c ∈ bs, c < 256) (hl : bs.length ≤ 1000000000000) (R : Nat) (v : Value) (st : Option Nat) (w : World) (h : IS bs R v st w) (hm : fmask (tkI bs st).1 = some 31) :
    Calls Try.prog 96 #[.pointer (some ⟨R, 0, none⟩)] w fun e w' => e = .returned (opV (opR bs st).1) ∧ IS bs R v (opR bs st).2 w' ∧ w.grownBy w' (some R) := by
  obtain ⟨x0, ex0⟩ : ∃ x, (tkI bs st).1 = x := ⟨_, rfl⟩
  obtain ⟨s0, es0⟩ : ∃ s, (tkI bs st).2 = s := ⟨_, rfl⟩
  obtain ⟨x1, ex1⟩ : ∃ x, (tkI bs s0).1 = x := ⟨_, rfl⟩
  obtain ⟨s1, es1⟩ : ∃ s, (tkI bs s0).2 = s := ⟨_, rfl⟩
  obtain ⟨x2, ex2⟩ : ∃ x, (tkI bs s1).1 = x := ⟨_, rfl⟩
  obtain ⟨s2, es2⟩ : ∃ s, (tkI bs s1).2 = s := ⟨_, rfl⟩
  obtain ⟨x3, ex3⟩ : ∃ x, (tkI bs s2).1 = x := ⟨_, rfl⟩
  obtain ⟨s3, es3⟩ : ∃ s, (tkI bs s2).2 = s := ⟨_, rfl⟩
  obtain ⟨x4, ex4⟩ : ∃ x, (tkI bs s3).1 = x := ⟨_, rfl⟩
  obtain ⟨s4, es4⟩ : ∃ s, (tkI bs s3).2 = s := ⟨_, rfl⟩
  obtain ⟨x5, ex5⟩ : ∃ x, (tkI bs s4).1 = x := ⟨_, rfl⟩
  obtain ⟨s5, es5⟩ : ∃ s, (tkI bs s4).2 = s := ⟨_, rfl⟩
  have E1 : opR bs st = (⟨x0, x1, x2, x3, x4, x5, ⟨#[]⟩⟩, s5) := by
    unfold opR; rw [ex0] at hm; simp only [ex0, es0, hm]; simp [tkIf, tkTf, ex1, es1, ex2, es2, ex3, es3, ex4, es4, ex5, es5]
  have US : Hid (∀ w, Calls Try.prog 68 #[.int .i64 x0] w fun e w' => e = .returned (.agg #[.bool false, .bool true, .bool true, .bool true, .bool true, .bool true, .bool false]) ∧ Below w.heap.size w w') := fun w => by
    have := uses_at x0 w
    rw [ex0] at hm; rw [hm] at this; exact this
  have P0 : Hid (∀ w, IS bs R v st w → Calls Try.prog 98 #[.pointer (some ⟨R, 0, none⟩)] w fun e w' => e = .returned (.int .i64 x0) ∧ IS bs R v s0 w' ∧ w.grownBy w' (some R)) := fun w h => by
    have := inN_at bs hb hl R v st w h
    rw [ex0, es0] at this; exact this
  have P1 : Hid (∀ w, IS bs R v s0 w → Calls Try.prog 98 #[.pointer (some ⟨R, 0, none⟩)] w fun e w' => e = .returned (.int .i64 x1) ∧ IS bs R v s1 w' ∧ w.grownBy w' (some R)) := fun w h => by
    have := inN_at bs hb hl R v s0 w h
    rw [ex1, es1] at this; exact this
  have P2 : Hid (∀ w, IS bs R v s1 w → Calls Try.prog 125 #[.pointer (some ⟨R, 0, none⟩)] w fun e w' => e = .returned (.int .i64 x2) ∧ IS bs R v s2 w' ∧ w.grownBy w' (some R)) := fun w h => by
    have := inNum_at bs hb hl R v s1 w h
    rw [ex2, es2] at this; exact this
  have P3 : Hid (∀ w, IS bs R v s2 w → Calls Try.prog 125 #[.pointer (some ⟨R, 0, none⟩)] w fun e w' => e = .returned (.int .i64 x3) ∧ IS bs R v s3 w' ∧ w.grownBy w' (some R)) := fun w h => by
    have := inNum_at bs hb hl R v s2 w h
    rw [ex3, es3] at this; exact this
  have P4 : Hid (∀ w, IS bs R v s3 w → Calls Try.prog 98 #[.pointer (some ⟨R, 0, none⟩)] w fun e w' => e = .returned (.int .i64 x4) ∧ IS bs R v s4 w' ∧ w.grownBy w' (some R)) := fun w h => by
    have := inN_at bs hb hl R v s3 w h
    rw [ex4, es4] at this; exact this
  have P5 : Hid (∀ w, IS bs R v s4 w → Calls Try.prog 98 #[.pointer (some ⟨R, 0, none⟩)] w fun e w' => e = .returned (.int .i64 x5) ∧ IS bs R v s5 w' ∧ w.grownBy w' (some R)) := fun w h => by
    have := inN_at bs hb hl R v s4 w h
    rw [ex5, es5] at this; exact this
  rw [E1]
  have H0 : Hid (IS bs R v st w) := h
  have hR := h.rs.lt
  have hV : Hid (∀ g, w.heap.size ≤ g → 0 < bs.length → v.ownBlock ≠ some g) := fun g hg h0 e => by
    have := Rd.block h.rs.rd (by rw [List.length_map]; exact h0) e
    omega
  clear h hm E1 hb hl ex0 es0 ex1 es1 ex2 es2 ex3 es3 ex4 es4 ex5 es5
  unfold opV
  simp only
  go_enter Try.func96, Try.ntmps96
  go_wp2_with fail
  have BD0 := Blk.new 23 [.int .i64 0, .int .i64 0, .int .i64 0, .int .i64 0, .int .i64 0, .int .i64 0, .string ⟨#[]⟩] w
  have BA0 := below_alloc w (.cells #[.int .i64 0, .int .i64 0, .int .i64 0, .int .i64 0, .int .i64 0, .int .i64 0, .string ⟨#[]⟩] 23)
  have BX0 := Blk.new 23 [.int .i64 0, .int .i64 0, .int .i64 0, .int .i64 0, .int .i64 0, .int .i64 0, .string ⟨#[]⟩] (w.alloc (.cells #[.int .i64 0, .int .i64 0, .int .i64 0, .int .i64 0, .int .i64 0, .int .i64 0, .string ⟨#[]⟩] 23))
  have BA1 := below_alloc (w.alloc (.cells #[.int .i64 0, .int .i64 0, .int .i64 0, .int .i64 0, .int .i64 0, .int .i64 0, .string ⟨#[]⟩] 23)) (.cells #[.int .i64 0, .int .i64 0, .int .i64 0, .int .i64 0, .int .i64 0, .int .i64 0, .string ⟨#[]⟩] 23)
  have hs1 : (w.alloc (.cells #[.int .i64 0, .int .i64 0, .int .i64 0, .int .i64 0, .int .i64 0, .int .i64 0, .string ⟨#[]⟩] 23)).heap.size = w.heap.size + 1 := by simp
  rw [hs1] at BX0
  have BD1 := Blk.below BD0 BA1
  have BW := BA0.trans (BA1.mono (by omega))
  refine (P0.out _ (H0.out.below BW)).mono ?_
  rintro e w1 ⟨rfl, r1, g1⟩
  have BD2 : Blk w.heap.size 23 [.int .i64 0, .int .i64 0, .int .i64 0, .int .i64 0, .int .i64 0, .int .i64 0, .string ⟨#[]⟩] w1 := Blk.grown BD1 g1 (by omega)
  have BX2 : Blk (w.heap.size + 1) 23 [.int .i64 0, .int .i64 0, .int .i64 0, .int .i64 0, .int .i64 0, .int .i64 0, .string ⟨#[]⟩] w1 := Blk.grown BX0 g1 (by omega)
  have G1 : w.grownBy w1 (some R) := grownBy_trans (grownBy_below BW _) g1
  clear BD0 BX0 g1 BA0 BA1 hs1 BD1 BW
  obtain ⟨D, hDe⟩ : ∃ D, w.heap.size = D := ⟨_, rfl⟩
  have hDs : D ≤ w.heap.size := by omega
  rw [hDe] at BD2 BX2 hR hV ⊢
  obtain ⟨X, hXe⟩ : ∃ X, D + 1 = X := ⟨_, rfl⟩
  rw [hXe] at BX2 ⊢
  have bxB0 : Blk X 23 [.int .i64 x0, .int .i64 0, .int .i64 0, .int .i64 0, .int .i64 0, .int .i64 0, .string ⟨#[]⟩] (w1.setCell ⟨X, 0, none⟩ (.int .i64 x0)) := Blk.set (i := 0) BX2 (.int .i64 x0)
  have sg0 := setCell_grown w1 X 0 (.int .i64 x0)
  have bdB0 : Blk D 23 [.int .i64 0, .int .i64 0, .int .i64 0, .int .i64 0, .int .i64 0, .int .i64 0, .string ⟨#[]⟩] (w1.setCell ⟨X, 0, none⟩ (.int .i64 x0)) := Blk.grown BD2 sg0 (by omega)
  have rsB0 := r1.other sg0 (by omega) (hV.out X (by omega))
  have gB0 : w.grownBy (w1.setCell ⟨X, 0, none⟩ (.int .i64 x0)) (some R) := grownBy_past G1 sg0 (by omega)
  have cs0 := BX2.cell 0 _ rfl
  have cf0 := BX2.fz 0
  have C0 := bxB0.cell 0 _ rfl
  clear BX2 sg0 BD2 r1 G1
  go_wp2_with fail
  refine (US.out _).mono ?_
  rintro e w2 ⟨rfl, b2⟩
  have bx2 := Blk.below bxB0 b2
  have bd2 := Blk.below bdB0 b2
  have rs2 := rsB0.below b2
  have gg2 := grownBy_trans gB0 (grownBy_below b2 _)
  clear bxB0 bdB0 rsB0 gB0 b2 cs0 cf0 C0
  have BU := Blk.new 120 [.bool false, .bool true, .bool true, .bool true, .bool true, .bool true, .bool false] w2
  have BAU := below_alloc w2 (.cells #[.bool false, .bool true, .bool true, .bool true, .bool true, .bool true, .bool false] 120)
  have bx := Blk.below bx2 BAU
  have bd := Blk.below bd2 BAU
  have rs := rs2.below BAU
  have gg := grownBy_trans gg2 (grownBy_below BAU _)
  have ltX := bx2.lt
  have ltD := bd2.lt
  have ltR := rs2.rs.lt
  have hU : D ≤ w2.heap.size := by omega
  clear bx2 bd2 rs2 gg2 BAU
  go_wp2_with fail
  obtain ⟨U, hUe⟩ : ∃ U, w2.heap.size = U := ⟨_, rfl⟩
  rw [hUe] at BU hU ltX ltD ltR ⊢
  have KU : Blk U 120 [.bool false, .bool true, .bool true, .bool true, .bool true, .bool true, .bool false] (w2.alloc (.cells #[.bool false, .bool true, .bool true, .bool true, .bool true, .bool true, .bool false] 120)) := BU
  clear BU
  generalize w2.alloc (.cells #[.bool false, .bool true, .bool true, .bool true, .bool true, .bool true, .bool false] 120) = W0 at *
  refine (P1.out _ rs).mono ?_
  rintro e u1 ⟨rfl, r1, g1⟩
  have bxA1 : Blk X 23 [.int .i64 x0, .int .i64 0, .int .i64 0, .int .i64 0, .int .i64 0, .int .i64 0, .string ⟨#[]⟩] u1 := Blk.grown bx g1 (by omega)
  have bdA1 : Blk D 23 [.int .i64 0, .int .i64 0, .int .i64 0, .int .i64 0, .int .i64 0, .int .i64 0, .string ⟨#[]⟩] u1 := Blk.grown bd g1 (by omega)
  have buA1 : Blk U 120 [.bool false, .bool true, .bool true, .bool true, .bool true, .bool true, .bool false] u1 := Blk.grown KU g1 (by omega)
  have bxB1 : Blk X 23 [.int .i64 x0, .int .i64 x1, .int .i64 0, .int .i64 0, .int .i64 0, .int .i64 0, .string ⟨#[]⟩] (u1.setCell ⟨X, 1, none⟩ (.int .i64 x1)) := Blk.set (i := 1) bxA1 (.int .i64 x1)
  have sg1 := setCell_grown u1 X 1 (.int .i64 x1)
  have bdB1 : Blk D 23 [.int .i64 0, .int .i64 0, .int .i64 0, .int .i64 0, .int .i64 0, .int .i64 0, .string ⟨#[]⟩] (u1.setCell ⟨X, 1, none⟩ (.int .i64 x1)) := Blk.grown bdA1 sg1 (by omega)
  have buB1 : Blk U 120 [.bool false, .bool true, .bool true, .bool true, .bool true, .bool true, .bool false] (u1.setCell ⟨X, 1, none⟩ (.int .i64 x1)) := Blk.grown buA1 sg1 (by omega)
  have rsB1 := r1.other sg1 (by omega) (hV.out X (by omega))
  have gB1 : w.grownBy (u1.setCell ⟨X, 1, none⟩ (.int .i64 x1)) (some R) := grownBy_past (grownBy_trans gg g1) sg1 (by omega)
  have cs1 := bxA1.cell 1 _ rfl
  have cf1 := bxA1.fz 1
  clear bx bd KU rs gg r1 g1 bxA1 bdA1 buA1 sg1
  have lu2 := buB1.cell 2 _ rfl
  have lu3 := buB1.cell 3 _ rfl
  have lu4 := buB1.cell 4 _ rfl
  have lu5 := buB1.cell 5 _ rfl
  have lu6 := buB1.cell 6 _ rfl
  go_wp2_with fail
  clear lu2 lu3 lu4 lu5 lu6
  refine (P2.out _ rsB1).mono ?_
  rintro e u2 ⟨rfl, r2, g2⟩
  have bxA2 : Blk X 23 [.int .i64 x0, .int .i64 x1, .int .i64 0, .int .i64 0, .int .i64 0, .int .i64 0, .string ⟨#[]⟩] u2 := Blk.grown bxB1 g2 (by omega)
  have bdA2 : Blk D 23 [.int .i64 0, .int .i64 0, .int .i64 0, .int .i64 0, .int .i64 0, .int .i64 0, .string ⟨#[]⟩] u2 := Blk.grown bdB1 g2 (by omega)
  have buA2 : Blk U 120 [.bool false, .bool true, .bool true, .bool true, .bool true, .bool true, .bool false] u2 := Blk.grown buB1 g2 (by omega)
  have bxB2 : Blk X 23 [.int .i64 x0, .int .i64 x1, .int .i64 x2, .int .i64 0, .int .i64 0, .int .i64 0, .string ⟨#[]⟩] (u2.setCell ⟨X, 2, none⟩ (.int .i64 x2)) := Blk.set (i := 2) bxA2 (.int .i64 x2)
  have sg2 := setCell_grown u2 X 2 (.int .i64 x2)
  have bdB2 : Blk D 23 [.int .i64 0, .int .i64 0, .int .i64 0, .int .i64 0, .int .i64 0, .int .i64 0, .string ⟨#[]⟩] (u2.setCell ⟨X, 2, none⟩ (.int .i64 x2)) := Blk.grown bdA2 sg2 (by omega)
  have buB2 : Blk U 120 [.bool false, .bool true, .bool true, .bool true, .bool true, .bool true, .bool false] (u2.setCell ⟨X, 2, none⟩ (.int .i64 x2)) := Blk.grown buA2 sg2 (by omega)
  have rsB2 := r2.other sg2 (by omega) (hV.out X (by omega))
  have gB2 : w.grownBy (u2.setCell ⟨X, 2, none⟩ (.int .i64 x2)) (some R) := grownBy_past (grownBy_trans gB1 g2) sg2 (by omega)
  have cs2 := bxA2.cell 2 _ rfl
  have cf2 := bxA2.fz 2
  clear bxB1 bdB1 buB1 rsB1 gB1 r2 g2 bxA2 bdA2 buA2 sg2
  have lu3 := buB2.cell 3 _ rfl
  have lu4 := buB2.cell 4 _ rfl
  have lu5 := buB2.cell 5 _ rfl
  have lu6 := buB2.cell 6 _ rfl
  go_wp2_with fail
  clear lu3 lu4 lu5 lu6
  refine (P3.out _ rsB2).mono ?_
  rintro e u3 ⟨rfl, r3, g3⟩
  have bxA3 : Blk X 23 [.int .i64 x0, .int .i64 x1, .int .i64 x2, .int .i64 0, .int .i64 0, .int .i64 0, .string ⟨#[]⟩] u3 := Blk.grown bxB2 g3 (by omega)
  have bdA3 : Blk D 23 [.int .i64 0, .int .i64 0, .int .i64 0, .int .i64 0, .int .i64 0, .int .i64 0, .string ⟨#[]⟩] u3 := Blk.grown bdB2 g3 (by omega)
  have buA3 : Blk U 120 [.bool false, .bool true, .bool true, .bool true, .bool true, .bool true, .bool false] u3 := Blk.grown buB2 g3 (by omega)
  have bxB3 : Blk X 23 [.int .i64 x0, .int .i64 x1, .int .i64 x2, .int .i64 x3, .int .i64 0, .int .i64 0, .string ⟨#[]⟩] (u3.setCell ⟨X, 3, none⟩ (.int .i64 x3)) := Blk.set (i := 3) bxA3 (.int .i64 x3)
  have sg3 := setCell_grown u3 X 3 (.int .i64 x3)
  have bdB3 : Blk D 23 [.int .i64 0, .int .i64 0, .int .i64 0, .int .i64 0, .int .i64 0, .int .i64 0, .string ⟨#[]⟩] (u3.setCell ⟨X, 3, none⟩ (.int .i64 x3)) := Blk.grown bdA3 sg3 (by omega)
  have buB3 : Blk U 120 [.bool false, .bool true, .bool true, .bool true, .bool true, .bool true, .bool false] (u3.setCell ⟨X, 3, none⟩ (.int .i64 x3)) := Blk.grown buA3 sg3 (by omega)
  have rsB3 := r3.other sg3 (by omega) (hV.out X (by omega))
  have gB3 : w.grownBy (u3.setCell ⟨X, 3, none⟩ (.int .i64 x3)) (some R) := grownBy_past (grownBy_trans gB2 g3) sg3 (by omega)
  have cs3 := bxA3.cell 3 _ rfl
  have cf3 := bxA3.fz 3
  clear bxB2 bdB2 buB2 rsB2 gB2 r3 g3 bxA3 bdA3 buA3 sg3
  have lu4 := buB3.cell 4 _ rfl
  have lu5 := buB3.cell 5 _ rfl
  have lu6 := buB3.cell 6 _ rfl
  go_wp2_with fail
  clear lu4 lu5 lu6
  refine (P4.out _ rsB3).mono ?_
  rintro e u4 ⟨rfl, r4, g4⟩
  have bxA4 : Blk X 23 [.int .i64 x0, .int .i64 x1, .int .i64 x2, .int .i64 x3, .int .i64 0, .int .i64 0, .string ⟨#[]⟩] u4 := Blk.grown bxB3 g4 (by omega)
  have bdA4 : Blk D 23 [.int .i64 0, .int .i64 0, .int .i64 0, .int .i64 0, .int .i64 0, .int .i64 0, .string ⟨#[]⟩] u4 := Blk.grown bdB3 g4 (by omega)
  have buA4 : Blk U 120 [.bool false, .bool true, .bool true, .bool true, .bool true, .bool true, .bool false] u4 := Blk.grown buB3 g4 (by omega)
  have bxB4 : Blk X 23 [.int .i64 x0, .int .i64 x1, .int .i64 x2, .int .i64 x3, .int .i64 x4, .int .i64 0, .string ⟨#[]⟩] (u4.setCell ⟨X, 4, none⟩ (.int .i64 x4)) := Blk.set (i := 4) bxA4 (.int .i64 x4)
  have sg4 := setCell_grown u4 X 4 (.int .i64 x4)
  have bdB4 : Blk D 23 [.int .i64 0, .int .i64 0, .int .i64 0, .int .i64 0, .int .i64 0, .int .i64 0, .string ⟨#[]⟩] (u4.setCell ⟨X, 4, none⟩ (.int .i64 x4)) := Blk.grown bdA4 sg4 (by omega)
  have buB4 : Blk U 120 [.bool false, .bool true, .bool true, .bool true, .bool true, .bool true, .bool false] (u4.setCell ⟨X, 4, none⟩ (.int .i64 x4)) := Blk.grown buA4 sg4 (by omega)
  have rsB4 := r4.other sg4 (by omega) (hV.out X (by omega))
  have gB4 : w.grownBy (u4.setCell ⟨X, 4, none⟩ (.int .i64 x4)) (some R) := grownBy_past (grownBy_trans gB3 g4) sg4 (by omega)
  have cs4 := bxA4.cell 4 _ rfl
  have cf4 := bxA4.fz 4
  clear bxB3 bdB3 buB3 rsB3 gB3 r4 g4 bxA4 bdA4 buA4 sg4
  have lu5 := buB4.cell 5 _ rfl
  have lu6 := buB4.cell 6 _ rfl
  go_wp2_with fail
  clear lu5 lu6
  refine (P5.out _ rsB4).mono ?_
  rintro e u5 ⟨rfl, r5, g5⟩
  have bxA5 : Blk X 23 [.int .i64 x0, .int .i64 x1, .int .i64 x2, .int .i64 x3, .int .i64 x4, .int .i64 0, .string ⟨#[]⟩] u5 := Blk.grown bxB4 g5 (by omega)
  have bdA5 : Blk D 23 [.int .i64 0, .int .i64 0, .int .i64 0, .int .i64 0, .int .i64 0, .int .i64 0, .string ⟨#[]⟩] u5 := Blk.grown bdB4 g5 (by omega)
  have buA5 : Blk U 120 [.bool false, .bool true, .bool true, .bool true, .bool true, .bool true, .bool false] u5 := Blk.grown buB4 g5 (by omega)
  have bxB5 : Blk X 23 [.int .i64 x0, .int .i64 x1, .int .i64 x2, .int .i64 x3, .int .i64 x4, .int .i64 x5, .string ⟨#[]⟩] (u5.setCell ⟨X, 5, none⟩ (.int .i64 x5)) := Blk.set (i := 5) bxA5 (.int .i64 x5)
  have sg5 := setCell_grown u5 X 5 (.int .i64 x5)
  have bdB5 : Blk D 23 [.int .i64 0, .int .i64 0, .int .i64 0, .int .i64 0, .int .i64 0, .int .i64 0, .string ⟨#[]⟩] (u5.setCell ⟨X, 5, none⟩ (.int .i64 x5)) := Blk.grown bdA5 sg5 (by omega)
  have buB5 : Blk U 120 [.bool false, .bool true, .bool true, .bool true, .bool true, .bool true, .bool false] (u5.setCell ⟨X, 5, none⟩ (.int .i64 x5)) := Blk.grown buA5 sg5 (by omega)
  have rsB5 := r5.other sg5 (by omega) (hV.out X (by omega))
  have gB5 : w.grownBy (u5.setCell ⟨X, 5, none⟩ (.int .i64 x5)) (some R) := grownBy_past (grownBy_trans gB4 g5) sg5 (by omega)
  have cs5 := bxA5.cell 5 _ rfl
  have cf5 := bxA5.fz 5
  clear bxB4 bdB4 buB4 rsB4 gB4 r5 g5 bxA5 bdA5 buA5 sg5
  have lu6 := buB5.cell 6 _ rfl
  have ld0 := bxB5.cell 0 _ rfl
  have lz0 := bdB5.cell 0 _ rfl
  have lf0 := bdB5.fz 0
  have ld1 := bxB5.cell 1 _ rfl
  have lz1 := bdB5.cell 1 _ rfl
  have lf1 := bdB5.fz 1
  have ld2 := bxB5.cell 2 _ rfl
  have lz2 := bdB5.cell 2 _ rfl
  have lf2 := bdB5.fz 2
  have ld3 := bxB5.cell 3 _ rfl
  have lz3 := bdB5.cell 3 _ rfl
  have lf3 := bdB5.fz 3
  have ld4 := bxB5.cell 4 _ rfl
  have lz4 := bdB5.cell 4 _ rfl
  have lf4 := bdB5.fz 4
  have ld5 := bxB5.cell 5 _ rfl
  have lz5 := bdB5.cell 5 _ rfl
  have lf5 := bdB5.fz 5
  have ld6 := bxB5.cell 6 _ rfl
  have lz6 := bdB5.cell 6 _ rfl
  have lf6 := bdB5.fz 6
  go_wp2_with fail
  obtain ⟨b7, g7⟩ := Blk.seven bdB5 (.int .i64 x0) (.int .i64 x1) (.int .i64 x2) (.int .i64 x3) (.int .i64 x4) (.int .i64 x5) (.string ⟨#[]⟩)
  refine bodyPost_cell rfl rfl D _ _ _ _ rfl b7 Try.underlying23 rfl (by kernel_rfl) ⟨rfl, ?_, ?_⟩
  · exact rsB5.other g7 (by omega) (hV.out D (Nat.le_refl _))
  · exact grownBy_past gB5 g7 (by omega)

set_option maxRecDepth 20000 in
set_option maxHeartbeats 1000000 in
theorem inOp_11 (bs : List Nat) (hb : ∀ c ∈ bs, c < 256) (hl : bs.length ≤ 1000000000000) (R : Nat) (v : Value) (st : Option Nat) (w : World) (h : IS bs R v st w) (hm : fmask (tkI bs st).1 = some 11) :
    Calls Try.prog 96 #[.pointer (some ⟨R, 0, none⟩)] w fun e w' => e = .returned (opV (opR bs st).1) ∧ IS bs R v (opR bs st).2 w' ∧ w.grownBy w' (some R) := by
  obtain ⟨x0, ex0⟩ : ∃ x, (tkI bs st).1 = x := ⟨_, rfl⟩
  obtain ⟨s0, es0⟩ : ∃ s, (tkI bs st).2 = s := ⟨_, rfl⟩
  obtain ⟨x1, ex1⟩ : ∃ x, (tkI bs s0).1 = x := ⟨_, rfl⟩
  obtain ⟨s1, es1⟩ : ∃ s, (tkI bs s0).2 = s := ⟨_, rfl⟩
  obtain ⟨x2, ex2⟩ : ∃ x, (tkI bs s1).1 = x := ⟨_, rfl⟩
  obtain ⟨s2, es2⟩ : ∃ s, (tkI bs s1).2 = s := ⟨_, rfl⟩
  obtain ⟨x4, ex4⟩ : ∃ x, (tkI bs s2).1 = x := ⟨_, rfl⟩
  obtain ⟨s4, es4⟩ : ∃ s, (tkI bs s2).2 = s := ⟨_, rfl⟩
  have E1 : opR bs st = (⟨x0, x1, x2, 0, x4, 0, ⟨#[]⟩⟩, s4) := by
    unfold opR; rw [ex0] at hm; simp only [ex0, es0, hm]; simp [tkIf, tkTf, ex1, es1, ex2, es2, ex4, es4]
  have US : Hid (∀ w, Calls Try.prog 68 #[.int .i64 x0] w fun e w' => e = .returned (.agg #[.bool false, .bool true, .bool true, .bool false, .bool true, .bool false, .bool false]) ∧ Below w.heap.size w w') := fun w => by
    have := uses_at x0 w
    rw [ex0] at hm; rw [hm] at this; exact this
  have P0 : Hid (∀ w, IS bs R v st w → Calls Try.prog 98 #[.pointer (some ⟨R, 0, none⟩)] w fun e w' => e = .returned (.int .i64 x0) ∧ IS bs R v s0 w' ∧ w.grownBy w' (some R)) := fun w h => by
    have := inN_at bs hb hl R v st w h
    rw [ex0, es0] at this; exact this
  have P1 : Hid (∀ w, IS bs R v s0 w → Calls Try.prog 98 #[.pointer (some ⟨R, 0, none⟩)] w fun e w' => e = .returned (.int .i64 x1) ∧ IS bs R v s1 w' ∧ w.grownBy w' (some R)) := fun w h => by
    have := inN_at bs hb hl R v s0 w h
    rw [ex1, es1] at this; exact this
  have P2 : Hid (∀ w, IS bs R v s1 w → Calls Try.prog 125 #[.pointer (some ⟨R, 0, none⟩)] w fun e w' => e = .returned (.int .i64 x2) ∧ IS bs R v s2 w' ∧ w.grownBy w' (some R)) := fun w h => by
    have := inNum_at bs hb hl R v s1 w h
    rw [ex2, es2] at this; exact this
  have P4 : Hid (∀ w, IS bs R v s2 w → Calls Try.prog 98 #[.pointer (some ⟨R, 0, none⟩)] w fun e w' => e = .returned (.int .i64 x4) ∧ IS bs R v s4 w' ∧ w.grownBy w' (some R)) := fun w h => by
    have := inN_at bs hb hl R v s2 w h
    rw [ex4, es4] at this; exact this
  rw [E1]
  have H0 : Hid (IS bs R v st w) := h
  have hR := h.rs.lt
  have hV : Hid (∀ g, w.heap.size ≤ g → 0 < bs.length → v.ownBlock ≠ some g) := fun g hg h0 e => by
    have := Rd.block h.rs.rd (by rw [List.length_map]; exact h0) e
    omega
  clear h hm E1 hb hl ex0 es0 ex1 es1 ex2 es2 ex4 es4
  unfold opV
  simp only
  go_enter Try.func96, Try.ntmps96
  go_wp2_with fail
  have BD0 := Blk.new 23 [.int .i64 0, .int .i64 0, .int .i64 0, .int .i64 0, .int .i64 0, .int .i64 0, .string ⟨#[]⟩] w
  have BA0 := below_alloc w (.cells #[.int .i64 0, .int .i64 0, .int .i64 0, .int .i64 0, .int .i64 0, .int .i64 0, .string ⟨#[]⟩] 23)
  have BX0 := Blk.new 23 [.int .i64 0, .int .i64 0, .int .i64 0, .int .i64 0, .int .i64 0, .int .i64 0, .string ⟨#[]⟩] (w.alloc (.cells #[.int .i64 0, .int .i64 0, .int .i64 0, .int .i64 0, .int .i64 0, .int .i64 0, .string ⟨#[]⟩] 23))
  have BA1 := below_alloc (w.alloc (.cells #[.int .i64 0, .int .i64 0, .int .i64 0, .int .i64 0, .int .i64 0, .int .i64 0, .string ⟨#[]⟩] 23)) (.cells #[.int .i64 0, .int .i64 0, .int .i64 0, .int .i64 0, .int .i64 0, .int .i64 0, .string ⟨#[]⟩] 23)
  have hs1 : (w.alloc (.cells #[.int .i64 0, .int .i64 0, .int .i64 0, .int .i64 0, .int .i64 0, .int .i64 0, .string ⟨#[]⟩] 23)).heap.size = w.heap.size + 1 := by simp
  rw [hs1] at BX0
  have BD1 := Blk.below BD0 BA1
  have BW := BA0.trans (BA1.mono (by omega))
  refine (P0.out _ (H0.out.below BW)).mono ?_
  rintro e w1 ⟨rfl, r1, g1⟩
  have BD2 : Blk w.heap.size 23 [.int .i64 0, .int .i64 0, .int .i64 0, .int .i64 0, .int .i64 0, .int .i64 0, .string ⟨#[]⟩] w1 := Blk.grown BD1 g1 (by omega)
  have BX2 : Blk (w.heap.size + 1) 23 [.int .i64 0, .int .i64 0, .int .i64 0, .int .i64 0, .int .i64 0, .int .i64 0, .string ⟨#[]⟩] w1 := Blk.grown BX0 g1 (by omega)
  have G1 : w.grownBy w1 (some R) := grownBy_trans (grownBy_below BW _) g1
  clear BD0 BX0 g1 BA0 BA1 hs1 BD1 BW
  obtain ⟨D, hDe⟩ : ∃ D, w.heap.size = D := ⟨_, rfl⟩
  have hDs : D ≤ w.heap.size := by omega
  rw [hDe] at BD2 BX2 hR hV ⊢
  obtain ⟨X, hXe⟩ : ∃ X, D + 1 = X := ⟨_, rfl⟩
  rw [hXe] at BX2 ⊢
  have bxB0 : Blk X 23 [.int .i64 x0, .int .i64 0, .int .i64 0, .int .i64 0, .int .i64 0, .int .i64 0, .string ⟨#[]⟩] (w1.setCell ⟨X, 0, none⟩ (.int .i64 x0)) := Blk.set (i := 0) BX2 (.int .i64 x0)
  have sg0 := setCell_grown w1 X 0 (.int .i64 x0)
  have bdB0 : Blk D 23 [.int .i64 0, .int .i64 0, .int .i64 0, .int .i64 0, .int .i64 0, .int .i64 0, .string ⟨#[]⟩] (w1.setCell ⟨X, 0, none⟩ (.int .i64 x0)) := Blk.grown BD2 sg0 (by omega)
  have rsB0 := r1.other sg0 (by omega) (hV.out X (by omega))
  have gB0 : w.grownBy (w1.setCell ⟨X, 0, none⟩ (.int .i64 x0)) (some R) := grownBy_past G1 sg0 (by omega)
  have cs0 := BX2.cell 0 _ rfl
  have cf0 := BX2.fz 0
  have C0 := bxB0.cell 0 _ rfl
  clear BX2 sg0 BD2 r1 G1
  go_wp2_with fail
  refine (US.out _).mono ?_
  rintro e w2 ⟨rfl, b2⟩
  have bx2 := Blk.below bxB0 b2
  have bd2 := Blk.below bdB0 b2
  have rs2 := rsB0.below b2
  have gg2 := grownBy_trans gB0 (grownBy_below b2 _)
  clear bxB0 bdB0 rsB0 gB0 b2 cs0 cf0 C0
  have BU := Blk.new 120 [.bool false, .bool true, .bool true, .bool false, .bool true, .bool false, .bool false] w2
  have BAU := below_alloc w2 (.cells #[.bool false, .bool true, .bool true, .bool false, .bool true, .bool false, .bool false] 120)
  have bx := Blk.below bx2 BAU
  have bd := Blk.below bd2 BAU
  have rs := rs2.below BAU
  have gg := grownBy_trans gg2 (grownBy_below BAU _)
  have ltX := bx2.lt
  have ltD := bd2.lt
  have ltR := rs2.rs.lt
  have hU : D ≤ w2.heap.size := by omega
  clear bx2 bd2 rs2 gg2 BAU
  go_wp2_with fail
  obtain ⟨U, hUe⟩ : ∃ U, w2.heap.size = U := ⟨_, rfl⟩
  rw [hUe] at BU hU ltX ltD ltR ⊢
  have KU : Blk U 120 [.bool false, .bool true, .bool true, .bool false, .bool true, .bool false, .bool false] (w2.alloc (.cells #[.bool false, .bool true, .bool true, .bool false, .bool true, .bool false, .bool false] 120)) := BU
  clear BU
  generalize w2.alloc (.cells #[.bool false, .bool true, .bool true, .bool false, .bool true, .bool false, .bool false] 120) = W0 at *
  refine (P1.out _ rs).mono ?_
  rintro e u1 ⟨rfl, r1, g1⟩
  have bxA1 : Blk X 23 [.int .i64 x0, .int .i64 0, .int .i64 0, .int .i64 0, .int .i64 0, .int .i64 0, .string ⟨#[]⟩] u1 := Blk.grown bx g1 (by omega)
  have bdA1 : Blk D 23 [.int .i64 0, .int .i64 0, .int .i64 0, .int .i64 0, .int .i64 0, .int .i64 0, .string ⟨#[]⟩] u1 := Blk.grown bd g1 (by omega)
  have buA1 : Blk U 120 [.bool false, .bool true, .bool true, .bool false, .bool true, .bool false, .bool false] u1 := Blk.grown KU g1 (by omega)
  have bxB1 : Blk X 23 [.int .i64 x0, .int .i64 x1, .int .i64 0, .int .i64 0, .int .i64 0, .int .i64 0, .string ⟨#[]⟩] (u1.setCell ⟨X, 1, none⟩ (.int .i64 x1)) := Blk.set (i := 1) bxA1 (.int .i64 x1)
  have sg1 := setCell_grown u1 X 1 (.int .i64 x1)
  have bdB1 : Blk D 23 [.int .i64 0, .int .i64 0, .int .i64 0, .int .i64 0, .int .i64 0, .int .i64 0, .string ⟨#[]⟩] (u1.setCell ⟨X, 1, none⟩ (.int .i64 x1)) := Blk.grown bdA1 sg1 (by omega)
  have buB1 : Blk U 120 [.bool false, .bool true, .bool true, .bool false, .bool true, .bool false, .bool false] (u1.setCell ⟨X, 1, none⟩ (.int .i64 x1)) := Blk.grown buA1 sg1 (by omega)
  have rsB1 := r1.other sg1 (by omega) (hV.out X (by omega))
  have gB1 : w.grownBy (u1.setCell ⟨X, 1, none⟩ (.int .i64 x1)) (some R) := grownBy_past (grownBy_trans gg g1) sg1 (by omega)
  have cs1 := bxA1.cell 1 _ rfl
  have cf1 := bxA1.fz 1
  clear bx bd KU rs gg r1 g1 bxA1 bdA1 buA1 sg1
  have lu2 := buB1.cell 2 _ rfl
  have lu3 := buB1.cell 3 _ rfl
  have lu4 := buB1.cell 4 _ rfl
  have lu5 := buB1.cell 5 _ rfl
  have lu6 := buB1.cell 6 _ rfl
  go_wp2_with fail
  clear lu2 lu3 lu4 lu5 lu6
  refine (P2.out _ rsB1).mono ?_
  rintro e u2 ⟨rfl, r2, g2⟩
  have bxA2 : Blk X 23 [.int .i64 x0, .int .i64 x1, .int .i64 0, .int .i64 0, .int .i64 0, .int .i64 0, .string ⟨#[]⟩] u2 := Blk.grown bxB1 g2 (by omega)
  have bdA2 : Blk D 23 [.int .i64 0, .int .i64 0, .int .i64 0, .int .i64 0, .int .i64 0, .int .i64 0, .string ⟨#[]⟩] u2 := Blk.grown bdB1 g2 (by omega)
  have buA2 : Blk U 120 [.bool false, .bool true, .bool true, .bool false, .bool true, .bool false, .bool false] u2 := Blk.grown buB1 g2 (by omega)
  have bxB2 : Blk X 23 [.int .i64 x0, .int .i64 x1, .int .i64 x2, .int .i64 0, .int .i64 0, .int .i64 0, .string ⟨#[]⟩] (u2.setCell ⟨X, 2, none⟩ (.int .i64 x2)) := Blk.set (i := 2) bxA2 (.int .i64 x2)
  have sg2 := setCell_grown u2 X 2 (.int .i64 x2)
  have bdB2 : Blk D 23 [.int .i64 0, .int .i64 0, .int .i64 0, .int .i64 0, .int .i64 0, .int .i64 0, .string ⟨#[]⟩] (u2.setCell ⟨X, 2, none⟩ (.int .i64 x2)) := Blk.grown bdA2 sg2 (by omega)
  have buB2 : Blk U 120 [.bool false, .bool true, .bool true, .bool false, .bool true, .bool false, .bool false] (u2.setCell ⟨X, 2, none⟩ (.int .i64 x2)) := Blk.grown buA2 sg2 (by omega)
  have rsB2 := r2.other sg2 (by omega) (hV.out X (by omega))
  have gB2 : w.grownBy (u2.setCell ⟨X, 2, none⟩ (.int .i64 x2)) (some R) := grownBy_past (grownBy_trans gB1 g2) sg2 (by omega)
  have cs2 := bxA2.cell 2 _ rfl
  have cf2 := bxA2.fz 2
  clear bxB1 bdB1 buB1 rsB1 gB1 r2 g2 bxA2 bdA2 buA2 sg2
  have lu3 := buB2.cell 3 _ rfl
  have lu4 := buB2.cell 4 _ rfl
  have lu5 := buB2.cell 5 _ rfl
  have lu6 := buB2.cell 6 _ rfl
  go_wp2_with fail
  clear lu3 lu4 lu5 lu6
  refine (P4.out _ rsB2).mono ?_
  rintro e u4 ⟨rfl, r4, g4⟩
  have bxA4 : Blk X 23 [.int .i64 x0, .int .i64 x1, .int .i64 x2, .int .i64 0, .int .i64 0, .int .i64 0, .string ⟨#[]⟩] u4 := Blk.grown bxB2 g4 (by omega)
  have bdA4 : Blk D 23 [.int .i64 0, .int .i64 0, .int .i64 0, .int .i64 0, .int .i64 0, .int .i64 0, .string ⟨#[]⟩] u4 := Blk.grown bdB2 g4 (by omega)
  have buA4 : Blk U 120 [.bool false, .bool true, .bool true, .bool false, .bool true, .bool false, .bool false] u4 := Blk.grown buB2 g4 (by omega)
  have bxB4 : Blk X 23 [.int .i64 x0, .int .i64 x1, .int .i64 x2, .int .i64 0, .int .i64 x4, .int .i64 0, .string ⟨#[]⟩] (u4.setCell ⟨X, 4, none⟩ (.int .i64 x4)) := Blk.set (i := 4) bxA4 (.int .i64 x4)
  have sg4 := setCell_grown u4 X 4 (.int .i64 x4)
  have bdB4 : Blk D 23 [.int .i64 0, .int .i64 0, .int .i64 0, .int .i64 0, .int .i64 0, .int .i64 0, .string ⟨#[]⟩] (u4.setCell ⟨X, 4, none⟩ (.int .i64 x4)) := Blk.grown bdA4 sg4 (by omega)
  have buB4 : Blk U 120 [.bool false, .bool true, .bool true, .bool false, .bool true, .bool false, .bool false] (u4.setCell ⟨X, 4, none⟩ (.int .i64 x4)) := Blk.grown buA4 sg4 (by omega)
  have rsB4 := r4.other sg4 (by omega) (hV.out X (by omega))
  have gB4 : w.grownBy (u4.setCell ⟨X, 4, none⟩ (.int .i64 x4)) (some R) := grownBy_past (grownBy_trans gB2 g4) sg4 (by omega)
  have cs4 := bxA4.cell 4 _ rfl
  have cf4 := bxA4.fz 4
  clear bxB2 bdB2 buB2 rsB2 gB2 r4 g4 bxA4 bdA4 buA4 sg4
  have lu5 := buB4.cell 5 _ rfl
  have lu6 := buB4.cell 6 _ rfl
  have ld0 := bxB4.cell 0 _ rfl
  have lz0 := bdB4.cell 0 _ rfl
  have lf0 := bdB4.fz 0
  have ld1 := bxB4.cell 1 _ rfl
  have lz1 := bdB4.cell 1 _ rfl
  have lf1 := bdB4.fz 1
  have ld2 := bxB4.cell 2 _ rfl
  have lz2 := bdB4.cell 2 _ rfl
  have lf2 := bdB4.fz 2
  have ld3 := bxB4.cell 3 _ rfl
  have lz3 := bdB4.cell 3 _ rfl
  have lf3 := bdB4.fz 3
  have ld4 := bxB4.cell 4 _ rfl
  have lz4 := bdB4.cell 4 _ rfl
  have lf4 := bdB4.fz 4
  have ld5 := bxB4.cell 5 _ rfl
  have lz5 := bdB4.cell 5 _ rfl
  have lf5 := bdB4.fz 5
  have ld6 := bxB4.cell 6 _ rfl
  have lz6 := bdB4.cell 6 _ rfl
  have lf6 := bdB4.fz 6
  go_wp2_with fail
  obtain ⟨b7, g7⟩ := Blk.seven bdB4 (.int .i64 x0) (.int .i64 x1) (.int .i64 x2) (.int .i64 0) (.int .i64 x4) (.int .i64 0) (.string ⟨#[]⟩)
  refine bodyPost_cell rfl rfl D _ _ _ _ rfl b7 Try.underlying23 rfl (by kernel_rfl) ⟨rfl, ?_, ?_⟩
  · exact rsB4.other g7 (by omega) (hV.out D (Nat.le_refl _))
  · exact grownBy_past gB4 g7 (by omega)

set_option maxRecDepth 20000 in
set_option maxHeartbeats 1000000 in
theorem inOp_3 (bs : List Nat) (hb : ∀ c ∈ bs, c < 256) (hl : bs.length ≤ 1000000000000) (R : Nat) (v : Value) (st : Option Nat) (w : World) (h : IS bs R v st w) (hm : fmask (tkI bs st).1 = some 3) :
    Calls Try.prog 96 #[.pointer (some ⟨R, 0, none⟩)] w fun e w' => e = .returned (opV (opR bs st).1) ∧ IS bs R v (opR bs st).2 w' ∧ w.grownBy w' (some R) := by
  obtain ⟨x0, ex0⟩ : ∃ x, (tkI bs st).1 = x := ⟨_, rfl⟩
  obtain ⟨s0, es0⟩ : ∃ s, (tkI bs st).2 = s := ⟨_, rfl⟩
  obtain ⟨x1, ex1⟩ : ∃ x, (tkI bs s0).1 = x := ⟨_, rfl⟩
  obtain ⟨s1, es1⟩ : ∃ s, (tkI bs s0).2 = s := ⟨_, rfl⟩
  obtain ⟨x2, ex2⟩ : ∃ x, (tkI bs s1).1 = x := ⟨_, rfl⟩
  obtain ⟨s2, es2⟩ : ∃ s, (tkI bs s1).2 = s := ⟨_, rfl⟩
  have E1 : opR bs st = (⟨x0, x1, x2, 0, 0, 0, ⟨#[]⟩⟩, s2) := by
    unfold opR; rw [ex0] at hm; simp only [ex0, es0, hm]; simp [tkIf, tkTf, ex1, es1, ex2, es2]
  have US : Hid (∀ w, Calls Try.prog 68 #[.int .i64 x0] w fun e w' => e = .returned (.agg #[.bool false, .bool true, .bool true, .bool false, .bool false, .bool false, .bool false]) ∧ Below w.heap.size w w') := fun w => by
    have := uses_at x0 w
    rw [ex0] at hm; rw [hm] at this; exact this
  have P0 : Hid (∀ w, IS bs R v st w → Calls Try.prog 98 #[.pointer (some ⟨R, 0, none⟩)] w fun e w' => e = .returned (.int .i64 x0) ∧ IS bs R v s0 w' ∧ w.grownBy w' (some R)) := fun w h => by
    have := inN_at bs hb hl R v st w h
    rw [ex0, es0] at this; exact this
  have P1 : Hid (∀ w, IS bs R v s0 w → Calls Try.prog 98 #[.pointer (some ⟨R, 0, none⟩)] w fun e w' => e = .returned (.int .i64 x1) ∧ IS bs R v s1 w' ∧ w.grownBy w' (some R)) := fun w h => by
    have := inN_at bs hb hl R v s0 w h
    rw [ex1, es1] at this; exact this
  have P2 : Hid (∀ w, IS bs R v s1 w → Calls Try.prog 125 #[.pointer (some ⟨R, 0, none⟩)] w fun e w' => e = .returned (.int .i64 x2) ∧ IS bs R v s2 w' ∧ w.grownBy w' (some R)) := fun w h => by
    have := inNum_at bs hb hl R v s1 w h
    rw [ex2, es2] at this; exact this
  rw [E1]
  have H0 : Hid (IS bs R v st w) := h
  have hR := h.rs.lt
  have hV : Hid (∀ g, w.heap.size ≤ g → 0 < bs.length → v.ownBlock ≠ some g) := fun g hg h0 e => by
    have := Rd.block h.rs.rd (by rw [List.length_map]; exact h0) e
    omega
  clear h hm E1 hb hl ex0 es0 ex1 es1 ex2 es2
  unfold opV
  simp only
  go_enter Try.func96, Try.ntmps96
  go_wp2_with fail
  have BD0 := Blk.new 23 [.int .i64 0, .int .i64 0, .int .i64 0, .int .i64 0, .int .i64 0, .int .i64 0, .string ⟨#[]⟩] w
  have BA0 := below_alloc w (.cells #[.int .i64 0, .int .i64 0, .int .i64 0, .int .i64 0, .int .i64 0, .int .i64 0, .string ⟨#[]⟩] 23)
  have BX0 := Blk.new 23 [.int .i64 0, .int .i64 0, .int .i64 0, .int .i64 0, .int .i64 0, .int .i64 0, .string ⟨#[]⟩] (w.alloc (.cells #[.int .i64 0, .int .i64 0, .int .i64 0, .int .i64 0, .int .i64 0, .int .i64 0, .string ⟨#[]⟩] 23))
  have BA1 := below_alloc (w.alloc (.cells #[.int .i64 0, .int .i64 0, .int .i64 0, .int .i64 0, .int .i64 0, .int .i64 0, .string ⟨#[]⟩] 23)) (.cells #[.int .i64 0, .int .i64 0, .int .i64 0, .int .i64 0, .int .i64 0, .int .i64 0, .string ⟨#[]⟩] 23)
  have hs1 : (w.alloc (.cells #[.int .i64 0, .int .i64 0, .int .i64 0, .int .i64 0, .int .i64 0, .int .i64 0, .string ⟨#[]⟩] 23)).heap.size = w.heap.size + 1 := by simp
  rw [hs1] at BX0
  have BD1 := Blk.below BD0 BA1
  have BW := BA0.trans (BA1.mono (by omega))
  refine (P0.out _ (H0.out.below BW)).mono ?_
  rintro e w1 ⟨rfl, r1, g1⟩
  have BD2 : Blk w.heap.size 23 [.int .i64 0, .int .i64 0, .int .i64 0, .int .i64 0, .int .i64 0, .int .i64 0, .string ⟨#[]⟩] w1 := Blk.grown BD1 g1 (by omega)
  have BX2 : Blk (w.heap.size + 1) 23 [.int .i64 0, .int .i64 0, .int .i64 0, .int .i64 0, .int .i64 0, .int .i64 0, .string ⟨#[]⟩] w1 := Blk.grown BX0 g1 (by omega)
  have G1 : w.grownBy w1 (some R) := grownBy_trans (grownBy_below BW _) g1
  clear BD0 BX0 g1 BA0 BA1 hs1 BD1 BW
  obtain ⟨D, hDe⟩ : ∃ D, w.heap.size = D := ⟨_, rfl⟩
  have hDs : D ≤ w.heap.size := by omega
  rw [hDe] at BD2 BX2 hR hV ⊢
  obtain ⟨X, hXe⟩ : ∃ X, D + 1 = X := ⟨_, rfl⟩
  rw [hXe] at BX2 ⊢
  have bxB0 : Blk X 23 [.int .i64 x0, .int .i64 0, .int .i64 0, .int .i64 0, .int .i64 0, .int .i64 0, .string ⟨#[]⟩] (w1.setCell ⟨X, 0, none⟩ (.int .i64 x0)) := Blk.set (i := 0) BX2 (.int .i64 x0)
  have sg0 := setCell_grown w1 X 0 (.int .i64 x0)
  have bdB0 : Blk D 23 [.int .i64 0, .int .i64 0, .int .i64 0, .int .i64 0, .int .i64 0, .int .i64 0, .string ⟨#[]⟩] (w1.setCell ⟨X, 0, none⟩ (.int .i64 x0)) := Blk.grown BD2 sg0 (by omega)
  have rsB0 := r1.other sg0 (by omega) (hV.out X (by omega))
  have gB0 : w.grownBy (w1.setCell ⟨X, 0, none⟩ (.int .i64 x0)) (some R) := grownBy_past G1 sg0 (by omega)
  have cs0 := BX2.cell 0 _ rfl
  have cf0 := BX2.fz 0
  have C0 := bxB0.cell 0 _ rfl
  clear BX2 sg0 BD2 r1 G1
  go_wp2_with fail
  refine (US.out _).mono ?_
  rintro e w2 ⟨rfl, b2⟩
  have bx2 := Blk.below bxB0 b2
  have bd2 := Blk.below bdB0 b2
  have rs2 := rsB0.below b2
  have gg2 := grownBy_trans gB0 (grownBy_below b2 _)
  clear bxB0 bdB0 rsB0 gB0 b2 cs0 cf0 C0
  have BU := Blk.new 120 [.bool false, .bool true, .bool true, .bool false, .bool false, .bool false, .bool false] w2
  have BAU := below_alloc w2 (.cells #[.bool false, .bool true, .bool true, .bool false, .bool false, .bool false, .bool false] 120)
  have bx := Blk.below bx2 BAU
  have bd := Blk.below bd2 BAU
  have rs := rs2.below BAU
  have gg := grownBy_trans gg2 (grownBy_below BAU _)
  have ltX := bx2.lt
  have ltD := bd2.lt
  have ltR := rs2.rs.lt
  have hU : D ≤ w2.heap.size := by omega
  clear bx2 bd2 rs2 gg2 BAU
  go_wp2_with fail
  obtain ⟨U, hUe⟩ : ∃ U, w2.heap.size = U := ⟨_, rfl⟩
  rw [hUe] at BU hU ltX ltD ltR ⊢
  have KU : Blk U 120 [.bool false, .bool true, .bool true, .bool false, .bool false, .bool false, .bool false] (w2.alloc (.cells #[.bool false, .bool true, .bool true, .bool false, .bool false, .bool false, .bool false] 120)) := BU
  clear BU
  generalize w2.alloc (.cells #[.bool false, .bool true, .bool true, .bool false, .bool false, .bool false, .bool false] 120) = W0 at *
  refine (P1.out _ rs).mono ?_
  rintro e u1 ⟨rfl, r1, g1⟩
  have bxA1 : Blk X 23 [.int .i64 x0, .int .i64 0, .int .i64 0, .int .i64 0, .int .i64 0, .int .i64 0, .string ⟨#[]⟩] u1 := Blk.grown bx g1 (by omega)
  have bdA1 : Blk D 23 [.int .i64 0, .int .i64 0, .int .i64 0, .int .i64 0, .int .i64 0, .int .i64 0, .string ⟨#[]⟩] u1 := Blk.grown bd g1 (by omega)
  have buA1 : Blk U 120 [.bool false, .bool true, .bool true, .bool false, .bool false, .bool false, .bool false] u1 := Blk.grown KU g1 (by omega)
  have bxB1 : Blk X 23 [.int .i64 x0, .int .i64 x1, .int .i64 0, .int .i64 0, .int .i64 0, .int .i64 0, .string ⟨#[]⟩] (u1.setCell ⟨X, 1, none⟩ (.int .i64 x1)) := Blk.set (i := 1) bxA1 (.int .i64 x1)
  have sg1 := setCell_grown u1 X 1 (.int .i64 x1)
  have bdB1 : Blk D 23 [.int .i64 0, .int .i64 0, .int .i64 0, .int .i64 0, .int .i64 0, .int .i64 0, .string ⟨#[]⟩] (u1.setCell ⟨X, 1, none⟩ (.int .i64 x1)) := Blk.grown bdA1 sg1 (by omega)
  have buB1 : Blk U 120 [.bool false, .bool true, .bool true, .bool false, .bool false, .bool false, .bool false] (u1.setCell ⟨X, 1, none⟩ (.int .i64 x1)) := Blk.grown buA1 sg1 (by omega)
  have rsB1 := r1.other sg1 (by omega) (hV.out X (by omega))
  have gB1 : w.grownBy (u1.setCell ⟨X, 1, none⟩ (.int .i64 x1)) (some R) := grownBy_past (grownBy_trans gg g1) sg1 (by omega)
  have cs1 := bxA1.cell 1 _ rfl
  have cf1 := bxA1.fz 1
  clear bx bd KU rs gg r1 g1 bxA1 bdA1 buA1 sg1
  have lu2 := buB1.cell 2 _ rfl
  have lu3 := buB1.cell 3 _ rfl
  have lu4 := buB1.cell 4 _ rfl
  have lu5 := buB1.cell 5 _ rfl
  have lu6 := buB1.cell 6 _ rfl
  go_wp2_with fail
  clear lu2 lu3 lu4 lu5 lu6
  refine (P2.out _ rsB1).mono ?_
  rintro e u2 ⟨rfl, r2, g2⟩
  have bxA2 : Blk X 23 [.int .i64 x0, .int .i64 x1, .int .i64 0, .int .i64 0, .int .i64 0, .int .i64 0, .string ⟨#[]⟩] u2 := Blk.grown bxB1 g2 (by omega)
  have bdA2 : Blk D 23 [.int .i64 0, .int .i64 0, .int .i64 0, .int .i64 0, .int .i64 0, .int .i64 0, .string ⟨#[]⟩] u2 := Blk.grown bdB1 g2 (by omega)
  have buA2 : Blk U 120 [.bool false, .bool true, .bool true, .bool false, .bool false, .bool false, .bool false] u2 := Blk.grown buB1 g2 (by omega)
  have bxB2 : Blk X 23 [.int .i64 x0, .int .i64 x1, .int .i64 x2, .int .i64 0, .int .i64 0, .int .i64 0, .string ⟨#[]⟩] (u2.setCell ⟨X, 2, none⟩ (.int .i64 x2)) := Blk.set (i := 2) bxA2 (.int .i64 x2)
  have sg2 := setCell_grown u2 X 2 (.int .i64 x2)
  have bdB2 : Blk D 23 [.int .i64 0, .int .i64 0, .int .i64 0, .int .i64 0, .int .i64 0, .int .i64 0, .string ⟨#[]⟩] (u2.setCell ⟨X, 2, none⟩ (.int .i64 x2)) := Blk.grown bdA2 sg2 (by omega)
  have buB2 : Blk U 120 [.bool false, .bool true, .bool true, .bool false, .bool false, .bool false, .bool false] (u2.setCell ⟨X, 2, none⟩ (.int .i64 x2)) := Blk.grown buA2 sg2 (by omega)
  have rsB2 := r2.other sg2 (by omega) (hV.out X (by omega))
  have gB2 : w.grownBy (u2.setCell ⟨X, 2, none⟩ (.int .i64 x2)) (some R) := grownBy_past (grownBy_trans gB1 g2) sg2 (by omega)
  have cs2 := bxA2.cell 2 _ rfl
  have cf2 := bxA2.fz 2
  clear bxB1 bdB1 buB1 rsB1 gB1 r2 g2 bxA2 bdA2 buA2 sg2
  have lu3 := buB2.cell 3 _ rfl
  have lu4 := buB2.cell 4 _ rfl
  have lu5 := buB2.cell 5 _ rfl
  have lu6 := buB2.cell 6 _ rfl
  have ld0 := bxB2.cell 0 _ rfl
  have lz0 := bdB2.cell 0 _ rfl
  have lf0 := bdB2.fz 0
  have ld1 := bxB2.cell 1 _ rfl
  have lz1 := bdB2.cell 1 _ rfl
  have lf1 := bdB2.fz 1
  have ld2 := bxB2.cell 2 _ rfl
  have lz2 := bdB2.cell 2 _ rfl
  have lf2 := bdB2.fz 2
  have ld3 := bxB2.cell 3 _ rfl
  have lz3 := bdB2.cell 3 _ rfl
  have lf3 := bdB2.fz 3
  have ld4 := bxB2.cell 4 _ rfl
  have lz4 := bdB2.cell 4 _ rfl
  have lf4 := bdB2.fz 4
  have ld5 := bxB2.cell 5 _ rfl
  have lz5 := bdB2.cell 5 _ rfl
  have lf5 := bdB2.fz 5
  have ld6 := bxB2.cell 6 _ rfl
  have lz6 := bdB2.cell 6 _ rfl
  have lf6 := bdB2.fz 6
  go_wp2_with fail
  obtain ⟨b7, g7⟩ := Blk.seven bdB2 (.int .i64 x0) (.int .i64 x1) (.int .i64 x2) (.int .i64 0) (.int .i64 0) (.int .i64 0) (.string ⟨#[]⟩)
  refine bodyPost_cell rfl rfl D _ _ _ _ rfl b7 Try.underlying23 rfl (by kernel_rfl) ⟨rfl, ?_, ?_⟩
  · exact rsB2.other g7 (by omega) (hV.out D (Nat.le_refl _))
  · exact grownBy_past gB2 g7 (by omega)

set_option maxRecDepth 20000 in
set_option maxHeartbeats 1000000 in
theorem inOp_1 (bs : List Nat) (hb : ∀ c ∈ bs, c < 256) (hl : bs.length ≤ 1000000000000) (R : Nat) (v : Value) (st : Option Nat) (w : World) (h : IS bs R v st w) (hm : fmask (tkI bs st).1 = some 1) :
    Calls Try.prog 96 #[.pointer (some ⟨R, 0, none⟩)] w fun e w' => e = .returned (opV (opR bs st).1) ∧ IS bs R v (opR bs st).2 w' ∧ w.grownBy w' (some R) := by
  obtain ⟨x0, ex0⟩ : ∃ x, (tkI bs st).1 = x := ⟨_, rfl⟩
  obtain ⟨s0, es0⟩ : ∃ s, (tkI bs st).2 = s := ⟨_, rfl⟩
  obtain ⟨x1, ex1⟩ : ∃ x, (tkI bs s0).1 = x := ⟨_, rfl⟩
  obtain ⟨s1, es1⟩ : ∃ s, (tkI bs s0).2 = s := ⟨_, rfl⟩
  have E1 : opR bs st = (⟨x0, x1, 0, 0, 0, 0, ⟨#[]⟩⟩, s1) := by
    unfold opR; rw [ex0] at hm; simp only [ex0, es0, hm]; simp [tkIf, tkTf, ex1, es1]
  have US : Hid (∀ w, Calls Try.prog 68 #[.int .i64 x0] w fun e w' => e = .returned (.agg #[.bool false, .bool true, .bool false, .bool false, .bool false, .bool false, .bool false]) ∧ Below w.heap.size w w') := fun w => by
    have := uses_at x0 w
    rw [ex0] at hm; rw [hm] at this; exact this
  have P0 : Hid (∀ w, IS bs R v st w → Calls Try.prog 98 #[.pointer (some ⟨R, 0, none⟩)] w fun e w' => e = .returned (.int .i64 x0) ∧ IS bs R v s0 w' ∧ w.grownBy w' (some R)) := fun w h => by
    have := inN_at bs hb hl R v st w h
    rw [ex0, es0] at this; exact this
  have P1 : Hid (∀ w, IS bs R v s0 w → Calls Try.prog 98 #[.pointer (some ⟨R, 0, none⟩)] w fun e w' => e = .returned (.int .i64 x1) ∧ IS bs R v s1 w' ∧ w.grownBy w' (some R)) := fun w h => by
    have := inN_at bs hb hl R v s0 w h
    rw [ex1, es1] at this; exact this
  rw [E1]
  have H0 : Hid (IS bs R v st w) := h
  have hR := h.rs.lt
  have hV : Hid (∀ g, w.heap.size ≤ g → 0 < bs.length → v.ownBlock ≠ some g) := fun g hg h0 e => by
    have := Rd.block h.rs.rd (by rw [List.length_map]; exact h0) e
    omega
  clear h hm E1 hb hl ex0 es0 ex1 es1
  unfold opV
  simp only
  go_enter Try.func96, Try.ntmps96
  go_wp2_with fail
  have BD0 := Blk.new 23 [.int .i64 0, .int .i64 0, .int .i64 0, .int .i64 0, .int .i64 0, .int .i64 0, .string ⟨#[]⟩] w
  have BA0 := below_alloc w (.cells #[.int .i64 0, .int .i64 0, .int .i64 0, .int .i64 0, .int .i64 0, .int .i64 0, .string ⟨#[]⟩] 23)
  have BX0 := Blk.new 23 [.int .i64 0, .int .i64 0, .int .i64 0, .int .i64 0, .int .i64 0, .int .i64 0, .string ⟨#[]⟩] (w.alloc (.cells #[.int .i64 0, .int .i64 0, .int .i64 0, .int .i64 0, .int .i64 0, .int .i64 0, .string ⟨#[]⟩] 23))
  have BA1 := below_alloc (w.alloc (.cells #[.int .i64 0, .int .i64 0, .int .i64 0, .int .i64 0, .int .i64 0, .int .i64 0, .string ⟨#[]⟩] 23)) (.cells #[.int .i64 0, .int .i64 0, .int .i64 0, .int .i64 0, .int .i64 0, .int .i64 0, .string ⟨#[]⟩] 23)
  have hs1 : (w.alloc (.cells #[.int .i64 0, .int .i64 0, .int .i64 0, .int .i64 0, .int .i64 0, .int .i64 0, .string ⟨#[]⟩] 23)).heap.size = w.heap.size + 1 := by simp
  rw [hs1] at BX0
  have BD1 := Blk.below BD0 BA1
  have BW := BA0.trans (BA1.mono (by omega))
  refine (P0.out _ (H0.out.below BW)).mono ?_
  rintro e w1 ⟨rfl, r1, g1⟩
  have BD2 : Blk w.heap.size 23 [.int .i64 0, .int .i64 0, .int .i64 0, .int .i64 0, .int .i64 0, .int .i64 0, .string ⟨#[]⟩] w1 := Blk.grown BD1 g1 (by omega)
  have BX2 : Blk (w.heap.size + 1) 23 [.int .i64 0, .int .i64 0, .int .i64 0, .int .i64 0, .int .i64 0, .int .i64 0, .string ⟨#[]⟩] w1 := Blk.grown BX0 g1 (by omega)
  have G1 : w.grownBy w1 (some R) := grownBy_trans (grownBy_below BW _) g1
  clear BD0 BX0 g1 BA0 BA1 hs1 BD1 BW
  obtain ⟨D, hDe⟩ : ∃ D, w.heap.size = D := ⟨_, rfl⟩
  have hDs : D ≤ w.heap.size := by omega
  rw [hDe] at BD2 BX2 hR hV ⊢
  obtain ⟨X, hXe⟩ : ∃ X, D + 1 = X := ⟨_, rfl⟩
  rw [hXe] at BX2 ⊢
  have bxB0 : Blk X 23 [.int .i64 x0, .int .i64 0, .int .i64 0, .int .i64 0, .int .i64 0, .int .i64 0, .string ⟨#[]⟩] (w1.setCell ⟨X, 0, none⟩ (.int .i64 x0)) := Blk.set (i := 0) BX2 (.int .i64 x0)
  have sg0 := setCell_grown w1 X 0 (.int .i64 x0)
  have bdB0 : Blk D 23 [.int .i64 0, .int .i64 0, .int .i64 0, .int .i64 0, .int .i64 0, .int .i64 0, .string ⟨#[]⟩] (w1.setCell ⟨X, 0, none⟩ (.int .i64 x0)) := Blk.grown BD2 sg0 (by omega)
  have rsB0 := r1.other sg0 (by omega) (hV.out X (by omega))
  have gB0 : w.grownBy (w1.setCell ⟨X, 0, none⟩ (.int .i64 x0)) (some R) := grownBy_past G1 sg0 (by omega)
  have cs0 := BX2.cell 0 _ rfl
  have cf0 := BX2.fz 0
  have C0 := bxB0.cell 0 _ rfl
  clear BX2 sg0 BD2 r1 G1
  go_wp2_with fail
  refine (US.out _).mono ?_
  rintro e w2 ⟨rfl, b2⟩
  have bx2 := Blk.below bxB0 b2
  have bd2 := Blk.below bdB0 b2
  have rs2 := rsB0.below b2
  have gg2 := grownBy_trans gB0 (grownBy_below b2 _)
  clear bxB0 bdB0 rsB0 gB0 b2 cs0 cf0 C0
  have BU := Blk.new 120 [.bool false, .bool true, .bool false, .bool false, .bool false, .bool false, .bool false] w2
  have BAU := below_alloc w2 (.cells #[.bool false, .bool true, .bool false, .bool false, .bool false, .bool false, .bool false] 120)
  have bx := Blk.below bx2 BAU
  have bd := Blk.below bd2 BAU
  have rs := rs2.below BAU
  have gg := grownBy_trans gg2 (grownBy_below BAU _)
  have ltX := bx2.lt
  have ltD := bd2.lt
  have ltR := rs2.rs.lt
  have hU : D ≤ w2.heap.size := by omega
  clear bx2 bd2 rs2 gg2 BAU
  go_wp2_with fail
  obtain ⟨U, hUe⟩ : ∃ U, w2.heap.size = U := ⟨_, rfl⟩
  rw [hUe] at BU hU ltX ltD ltR ⊢
  have KU : Blk U 120 [.bool false, .bool true, .bool false, .bool false, .bool false, .bool false, .bool false] (w2.alloc (.cells #[.bool false, .bool true, .bool false, .bool false, .bool false, .bool false, .bool false] 120)) := BU
  clear BU
  generalize w2.alloc (.cells #[.bool false, .bool true, .bool false, .bool false, .bool false, .bool false, .bool false] 120) = W0 at *
  refine (P1.out _ rs).mono ?_
  rintro e u1 ⟨rfl, r1, g1⟩
  have bxA1 : Blk X 23 [.int .i64 x0, .int .i64 0, .int .i64 0, .int .i64 0, .int .i64 0, .int .i64 0, .string ⟨#[]⟩] u1 := Blk.grown bx g1 (by omega)
  have bdA1 : Blk D 23 [.int .i64 0, .int .i64 0, .int .i64 0, .int .i64 0, .int .i64 0, .int .i64 0, .string ⟨#[]⟩] u1 := Blk.grown bd g1 (by omega)
  have buA1 : Blk U 120 [.bool false, .bool true, .bool false, .bool false, .bool false, .bool false, .bool false] u1 := Blk.grown KU g1 (by omega)
  have bxB1 : Blk X 23 [.int .i64 x0, .int .i64 x1, .int .i64 0, .int .i64 0, .int .i64 0, .int .i64 0, .string ⟨#[]⟩] (u1.setCell ⟨X, 1, none⟩ (.int .i64 x1)) := Blk.set (i := 1) bxA1 (.int .i64 x1)
  have sg1 := setCell_grown u1 X 1 (.int .i64 x1)
  have bdB1 : Blk D 23 [.int .i64 0, .int .i64 0, .int .i64 0, .int .i64 0, .int .i64 0, .int .i64 0, .string ⟨#[]⟩] (u1.setCell ⟨X, 1, none⟩ (.int .i64 x1)) := Blk.grown bdA1 sg1 (by omega)
  have buB1 : Blk U 120 [.bool false, .bool true, .bool false, .bool false, .bool false, .bool false, .bool false] (u1.setCell ⟨X, 1, none⟩ (.int .i64 x1)) := Blk.grown buA1 sg1 (by omega)
  have rsB1 := r1.other sg1 (by omega) (hV.out X (by omega))
  have gB1 : w.grownBy (u1.setCell ⟨X, 1, none⟩ (.int .i64 x1)) (some R) := grownBy_past (grownBy_trans gg g1) sg1 (by omega)
  have cs1 := bxA1.cell 1 _ rfl
  have cf1 := bxA1.fz 1
  clear bx bd KU rs gg r1 g1 bxA1 bdA1 buA1 sg1
  have lu2 := buB1.cell 2 _ rfl
  have lu3 := buB1.cell 3 _ rfl
  have lu4 := buB1.cell 4 _ rfl
  have lu5 := buB1.cell 5 _ rfl
  have lu6 := buB1.cell 6 _ rfl
  have ld0 := bxB1.cell 0 _ rfl
  have lz0 := bdB1.cell 0 _ rfl
  have lf0 := bdB1.fz 0
  have ld1 := bxB1.cell 1 _ rfl
  have lz1 := bdB1.cell 1 _ rfl
  have lf1 := bdB1.fz 1
  have ld2 := bxB1.cell 2 _ rfl
  have lz2 := bdB1.cell 2 _ rfl
  have lf2 := bdB1.fz 2
  have ld3 := bxB1.cell 3 _ rfl
  have lz3 := bdB1.cell 3 _ rfl
  have lf3 := bdB1.fz 3
  have ld4 := bxB1.cell 4 _ rfl
  have lz4 := bdB1.cell 4 _ rfl
  have lf4 := bdB1.fz 4
  have ld5 := bxB1.cell 5 _ rfl
  have lz5 := bdB1.cell 5 _ rfl
  have lf5 := bdB1.fz 5
  have ld6 := bxB1.cell 6 _ rfl
  have lz6 := bdB1.cell 6 _ rfl
  have lf6 := bdB1.fz 6
  go_wp2_with fail
  obtain ⟨b7, g7⟩ := Blk.seven bdB1 (.int .i64 x0) (.int .i64 x1) (.int .i64 0) (.int .i64 0) (.int .i64 0) (.int .i64 0) (.string ⟨#[]⟩)
  refine bodyPost_cell rfl rfl D _ _ _ _ rfl b7 Try.underlying23 rfl (by kernel_rfl) ⟨rfl, ?_, ?_⟩
  · exact rsB1.other g7 (by omega) (hV.out D (Nat.le_refl _))
  · exact grownBy_past gB1 g7 (by omega)

set_option maxRecDepth 20000 in
set_option maxHeartbeats 1000000 in
theorem inOp_19 (bs : List Nat) (hb : ∀ c ∈ bs, c < 256) (hl : bs.length ≤ 1000000000000) (R : Nat) (v : Value) (st : Option Nat) (w : World) (h : IS bs R v st w) (hm : fmask (tkI bs st).1 = some 19) :
    Calls Try.prog 96 #[.pointer (some ⟨R, 0, none⟩)] w fun e w' => e = .returned (opV (opR bs st).1) ∧ IS bs R v (opR bs st).2 w' ∧ w.grownBy w' (some R) := by
  obtain ⟨x0, ex0⟩ : ∃ x, (tkI bs st).1 = x := ⟨_, rfl⟩
  obtain ⟨s0, es0⟩ : ∃ s, (tkI bs st).2 = s := ⟨_, rfl⟩
  obtain ⟨x1, ex1⟩ : ∃ x, (tkI bs s0).1 = x := ⟨_, rfl⟩
  obtain ⟨s1, es1⟩ : ∃ s, (tkI bs s0).2 = s := ⟨_, rfl⟩
  obtain ⟨x2, ex2⟩ : ∃ x, (tkI bs s1).1 = x := ⟨_, rfl⟩
  obtain ⟨s2, es2⟩ : ∃ s, (tkI bs s1).2 = s := ⟨_, rfl⟩
  obtain ⟨x5, ex5⟩ : ∃ x, (tkI bs s2).1 = x := ⟨_, rfl⟩
  obtain ⟨s5, es5⟩ : ∃ s, (tkI bs s2).2 = s := ⟨_, rfl⟩
  have E1 : opR bs st = (⟨x0, x1, x2, 0, 0, x5, ⟨#[]⟩⟩, s5) := by
    unfold opR; rw [ex0] at hm; simp only [ex0, es0, hm]; simp [tkIf, tkTf, ex1, es1, ex2, es2, ex5, es5]
  have US : Hid (∀ w, Calls Try.prog 68 #[.int .i64 x0] w fun e w' => e = .returned (.agg #[.bool false, .bool true, .bool true, .bool false, .bool false, .bool true, .bool false]) ∧ Below w.heap.size w w') := fun w => by
    have := uses_at x0 w
    rw [ex0] at hm; rw [hm] at this; exact this
  have P0 : Hid (∀ w, IS bs R v st w → Calls Try.prog 98 #[.pointer (some ⟨R, 0, none⟩)] w fun e w' => e = .returned (.int .i64 x0) ∧ IS bs R v s0 w' ∧ w.grownBy w' (some R)) := fun w h => by
    have := inN_at bs hb hl R v st w h
    rw [ex0, es0] at this; exact this
  have P1 : Hid (∀ w, IS bs R v s0 w → Calls Try.prog 98 #[.pointer (some ⟨R, 0, none⟩)] w fun e w' => e = .returned (.int .i64 x1) ∧ IS bs R v s1 w' ∧ w.grownBy w' (some R)) := fun w h => by
    have := inN_at bs hb hl R v s0 w h
    rw [ex1, es1] at this; exact this
  have P2 : Hid (∀ w, IS bs R v s1 w → Calls Try.prog 125 #[.pointer (some ⟨R, 0, none⟩)] w fun e w' => e = .returned (.int .i64 x2) ∧ IS bs R v s2 w' ∧ w.grownBy w' (some R)) := fun w h => by
    have := inNum_at bs hb hl R v s1 w h
    rw [ex2, es2] at this; exact this
  have P5 : Hid (∀ w, IS bs R v s2 w → Calls Try.prog 98 #[.pointer (some ⟨R, 0, none⟩)] w fun e w' => e = .returned (.int .i64 x5) ∧ IS bs R v s5 w' ∧ w.grownBy w' (some R)) := fun w h => by
    have := inN_at bs hb hl R v s2 w h
    rw [ex5, es5] at this; exact this
  rw [E1]
  have H0 : Hid (IS bs R v st w) := h
  have hR := h.rs.lt
  have hV : Hid (∀ g, w.heap.size ≤ g → 0 < bs.length → v.ownBlock ≠ some g) := fun g hg h0 e => by
    have := Rd.block h.rs.rd (by rw [List.length_map]; exact h0) e
    omega
  clear h hm E1 hb hl ex0 es0 ex1 es1 ex2 es2 ex5 es5
  unfold opV
  simp only
  go_enter Try.func96, Try.ntmps96
  go_wp2_with fail
  have BD0 := Blk.new 23 [.int .i64 0, .int .i64 0, .int .i64 0, .int .i64 0, .int .i64 0, .int .i64 0, .string ⟨#[]⟩] w
  have BA0 := below_alloc w (.cells #[.int .i64 0, .int .i64 0, .int .i64 0, .int .i64 0, .int .i64 0, .int .i64 0, .string ⟨#[]⟩] 23)
  have BX0 := Blk.new 23 [.int .i64 0, .int .i64 0, .int .i64 0, .int .i64 0, .int .i64 0, .int .i64 0, .string ⟨#[]⟩] (w.alloc (.cells #[.int .i64 0, .int .i64 0, .int .i64 0, .int .i64 0, .int .i64 0, .int .i64 0, .string ⟨#[]⟩] 23))
  have BA1 := below_alloc (w.alloc (.cells #[.int .i64 0, .int .i64 0, .int .i64 0, .int .i64 0, .int .i64 0, .int .i64 0, .string ⟨#[]⟩] 23)) (.cells #[.int .i64 0, .int .i64 0, .int .i64 0, .int .i64 0, .int .i64 0, .int .i64 0, .string ⟨#[]⟩] 23)
  have hs1 : (w.alloc (.cells #[.int .i64 0, .int .i64 0, .int .i64 0, .int .i64 0, .int .i64 0, .int .i64 0, .string ⟨#[]⟩] 23)).heap.size = w.heap.size + 1 := by simp
  rw [hs1] at BX0
  have BD1 := Blk.below BD0 BA1
  have BW := BA0.trans (BA1.mono (by omega))
  refine (P0.out _ (H0.out.below BW)).mono ?_
  rintro e w1 ⟨rfl, r1, g1⟩
  have BD2 : Blk w.heap.size 23 [.int .i64 0, .int .i64 0, .int .i64 0, .int .i64 0, .int .i64 0, .int .i64 0, .string ⟨#[]⟩] w1 := Blk.grown BD1 g1 (by omega)
  have BX2 : Blk (w.heap.size + 1) 23 [.int .i64 0, .int .i64 0, .int .i64 0, .int .i64 0, .int .i64 0, .int .i64 0, .string ⟨#[]⟩] w1 := Blk.grown BX0 g1 (by omega)
  have G1 : w.grownBy w1 (some R) := grownBy_trans (grownBy_below BW _) g1
  clear BD0 BX0 g1 BA0 BA1 hs1 BD1 BW
  obtain ⟨D, hDe⟩ : ∃ D, w.heap.size = D := ⟨_, rfl⟩
  have hDs : D ≤ w.heap.size := by omega
  rw [hDe] at BD2 BX2 hR hV ⊢
  obtain ⟨X, hXe⟩ : ∃ X, D + 1 = X := ⟨_, rfl⟩
  rw [hXe] at BX2 ⊢
  have bxB0 : Blk X 23 [.int .i64 x0, .int .i64 0, .int .i64 0, .int .i64 0, .int .i64 0, .int .i64 0, .string ⟨#[]⟩] (w1.setCell ⟨X, 0, none⟩ (.int .i64 x0)) := Blk.set (i := 0) BX2 (.int .i64 x0)
  have sg0 := setCell_grown w1 X 0 (.int .i64 x0)
  have bdB0 : Blk D 23 [.int .i64 0, .int .i64 0, .int .i64 0, .int .i64 0, .int .i64 0, .int .i64 0, .string ⟨#[]⟩] (w1.setCell ⟨X, 0, none⟩ (.int .i64 x0)) := Blk.grown BD2 sg0 (by omega)
  have rsB0 := r1.other sg0 (by omega) (hV.out X (by omega))
  have gB0 : w.grownBy (w1.setCell ⟨X, 0, none⟩ (.int .i64 x0)) (some R) := grownBy_past G1 sg0 (by omega)
  have cs0 := BX2.cell 0 _ rfl
  have cf0 := BX2.fz 0
  have C0 := bxB0.cell 0 _ rfl
  clear BX2 sg0 BD2 r1 G1
  go_wp2_with fail
  refine (US.out _).mono ?_
  rintro e w2 ⟨rfl, b2⟩
  have bx2 := Blk.below bxB0 b2
  have bd2 := Blk.below bdB0 b2
  have rs2 := rsB0.below b2
  have gg2 := grownBy_trans gB0 (grownBy_below b2 _)
  clear bxB0 bdB0 rsB0 gB0 b2 cs0 cf0 C0
  have BU := Blk.new 120 [.bool false, .bool true, .bool true, .bool false, .bool false, .bool true, .bool false] w2
  have BAU := below_alloc w2 (.cells #[.bool false, .bool true, .bool true, .bool false, .bool false, .bool true, .bool false] 120)
  have bx := Blk.below bx2 BAU
  have bd := Blk.below bd2 BAU
  have rs := rs2.below BAU
  have gg := grownBy_trans gg2 (grownBy_below BAU _)
  have ltX := bx2.lt
  have ltD := bd2.lt
  have ltR := rs2.rs.lt
  have hU : D ≤ w2.heap.size := by omega
  clear bx2 bd2 rs2 gg2 BAU
  go_wp2_with fail
  obtain ⟨U, hUe⟩ : ∃ U, w2.heap.size = U := ⟨_, rfl⟩
  rw [hUe] at BU hU ltX ltD ltR ⊢
  have KU : Blk U 120 [.bool false, .bool true, .bool true, .bool false, .bool false, .bool true, .bool false] (w2.alloc (.cells #[.bool false, .bool true, .bool true, .bool false, .bool false, .bool true, .bool false] 120)) := BU
  clear BU
  generalize w2.alloc (.cells #[.bool false, .bool true, .bool true, .bool false, .bool false, .bool true, .bool false] 120) = W0 at *
  refine (P1.out _ rs).mono ?_
  rintro e u1 ⟨rfl, r1, g1⟩
  have bxA1 : Blk X 23 [.int .i64 x0, .int .i64 0, .int .i64 0, .int .i64 0, .int .i64 0, .int .i64 0, .string ⟨#[]⟩] u1 := Blk.grown bx g1 (by omega)
  have bdA1 : Blk D 23 [.int .i64 0, .int .i64 0, .int .i64 0, .int .i64 0, .int .i64 0, .int .i64 0, .string ⟨#[]⟩] u1 := Blk.grown bd g1 (by omega)
  have buA1 : Blk U 120 [.bool false, .bool true, .bool true, .bool false, .bool false, .bool true, .bool false] u1 := Blk.grown KU g1 (by omega)
  have bxB1 : Blk X 23 [.int .i64 x0, .int .i64 x1, .int .i64 0, .int .i64 0, .int .i64 0, .int .i64 0, .string ⟨#[]⟩] (u1.setCell ⟨X, 1, none⟩ (.int .i64 x1)) := Blk.set (i := 1) bxA1 (.int .i64 x1)
  have sg1 := setCell_grown u1 X 1 (.int .i64 x1)
  have bdB1 : Blk D 23 [.int .i64 0, .int .i64 0, .int .i64 0, .int .i64 0, .int .i64 0, .int .i64 0, .string ⟨#[]⟩] (u1.setCell ⟨X, 1, none⟩ (.int .i64 x1)) := Blk.grown bdA1 sg1 (by omega)
  have buB1 : Blk U 120 [.bool false, .bool true, .bool true, .bool false, .bool false, .bool true, .bool false] (u1.setCell ⟨X, 1, none⟩ (.int .i64 x1)) := Blk.grown buA1 sg1 (by omega)
  have rsB1 := r1.other sg1 (by omega) (hV.out X (by omega))
  have gB1 : w.grownBy (u1.setCell ⟨X, 1, none⟩ (.int .i64 x1)) (some R) := grownBy_past (grownBy_trans gg g1) sg1 (by omega)
  have cs1 := bxA1.cell 1 _ rfl
  have cf1 := bxA1.fz 1
  clear bx bd KU rs gg r1 g1 bxA1 bdA1 buA1 sg1
  have lu2 := buB1.cell 2 _ rfl
  have lu3 := buB1.cell 3 _ rfl
  have lu4 := buB1.cell 4 _ rfl
  have lu5 := buB1.cell 5 _ rfl
  have lu6 := buB1.cell 6 _ rfl
  go_wp2_with fail
  clear lu2 lu3 lu4 lu5 lu6
  refine (P2.out _ rsB1).mono ?_
  rintro e u2 ⟨rfl, r2, g2⟩
  have bxA2 : Blk X 23 [.int .i64 x0, .int .i64 x1, .int .i64 0, .int .i64 0, .int .i64 0, .int .i64 0, .string ⟨#[]⟩] u2 := Blk.grown bxB1 g2 (by omega)
  have bdA2 : Blk D 23 [.int .i64 0, .int .i64 0, .int .i64 0, .int .i64 0, .int .i64 0, .int .i64 0, .string ⟨#[]⟩] u2 := Blk.grown bdB1 g2 (by omega)
  have buA2 : Blk U 120 [.bool false, .bool true, .bool true, .bool false, .bool false, .bool true, .bool false] u2 := Blk.grown buB1 g2 (by omega)
  have bxB2 : Blk X 23 [.int .i64 x0, .int .i64 x1, .int .i64 x2, .int .i64 0, .int .i64 0, .int .i64 0, .string ⟨#[]⟩] (u2.setCell ⟨X, 2, none⟩ (.int .i64 x2)) := Blk.set (i := 2) bxA2 (.int .i64 x2)
  have sg2 := setCell_grown u2 X 2 (.int .i64 x2)
  have bdB2 : Blk D 23 [.int .i64 0, .int .i64 0, .int .i64 0, .int .i64 0, .int .i64 0, .int .i64 0, .string ⟨#[]⟩] (u2.setCell ⟨X, 2, none⟩ (.int .i64 x2)) := Blk.grown bdA2 sg2 (by omega)
  have buB2 : Blk U 120 [.bool false, .bool true, .bool true, .bool false, .bool false, .bool true, .bool false] (u2.setCell ⟨X, 2, none⟩ (.int .i64 x2)) := Blk.grown buA2 sg2 (by omega)
  have rsB2 := r2.other sg2 (by omega) (hV.out X (by omega))
  have gB2 : w.grownBy (u2.setCell ⟨X, 2, none⟩ (.int .i64 x2)) (some R) := grownBy_past (grownBy_trans gB1 g2) sg2 (by omega)
  have cs2 := bxA2.cell 2 _ rfl
  have cf2 := bxA2.fz 2
  clear bxB1 bdB1 buB1 rsB1 gB1 r2 g2 bxA2 bdA2 buA2 sg2
  have lu3 := buB2.cell 3 _ rfl
  have lu4 := buB2.cell 4 _ rfl
  have lu5 := buB2.cell 5 _ rfl
  have lu6 := buB2.cell 6 _ rfl
  go_wp2_with fail
  clear lu3 lu4 lu5 lu6
  refine (P5.out _ rsB2).mono ?_
  rintro e u5 ⟨rfl, r5, g5⟩
  have bxA5 : Blk X 23 [.int .i64 x0, .int .i64 x1, .int .i64 x2, .int .i64 0, .int .i64 0, .int .i64 0, .string ⟨#[]⟩] u5 := Blk.grown bxB2 g5 (by omega)
  have bdA5 : Blk D 23 [.int .i64 0, .int .i64 0, .int .i64 0, .int .i64 0, .int .i64 0, .int .i64 0, .string ⟨#[]⟩] u5 := Blk.grown bdB2 g5 (by omega)
  have buA5 : Blk U 120 [.bool false, .bool true, .bool true, .bool false, .bool false, .bool true, .bool false] u5 := Blk.grown buB2 g5 (by omega)
  have bxB5 : Blk X 23 [.int .i64 x0, .int .i64 x1, .int .i64 x2, .int .i64 0, .int .i64 0, .int .i64 x5, .string ⟨#[]⟩] (u5.setCell ⟨X, 5, none⟩ (.int .i64 x5)) := Blk.set (i := 5) bxA5 (.int .i64 x5)
  have sg5 := setCell_grown u5 X 5 (.int .i64 x5)
  have bdB5 : Blk D 23 [.int .i64 0, .int .i64 0, .int .i64 0, .int .i64 0, .int .i64 0, .int .i64 0, .string ⟨#[]⟩] (u5.setCell ⟨X, 5, none⟩ (.int .i64 x5)) := Blk.grown bdA5 sg5 (by omega)
  have buB5 : Blk U 120 [.bool false, .bool true, .bool true, .bool false, .bool false, .bool true, .bool false] (u5.setCell ⟨X, 5, none⟩ (.int .i64 x5)) := Blk.grown buA5 sg5 (by omega)
  have rsB5 := r5.other sg5 (by omega) (hV.out X (by omega))
  have gB5 : w.grownBy (u5.setCell ⟨X, 5, none⟩ (.int .i64 x5)) (some R) := grownBy_past (grownBy_trans gB2 g5) sg5 (by omega)
  have cs5 := bxA5.cell 5 _ rfl
  have cf5 := bxA5.fz 5
  clear bxB2 bdB2 buB2 rsB2 gB2 r5 g5 bxA5 bdA5 buA5 sg5
  have lu6 := buB5.cell 6 _ rfl
  have ld0 := bxB5.cell 0 _ rfl
  have lz0 := bdB5.cell 0 _ rfl
  have lf0 := bdB5.fz 0
  have ld1 := bxB5.cell 1 _ rfl
  have lz1 := bdB5.cell 1 _ rfl
  have lf1 := bdB5.fz 1
  have ld2 := bxB5.cell 2 _ rfl
  have lz2 := bdB5.cell 2 _ rfl
  have lf2 := bdB5.fz 2
  have ld3 := bxB5.cell 3 _ rfl
  have lz3 := bdB5.cell 3 _ rfl
  have lf3 := bdB5.fz 3
  have ld4 := bxB5.cell 4 _ rfl
  have lz4 := bdB5.cell 4 _ rfl
  have lf4 := bdB5.fz 4
  have ld5 := bxB5.cell 5 _ rfl
  have lz5 := bdB5.cell 5 _ rfl
  have lf5 := bdB5.fz 5
  have ld6 := bxB5.cell 6 _ rfl
  have lz6 := bdB5.cell 6 _ rfl
  have lf6 := bdB5.fz 6
  go_wp2_with fail
  obtain ⟨b7, g7⟩ := Blk.seven bdB5 (.int .i64 x0) (.int .i64 x1) (.int .i64 x2) (.int .i64 0) (.int .i64 0) (.int .i64 x5) (.string ⟨#[]⟩)
  refine bodyPost_cell rfl rfl D _ _ _ _ rfl b7 Try.underlying23 rfl (by kernel_rfl) ⟨rfl, ?_, ?_⟩
  · exact rsB5.other g7 (by omega) (hV.out D (Nat.le_refl _))
  · exact grownBy_past gB5 g7 (by omega)

set_option maxRecDepth 20000 in
set_option maxHeartbeats 1000000 in
theorem inOp_13 (bs : List Nat) (hb : ∀ c ∈ bs, c < 256) (hl : bs.length ≤ 1000000000000) (R : Nat) (v : Value) (st : Option Nat) (w : World) (h : IS bs R v st w) (hm : fmask (tkI bs st).1 = some 13) :
    Calls Try.prog 96 #[.pointer (some ⟨R, 0, none⟩)] w fun e w' => e = .returned (opV (opR bs st).1) ∧ IS bs R v (opR bs st).2 w' ∧ w.grownBy w' (some R) := by
  obtain ⟨x0, ex0⟩ : ∃ x, (tkI bs st).1 = x := ⟨_, rfl⟩
  obtain ⟨s0, es0⟩ : ∃ s, (tkI bs st).2 = s := ⟨_, rfl⟩
  obtain ⟨x1, ex1⟩ : ∃ x, (tkI bs s0).1 = x := ⟨_, rfl⟩
  obtain ⟨s1, es1⟩ : ∃ s, (tkI bs s0).2 = s := ⟨_, rfl⟩
  obtain ⟨x3, ex3⟩ : ∃ x, (tkI bs s1).1 = x := ⟨_, rfl⟩
  obtain ⟨s3, es3⟩ : ∃ s, (tkI bs s1).2 = s := ⟨_, rfl⟩
  obtain ⟨x4, ex4⟩ : ∃ x, (tkI bs s3).1 = x := ⟨_, rfl⟩
  obtain ⟨s4, es4⟩ : ∃ s, (tkI bs s3).2 = s := ⟨_, rfl⟩
  have E1 : opR bs st = (⟨x0, x1, 0, x3, x4, 0, ⟨#[]⟩⟩, s4) := by
    unfold opR; rw [ex0] at hm; simp only [ex0, es0, hm]; simp [tkIf, tkTf, ex1, es1, ex3, es3, ex4, es4]
  have US : Hid (∀ w, Calls Try.prog 68 #[.int .i64 x0] w fun e w' => e = .returned (.agg #[.bool false, .bool true, .bool false, .bool true, .bool true, .bool false, .bool false]) ∧ Below w.heap.size w w') := fun w => by
    have := uses_at x0 w
    rw [ex0] at hm; rw [hm] at this; exact this
  have P0 : Hid (∀ w, IS bs R v st w → Calls Try.prog 98 #[.pointer (some ⟨R, 0, none⟩)] w fun e w' => e = .returned (.int .i64 x0) ∧ IS bs R v s0 w' ∧ w.grownBy w' (some R)) := fun w h => by
    have := inN_at bs hb hl R v st w h
    rw [ex0, es0] at this; exact this
  have P1 : Hid (∀ w, IS bs R v s0 w → Calls Try.prog 98 #[.pointer (some ⟨R, 0, none⟩)] w fun e w' => e = .returned (.int .i64 x1) ∧ IS bs R v s1 w' ∧ w.grownBy w' (some R)) := fun w h => by
    have := inN_at bs hb hl R v s0 w h
    rw [ex1, es1] at this; exact this
  have P3 : Hid (∀ w, IS bs R v s1 w → Calls Try.prog 125 #[.pointer (some ⟨R, 0, none⟩)] w fun e w' => e = .returned (.int .i64 x3) ∧ IS bs R v s3 w' ∧ w.grownBy w' (some R)) := fun w h => by
    have := inNum_at bs hb hl R v s1 w h
    rw [ex3, es3] at this; exact this
  have P4 : Hid (∀ w, IS bs R v s3 w → Calls Try.prog 98 #[.pointer (some ⟨R, 0, none⟩)] w fun e w' => e = .returned (.int .i64 x4) ∧ IS bs R v s4 w' ∧ w.grownBy w' (some R)) := fun w h => by
    have := inN_at bs hb hl R v s3 w h
    rw [ex4, es4] at this; exact this
  rw [E1]
  have H0 : Hid (IS bs R v st w) := h
  have hR := h.rs.lt
  have hV : Hid (∀ g, w.heap.size ≤ g → 0 < bs.length → v.ownBlock ≠ some g) := fun g hg h0 e => by
    have := Rd.block h.rs.rd (by rw [List.length_map]; exact h0) e
    omega
  clear h hm E1 hb hl ex0 es0 ex1 es1 ex3 es3 ex4 es4
  unfold opV
  simp only
  go_enter Try.func96, Try.ntmps96
  go_wp2_with fail
  have BD0 := Blk.new 23 [.int .i64 0, .int .i64 0, .int .i64 0, .int .i64 0, .int .i64 0, .int .i64 0, .string ⟨#[]⟩] w
  have BA0 := below_alloc w (.cells #[.int .i64 0, .int .i64 0, .int .i64 0, .int .i64 0, .int .i64 0, .int .i64 0, .string ⟨#[]⟩] 23)
  have BX0 := Blk.new 23 [.int .i64 0, .int .i64 0, .int .i64 0, .int .i64 0, .int .i64 0, .int .i64 0, .string ⟨#[]⟩] (w.alloc (.cells #[.int .i64 0, .int .i64 0, .int .i64 0, .int .i64 0, .int .i64 0, .int .i64 0, .string ⟨#[]⟩] 23))
  have BA1 := below_alloc (w.alloc (.cells #[.int .i64 0, .int .i64 0, .int .i64 0, .int .i64 0, .int .i64 0, .int .i64 0, .string ⟨#[]⟩] 23)) (.cells #[.int .i64 0, .int .i64 0, .int .i64 0, .int .i64 0, .int .i64 0, .int .i64 0, .string ⟨#[]⟩] 23)
  have hs1 : (w.alloc (.cells #[.int .i64 0, .int .i64 0, .int .i64 0, .int .i64 0, .int .i64 0, .int .i64 0, .string ⟨#[]⟩] 23)).heap.size = w.heap.size + 1 := by simp
  rw [hs1] at BX0
  have BD1 := Blk.below BD0 BA1
  have BW := BA0.trans (BA1.mono (by omega))
  refine (P0.out _ (H0.out.below BW)).mono ?_
  rintro e w1 ⟨rfl, r1, g1⟩
  have BD2 : Blk w.heap.size 23 [.int .i64 0, .int .i64 0, .int .i64 0, .int .i64 0, .int .i64 0, .int .i64 0, .string ⟨#[]⟩] w1 := Blk.grown BD1 g1 (by omega)
  have BX2 : Blk (w.heap.size + 1) 23 [.int .i64 0, .int .i64 0, .int .i64 0, .int .i64 0, .int .i64 0, .int .i64 0, .string ⟨#[]⟩] w1 := Blk.grown BX0 g1 (by omega)
  have G1 : w.grownBy w1 (some R) := grownBy_trans (grownBy_below BW _) g1
  clear BD0 BX0 g1 BA0 BA1 hs1 BD1 BW
  obtain ⟨D, hDe⟩ : ∃ D, w.heap.size = D := ⟨_, rfl⟩
  have hDs : D ≤ w.heap.size := by omega
  rw [hDe] at BD2 BX2 hR hV ⊢
  obtain ⟨X, hXe⟩ : ∃ X, D + 1 = X := ⟨_, rfl⟩
  rw [hXe] at BX2 ⊢
  have bxB0 : Blk X 23 [.int .i64 x0, .int .i64 0, .int .i64 0, .int .i64 0, .int .i64 0, .int .i64 0, .string ⟨#[]⟩] (w1.setCell ⟨X, 0, none⟩ (.int .i64 x0)) := Blk.set (i := 0) BX2 (.int .i64 x0)
  have sg0 := setCell_grown w1 X 0 (.int .i64 x0)
  have bdB0 : Blk D 23 [.int .i64 0, .int .i64 0, .int .i64 0, .int .i64 0, .int .i64 0, .int .i64 0, .string ⟨#[]⟩] (w1.setCell ⟨X, 0, none⟩ (.int .i64 x0)) := Blk.grown BD2 sg0 (by omega)
  have rsB0 := r1.other sg0 (by omega) (hV.out X (by omega))
  have gB0 : w.grownBy (w1.setCell ⟨X, 0, none⟩ (.int .i64 x0)) (some R) := grownBy_past G1 sg0 (by omega)
  have cs0 := BX2.cell 0 _ rfl
  have cf0 := BX2.fz 0
  have C0 := bxB0.cell 0 _ rfl
  clear BX2 sg0 BD2 r1 G1
  go_wp2_with fail
  refine (US.out _).mono ?_
  rintro e w2 ⟨rfl, b2⟩
  have bx2 := Blk.below bxB0 b2
  have bd2 := Blk.below bdB0 b2
  have rs2 := rsB0.below b2
  have gg2 := grownBy_trans gB0 (grownBy_below b2 _)
  clear bxB0 bdB0 rsB0 gB0 b2 cs0 cf0 C0
  have BU := Blk.new 120 [.bool false, .bool true, .bool false, .bool true, .bool true, .bool false, .bool false] w2
  have BAU := below_alloc w2 (.cells #[.bool false, .bool true, .bool false, .bool true, .bool true, .bool false, .bool false] 120)
  have bx := Blk.below bx2 BAU
  have bd := Blk.below bd2 BAU
  have rs := rs2.below BAU
  have gg := grownBy_trans gg2 (grownBy_below BAU _)
  have ltX := bx2.lt
  have ltD := bd2.lt
  have ltR := rs2.rs.lt
  have hU : D ≤ w2.heap.size := by omega
  clear bx2 bd2 rs2 gg2 BAU
  go_wp2_with fail
  obtain ⟨U, hUe⟩ : ∃ U, w2.heap.size = U := ⟨_, rfl⟩
  rw [hUe] at BU hU ltX ltD ltR ⊢
  have KU : Blk U 120 [.bool false, .bool true, .bool false, .bool true, .bool true, .bool false, .bool false] (w2.alloc (.cells #[.bool false, .bool true, .bool false, .bool true, .bool true, .bool false, .bool false] 120)) := BU
  clear BU
  generalize w2.alloc (.cells #[.bool false, .bool true, .bool false, .bool true, .bool true, .bool false, .bool false] 120) = W0 at *
  refine (P1.out _ rs).mono ?_
  rintro e u1 ⟨rfl, r1, g1⟩
  have bxA1 : Blk X 23 [.int .i64 x0, .int .i64 0, .int .i64 0, .int .i64 0, .int .i64 0, .int .i64 0, .string ⟨#[]⟩] u1 := Blk.grown bx g1 (by omega)
  have bdA1 : Blk D 23 [.int .i64 0, .int .i64 0, .int .i64 0, .int .i64 0, .int .i64 0, .int .i64 0, .string ⟨#[]⟩] u1 := Blk.grown bd g1 (by omega)
  have buA1 : Blk U 120 [.bool false, .bool true, .bool false, .bool true, .bool true, .bool false, .bool false] u1 := Blk.grown KU g1 (by omega)
  have bxB1 : Blk X 23 [.int .i64 x0, .int .i64 x1, .int .i64 0, .int .i64 0, .int .i64 0, .int .i64 0, .string ⟨#[]⟩] (u1.setCell ⟨X, 1, none⟩ (.int .i64 x1)) := Blk.set (i := 1) bxA1 (.int .i64 x1)
  have sg1 := setCell_grown u1 X 1 (.int .i64 x1)
  have bdB1 : Blk D 23 [.int .i64 0, .int .i64 0, .int .i64 0, .int .i64 0, .int .i64 0, .int .i64 0, .string ⟨#[]⟩] (u1.setCell ⟨X, 1, none⟩ (.int .i64 x1)) := Blk.grown bdA1 sg1 (by omega)
  have buB1 : Blk U 120 [.bool false, .bool true, .bool false, .bool true, .bool true, .bool false, .bool false] (u1.setCell ⟨X, 1, none⟩ (.int .i64 x1)) := Blk.grown buA1 sg1 (by omega)
  have rsB1 := r1.other sg1 (by omega) (hV.out X (by omega))
  have gB1 : w.grownBy (u1.setCell ⟨X, 1, none⟩ (.int .i64 x1)) (some R) := grownBy_past (grownBy_trans gg g1) sg1 (by omega)
  have cs1 := bxA1.cell 1 _ rfl
  have cf1 := bxA1.fz 1
  clear bx bd KU rs gg r1 g1 bxA1 bdA1 buA1 sg1
  have lu2 := buB1.cell 2 _ rfl
  have lu3 := buB1.cell 3 _ rfl
  have lu4 := buB1.cell 4 _ rfl
  have lu5 := buB1.cell 5 _ rfl
  have lu6 := buB1.cell 6 _ rfl
  go_wp2_with fail
  clear lu2 lu3 lu4 lu5 lu6
  refine (P3.out _ rsB1).mono ?_
  rintro e u3 ⟨rfl, r3, g3⟩
  have bxA3 : Blk X 23 [.int .i64 x0, .int .i64 x1, .int .i64 0, .int .i64 0, .int .i64 0, .int .i64 0, .string ⟨#[]⟩] u3 := Blk.grown bxB1 g3 (by omega)
  have bdA3 : Blk D 23 [.int .i64 0, .int .i64 0, .int .i64 0, .int .i64 0, .int .i64 0, .int .i64 0, .string ⟨#[]⟩] u3 := Blk.grown bdB1 g3 (by omega)
  have buA3 : Blk U 120 [.bool false, .bool true, .bool false, .bool true, .bool true, .bool false, .bool false] u3 := Blk.grown buB1 g3 (by omega)
  have bxB3 : Blk X 23 [.int .i64 x0, .int .i64 x1, .int .i64 0, .int .i64 x3, .int .i64 0, .int .i64 0, .string ⟨#[]⟩] (u3.setCell ⟨X, 3, none⟩ (.int .i64 x3)) := Blk.set (i := 3) bxA3 (.int .i64 x3)
  have sg3 := setCell_grown u3 X 3 (.int .i64 x3)
  have bdB3 : Blk D 23 [.int .i64 0, .int .i64 0, .int .i64 0, .int .i64 0, .int .i64 0, .int .i64 0, .string ⟨#[]⟩] (u3.setCell ⟨X, 3, none⟩ (.int .i64 x3)) := Blk.grown bdA3 sg3 (by omega)
  have buB3 : Blk U 120 [.bool false, .bool true, .bool false, .bool true, .bool true, .bool false, .bool false] (u3.setCell ⟨X, 3, none⟩ (.int .i64 x3)) := Blk.grown buA3 sg3 (by omega)
  have rsB3 := r3.other sg3 (by omega) (hV.out X (by omega))
  have gB3 : w.grownBy (u3.setCell ⟨X, 3, none⟩ (.int .i64 x3)) (some R) := grownBy_past (grownBy_trans gB1 g3) sg3 (by omega)
  have cs3 := bxA3.cell 3 _ rfl
  have cf3 := bxA3.fz 3
  clear bxB1 bdB1 buB1 rsB1 gB1 r3 g3 bxA3 bdA3 buA3 sg3
  have lu4 := buB3.cell 4 _ rfl
  have lu5 := buB3.cell 5 _ rfl
  have lu6 := buB3.cell 6 _ rfl
  go_wp2_with fail
  clear lu4 lu5 lu6
  refine (P4.out _ rsB3).mono ?_
  rintro e u4 ⟨rfl, r4, g4⟩
  have bxA4 : Blk X 23 [.int .i64 x0, .int .i64 x1, .int .i64 0, .int .i64 x3, .int .i64 0, .int .i64 0, .string ⟨#[]⟩] u4 := Blk.grown bxB3 g4 (by omega)
  have bdA4 : Blk D 23 [.int .i64 0, .int .i64 0, .int .i64 0, .int .i64 0, .int .i64 0, .int .i64 0, .string ⟨#[]⟩] u4 := Blk.grown bdB3 g4 (by omega)
  have buA4 : Blk U 120 [.bool false, .bool true, .bool false, .bool true, .bool true, .bool false, .bool false] u4 := Blk.grown buB3 g4 (by omega)
  have bxB4 : Blk X 23 [.int .i64 x0, .int .i64 x1, .int .i64 0, .int .i64 x3, .int .i64 x4, .int .i64 0, .string ⟨#[]⟩] (u4.setCell ⟨X, 4, none⟩ (.int .i64 x4)) := Blk.set (i := 4) bxA4 (.int .i64 x4)
  have sg4 := setCell_grown u4 X 4 (.int .i64 x4)
  have bdB4 : Blk D 23 [.int .i64 0, .int .i64 0, .int .i64 0, .int .i64 0, .int .i64 0, .int .i64 0, .string ⟨#[]⟩] (u4.setCell ⟨X, 4, none⟩ (.int .i64 x4)) := Blk.grown bdA4 sg4 (by omega)
  have buB4 : Blk U 120 [.bool false, .bool true, .bool false, .bool true, .bool true, .bool false, .bool false] (u4.setCell ⟨X, 4, none⟩ (.int .i64 x4)) := Blk.grown buA4 sg4 (by omega)
  have rsB4 := r4.other sg4 (by omega) (hV.out X (by omega))
  have gB4 : w.grownBy (u4.setCell ⟨X, 4, none⟩ (.int .i64 x4)) (some R) := grownBy_past (grownBy_trans gB3 g4) sg4 (by omega)
  have cs4 := bxA4.cell 4 _ rfl
  have cf4 := bxA4.fz 4
  clear bxB3 bdB3 buB3 rsB3 gB3 r4 g4 bxA4 bdA4 buA4 sg4
  have lu5 := buB4.cell 5 _ rfl
  have lu6 := buB4.cell 6 _ rfl
  have ld0 := bxB4.cell 0 _ rfl
  have lz0 := bdB4.cell 0 _ rfl
  have lf0 := bdB4.fz 0
  have ld1 := bxB4.cell 1 _ rfl
  have lz1 := bdB4.cell 1 _ rfl
  have lf1 := bdB4.fz 1
  have ld2 := bxB4.cell 2 _ rfl
  have lz2 := bdB4.cell 2 _ rfl
  have lf2 := bdB4.fz 2
  have ld3 := bxB4.cell 3 _ rfl
  have lz3 := bdB4.cell 3 _ rfl
  have lf3 := bdB4.fz 3
  have ld4 := bxB4.cell 4 _ rfl
  have lz4 := bdB4.cell 4 _ rfl
  have lf4 := bdB4.fz 4
  have ld5 := bxB4.cell 5 _ rfl
  have lz5 := bdB4.cell 5 _ rfl
  have lf5 := bdB4.fz 5
  have ld6 := bxB4.cell 6 _ rfl
  have lz6 := bdB4.cell 6 _ rfl
  have lf6 := bdB4.fz 6
  go_wp2_with fail
  obtain ⟨b7, g7⟩ := Blk.seven bdB4 (.int .i64 x0) (.int .i64 x1) (.int .i64 0) (.int .i64 x3) (.int .i64 x4) (.int .i64 0) (.string ⟨#[]⟩)
  refine bodyPost_cell rfl rfl D _ _ _ _ rfl b7 Try.underlying23 rfl (by kernel_rfl) ⟨rfl, ?_, ?_⟩
  · exact rsB4.other g7 (by omega) (hV.out D (Nat.le_refl _))
  · exact grownBy_past gB4 g7 (by omega)

set_option maxRecDepth 20000 in
set_option maxHeartbeats 1000000 in
theorem inOp_16 (bs : List Nat) (hb : ∀ c ∈ bs, c < 256) (hl : bs.length ≤ 1000000000000) (R : Nat) (v : Value) (st : Option Nat) (w : World) (h : IS bs R v st w) (hm : fmask (tkI bs st).1 = some 16) :
    Calls Try.prog 96 #[.pointer (some ⟨R, 0, none⟩)] w fun e w' => e = .returned (opV (opR bs st).1) ∧ IS bs R v (opR bs st).2 w' ∧ w.grownBy w' (some R) := by
  obtain ⟨x0, ex0⟩ : ∃ x, (tkI bs st).1 = x := ⟨_, rfl⟩
  obtain ⟨s0, es0⟩ : ∃ s, (tkI bs st).2 = s := ⟨_, rfl⟩
  obtain ⟨x5, ex5⟩ : ∃ x, (tkI bs s0).1 = x := ⟨_, rfl⟩
  obtain ⟨s5, es5⟩ : ∃ s, (tkI bs s0).2 = s := ⟨_, rfl⟩
  have E1 : opR bs st = (⟨x0, 0, 0, 0, 0, x5, ⟨#[]⟩⟩, s5) := by
    unfold opR; rw [ex0] at hm; simp only [ex0, es0, hm]; simp [tkIf, tkTf, ex5, es5]
  have US : Hid (∀ w, Calls Try.prog 68 #[.int .i64 x0] w fun e w' => e = .returned (.agg #[.bool false, .bool false, .bool false, .bool false, .bool false, .bool true, .bool false]) ∧ Below w.heap.size w w') := fun w => by
    have := uses_at x0 w
    rw [ex0] at hm; rw [hm] at this; exact this
  have P0 : Hid (∀ w, IS bs R v st w → Calls Try.prog 98 #[.pointer (some ⟨R, 0, none⟩)] w fun e w' => e = .returned (.int .i64 x0) ∧ IS bs R v s0 w' ∧ w.grownBy w' (some R)) := fun w h => by
    have := inN_at bs hb hl R v st w h
    rw [ex0, es0] at this; exact this
  have P5 : Hid (∀ w, IS bs R v s0 w → Calls Try.prog 98 #[.pointer (some ⟨R, 0, none⟩)] w fun e w' => e = .returned (.int .i64 x5) ∧ IS bs R v s5 w' ∧ w.grownBy w' (some R)) := fun w h => by
    have := inN_at bs hb hl R v s0 w h
    rw [ex5, es5] at this; exact this
  rw [E1]
  have H0 : Hid (IS bs R v st w) := h
  have hR := h.rs.lt
  have hV : Hid (∀ g, w.heap.size ≤ g → 0 < bs.length → v.ownBlock ≠ some g) := fun g hg h0 e => by
    have := Rd.block h.rs.rd (by rw [List.length_map]; exact h0) e
    omega
  clear h hm E1 hb hl ex0 es0 ex5 es5
  unfold opV
  simp only
  go_enter Try.func96, Try.ntmps96
  go_wp2_with fail
  have BD0 := Blk.new 23 [.int .i64 0, .int .i64 0, .int .i64 0, .int .i64 0, .int .i64 0, .int .i64 0, .string ⟨#[]⟩] w
  have BA0 := below_alloc w (.cells #[.int .i64 0, .int .i64 0, .int .i64 0, .int .i64 0, .int .i64 0, .int .i64 0, .string ⟨#[]⟩] 23)
  have BX0 := Blk.new 23 [.int .i64 0, .int .i64 0, .int .i64 0, .int .i64 0, .int .i64 0, .int .i64 0, .string ⟨#[]⟩] (w.alloc (.cells #[.int .i64 0, .int .i64 0, .int .i64 0, .int .i64 0, .int .i64 0, .int .i64 0, .string ⟨#[]⟩] 23))
  have BA1 := below_alloc (w.alloc (.cells #[.int .i64 0, .int .i64 0, .int .i64 0, .int .i64 0, .int .i64 0, .int .i64 0, .string ⟨#[]⟩] 23)) (.cells #[.int .i64 0, .int .i64 0, .int .i64 0, .int .i64 0, .int .i64 0, .int .i64 0, .string ⟨#[]⟩] 23)
  have hs1 : (w.alloc (.cells #[.int .i64 0, .int .i64 0, .int .i64 0, .int .i64 0, .int .i64 0, .int .i64 0, .string ⟨#[]⟩] 23)).heap.size = w.heap.size + 1 := by simp
  rw [hs1] at BX0
  have BD1 := Blk.below BD0 BA1
  have BW := BA0.trans (BA1.mono (by omega))
  refine (P0.out _ (H0.out.below BW)).mono ?_
  rintro e w1 ⟨rfl, r1, g1⟩
  have BD2 : Blk w.heap.size 23 [.int .i64 0, .int .i64 0, .int .i64 0, .int .i64 0, .int .i64 0, .int .i64 0, .string ⟨#[]⟩] w1 := Blk.grown BD1 g1 (by omega)
  have BX2 : Blk (w.heap.size + 1) 23 [.int .i64 0, .int .i64 0, .int .i64 0, .int .i64 0, .int .i64 0, .int .i64 0, .string ⟨#[]⟩] w1 := Blk.grown BX0 g1 (by omega)
  have G1 : w.grownBy w1 (some R) := grownBy_trans (grownBy_below BW _) g1
  clear BD0 BX0 g1 BA0 BA1 hs1 BD1 BW
  obtain ⟨D, hDe⟩ : ∃ D, w.heap.size = D := ⟨_, rfl⟩
  have hDs : D ≤ w.heap.size := by omega
  rw [hDe] at BD2 BX2 hR hV ⊢
  obtain ⟨X, hXe⟩ : ∃ X, D + 1 = X := ⟨_, rfl⟩
  rw [hXe] at BX2 ⊢
  have bxB0 : Blk X 23 [.int .i64 x0, .int .i64 0, .int .i64 0, .int .i64 0, .int .i64 0, .int .i64 0, .string ⟨#[]⟩] (w1.setCell ⟨X, 0, none⟩ (.int .i64 x0)) := Blk.set (i := 0) BX2 (.int .i64 x0)
  have sg0 := setCell_grown w1 X 0 (.int .i64 x0)
  have bdB0 : Blk D 23 [.int .i64 0, .int .i64 0, .int .i64 0, .int .i64 0, .int .i64 0, .int .i64 0, .string ⟨#[]⟩] (w1.setCell ⟨X, 0, none⟩ (.int .i64 x0)) := Blk.grown BD2 sg0 (by omega)
  have rsB0 := r1.other sg0 (by omega) (hV.out X (by omega))
  have gB0 : w.grownBy (w1.setCell ⟨X, 0, none⟩ (.int .i64 x0)) (some R) := grownBy_past G1 sg0 (by omega)
  have cs0 := BX2.cell 0 _ rfl
  have cf0 := BX2.fz 0
  have C0 := bxB0.cell 0 _ rfl
  clear BX2 sg0 BD2 r1 G1
  go_wp2_with fail
  refine (US.out _).mono ?_
  rintro e w2 ⟨rfl, b2⟩
  have bx2 := Blk.below bxB0 b2
  have bd2 := Blk.below bdB0 b2
  have rs2 := rsB0.below b2
  have gg2 := grownBy_trans gB0 (grownBy_below b2 _)
  clear bxB0 bdB0 rsB0 gB0 b2 cs0 cf0 C0
  have BU := Blk.new 120 [.bool false, .bool false, .bool false, .bool false, .bool false, .bool true, .bool false] w2
  have BAU := below_alloc w2 (.cells #[.bool false, .bool false, .bool false, .bool false, .bool false, .bool true, .bool false] 120)
  have bx := Blk.below bx2 BAU
  have bd := Blk.below bd2 BAU
  have rs := rs2.below BAU
  have gg := grownBy_trans gg2 (grownBy_below BAU _)
  have ltX := bx2.lt
  have ltD := bd2.lt
  have ltR := rs2.rs.lt
  have hU : D ≤ w2.heap.size := by omega
  clear bx2 bd2 rs2 gg2 BAU
  go_wp2_with fail
  obtain ⟨U, hUe⟩ : ∃ U, w2.heap.size = U := ⟨_, rfl⟩
  rw [hUe] at BU hU ltX ltD ltR ⊢
  have KU : Blk U 120 [.bool false, .bool false, .bool false, .bool false, .bool false, .bool true, .bool false] (w2.alloc (.cells #[.bool false, .bool false, .bool false, .bool false, .bool false, .bool true, .bool false] 120)) := BU
  clear BU
  generalize w2.alloc (.cells #[.bool false, .bool false, .bool false, .bool false, .bool false, .bool true, .bool false] 120) = W0 at *
  refine (P5.out _ rs).mono ?_
  rintro e u5 ⟨rfl, r5, g5⟩
  have bxA5 : Blk X 23 [.int .i64 x0, .int .i64 0, .int .i64 0, .int .i64 0, .int .i64 0, .int .i64 0, .string ⟨#[]⟩] u5 := Blk.grown bx g5 (by omega)
  have bdA5 : Blk D 23 [.int .i64 0, .int .i64 0, .int .i64 0, .int .i64 0, .int .i64 0, .int .i64 0, .string ⟨#[]⟩] u5 := Blk.grown bd g5 (by omega)
  have buA5 : Blk U 120 [.bool false, .bool false, .bool false, .bool false, .bool false, .bool true, .bool false] u5 := Blk.grown KU g5 (by omega)
  have bxB5 : Blk X 23 [.int .i64 x0, .int .i64 0, .int .i64 0, .int .i64 0, .int .i64 0, .int .i64 x5, .string ⟨#[]⟩] (u5.setCell ⟨X, 5, none⟩ (.int .i64 x5)) := Blk.set (i := 5) bxA5 (.int .i64 x5)
  have sg5 := setCell_grown u5 X 5 (.int .i64 x5)
  have bdB5 : Blk D 23 [.int .i64 0, .int .i64 0, .int .i64 0, .int .i64 0, .int .i64 0, .int .i64 0, .string ⟨#[]⟩] (u5.setCell ⟨X, 5, none⟩ (.int .i64 x5)) := Blk.grown bdA5 sg5 (by omega)
  have buB5 : Blk U 120 [.bool false, .bool false, .bool false, .bool false, .bool false, .bool true, .bool false] (u5.setCell ⟨X, 5, none⟩ (.int .i64 x5)) := Blk.grown buA5 sg5 (by omega)
  have rsB5 := r5.other sg5 (by omega) (hV.out X (by omega))
  have gB5 : w.grownBy (u5.setCell ⟨X, 5, none⟩ (.int .i64 x5)) (some R) := grownBy_past (grownBy_trans gg g5) sg5 (by omega)
  have cs5 := bxA5.cell 5 _ rfl
  have cf5 := bxA5.fz 5
  clear bx bd KU rs gg r5 g5 bxA5 bdA5 buA5 sg5
  have lu6 := buB5.cell 6 _ rfl
  have ld0 := bxB5.cell 0 _ rfl
  have lz0 := bdB5.cell 0 _ rfl
  have lf0 := bdB5.fz 0
  have ld1 := bxB5.cell 1 _ rfl
  have lz1 := bdB5.cell 1 _ rfl
  have lf1 := bdB5.fz 1
  have ld2 := bxB5.cell 2 _ rfl
  have lz2 := bdB5.cell 2 _ rfl
  have lf2 := bdB5.fz 2
  have ld3 := bxB5.cell 3 _ rfl
  have lz3 := bdB5.cell 3 _ rfl
  have lf3 := bdB5.fz 3
  have ld4 := bxB5.cell 4 _ rfl
  have lz4 := bdB5.cell 4 _ rfl
  have lf4 := bdB5.fz 4
  have ld5 := bxB5.cell 5 _ rfl
  have lz5 := bdB5.cell 5 _ rfl
  have lf5 := bdB5.fz 5
  have ld6 := bxB5.cell 6 _ rfl
  have lz6 := bdB5.cell 6 _ rfl
  have lf6 := bdB5.fz 6
  go_wp2_with fail
  obtain ⟨b7, g7⟩ := Blk.seven bdB5 (.int .i64 x0) (.int .i64 0) (.int .i64 0) (.int .i64 0) (.int .i64 0) (.int .i64 x5) (.string ⟨#[]⟩)
  refine bodyPost_cell rfl rfl D _ _ _ _ rfl b7 Try.underlying23 rfl (by kernel_rfl) ⟨rfl, ?_, ?_⟩
  · exact rsB5.other g7 (by omega) (hV.out D (Nat.le_refl _))
  · exact grownBy_past gB5 g7 (by omega)

set_option maxRecDepth 20000 in
set_option maxHeartbeats 1000000 in
theorem inOp_32 (bs : List Nat) (hb : ∀ c ∈ bs, c < 256) (hl : bs.length ≤ 1000000000000) (R : Nat) (v : Value) (st : Option Nat) (w : World) (h : IS bs R v st w) (hm : fmask (tkI bs st).1 = some 32) :
    Calls Try.prog 96 #[.pointer (some ⟨R, 0, none⟩)] w fun e w' => e = .returned (opV (opR bs st).1) ∧ IS bs R v (opR bs st).2 w' ∧ w.grownBy w' (some R) := by
  obtain ⟨x0, ex0⟩ : ∃ x, (tkI bs st).1 = x := ⟨_, rfl⟩
  obtain ⟨s0, es0⟩ : ∃ s, (tkI bs st).2 = s := ⟨_, rfl⟩
  obtain ⟨x6, ex6⟩ : ∃ x, (tkT bs s0).1 = x := ⟨_, rfl⟩
  obtain ⟨s6, es6⟩ : ∃ s, (tkT bs s0).2 = s := ⟨_, rfl⟩
  have E1 : opR bs st = (⟨x0, 0, 0, 0, 0, 0, x6⟩, s6) := by
    unfold opR; rw [ex0] at hm; simp only [ex0, es0, hm]; simp [tkIf, tkTf, ex6, es6]
  have US : Hid (∀ w, Calls Try.prog 68 #[.int .i64 x0] w fun e w' => e = .returned (.agg #[.bool false, .bool false, .bool false, .bool false, .bool false, .bool false, .bool true]) ∧ Below w.heap.size w w') := fun w => by
    have := uses_at x0 w
    rw [ex0] at hm; rw [hm] at this; exact this
  have P0 : Hid (∀ w, IS bs R v st w → Calls Try.prog 98 #[.pointer (some ⟨R, 0, none⟩)] w fun e w' => e = .returned (.int .i64 x0) ∧ IS bs R v s0 w' ∧ w.grownBy w' (some R)) := fun w h => by
    have := inN_at bs hb hl R v st w h
    rw [ex0, es0] at this; exact this
  have P6 : Hid (∀ w, IS bs R v s0 w → Calls Try.prog 126 #[.pointer (some ⟨R, 0, none⟩)] w fun e w' => e = .returned (.string x6) ∧ IS bs R v s6 w' ∧ w.grownBy w' (some R)) := fun w h => by
    have := inText_at bs hb hl R v s0 w h
    rw [ex6, es6] at this; exact this
  rw [E1]
  have H0 : Hid (IS bs R v st w) := h
  have hR := h.rs.lt
  have hV : Hid (∀ g, w.heap.size ≤ g → 0 < bs.length → v.ownBlock ≠ some g) := fun g hg h0 e => by
    have := Rd.block h.rs.rd (by rw [List.length_map]; exact h0) e
    omega
  clear h hm E1 hb hl ex0 es0 ex6 es6
  unfold opV
  simp only
  go_enter Try.func96, Try.ntmps96
  go_wp2_with fail
  have BD0 := Blk.new 23 [.int .i64 0, .int .i64 0, .int .i64 0, .int .i64 0, .int .i64 0, .int .i64 0, .string ⟨#[]⟩] w
  have BA0 := below_alloc w (.cells #[.int .i64 0, .int .i64 0, .int .i64 0, .int .i64 0, .int .i64 0, .int .i64 0, .string ⟨#[]⟩] 23)
  have BX0 := Blk.new 23 [.int .i64 0, .int .i64 0, .int .i64 0, .int .i64 0, .int .i64 0, .int .i64 0, .string ⟨#[]⟩] (w.alloc (.cells #[.int .i64 0, .int .i64 0, .int .i64 0, .int .i64 0, .int .i64 0, .int .i64 0, .string ⟨#[]⟩] 23))
  have BA1 := below_alloc (w.alloc (.cells #[.int .i64 0, .int .i64 0, .int .i64 0, .int .i64 0, .int .i64 0, .int .i64 0, .string ⟨#[]⟩] 23)) (.cells #[.int .i64 0, .int .i64 0, .int .i64 0, .int .i64 0, .int .i64 0, .int .i64 0, .string ⟨#[]⟩] 23)
  have hs1 : (w.alloc (.cells #[.int .i64 0, .int .i64 0, .int .i64 0, .int .i64 0, .int .i64 0, .int .i64 0, .string ⟨#[]⟩] 23)).heap.size = w.heap.size + 1 := by simp
  rw [hs1] at BX0
  have BD1 := Blk.below BD0 BA1
  have BW := BA0.trans (BA1.mono (by omega))
  refine (P0.out _ (H0.out.below BW)).mono ?_
  rintro e w1 ⟨rfl, r1, g1⟩
  have BD2 : Blk w.heap.size 23 [.int .i64 0, .int .i64 0, .int .i64 0, .int .i64 0, .int .i64 0, .int .i64 0, .string ⟨#[]⟩] w1 := Blk.grown BD1 g1 (by omega)
  have BX2 : Blk (w.heap.size + 1) 23 [.int .i64 0, .int .i64 0, .int .i64 0, .int .i64 0, .int .i64 0, .int .i64 0, .string ⟨#[]⟩] w1 := Blk.grown BX0 g1 (by omega)
  have G1 : w.grownBy w1 (some R) := grownBy_trans (grownBy_below BW _) g1
  clear BD0 BX0 g1 BA0 BA1 hs1 BD1 BW
  obtain ⟨D, hDe⟩ : ∃ D, w.heap.size = D := ⟨_, rfl⟩
  have hDs : D ≤ w.heap.size := by omega
  rw [hDe] at BD2 BX2 hR hV ⊢
  obtain ⟨X, hXe⟩ : ∃ X, D + 1 = X := ⟨_, rfl⟩
  rw [hXe] at BX2 ⊢
  have bxB0 : Blk X 23 [.int .i64 x0, .int .i64 0, .int .i64 0, .int .i64 0, .int .i64 0, .int .i64 0, .string ⟨#[]⟩] (w1.setCell ⟨X, 0, none⟩ (.int .i64 x0)) := Blk.set (i := 0) BX2 (.int .i64 x0)
  have sg0 := setCell_grown w1 X 0 (.int .i64 x0)
  have bdB0 : Blk D 23 [.int .i64 0, .int .i64 0, .int .i64 0, .int .i64 0, .int .i64 0, .int .i64 0, .string ⟨#[]⟩] (w1.setCell ⟨X, 0, none⟩ (.int .i64 x0)) := Blk.grown BD2 sg0 (by omega)
  have rsB0 := r1.other sg0 (by omega) (hV.out X (by omega))
  have gB0 : w.grownBy (w1.setCell ⟨X, 0, none⟩ (.int .i64 x0)) (some R) := grownBy_past G1 sg0 (by omega)
  have cs0 := BX2.cell 0 _ rfl
  have cf0 := BX2.fz 0
  have C0 := bxB0.cell 0 _ rfl
  clear BX2 sg0 BD2 r1 G1
  go_wp2_with fail
  refine (US.out _).mono ?_
  rintro e w2 ⟨rfl, b2⟩
  have bx2 := Blk.below bxB0 b2
  have bd2 := Blk.below bdB0 b2
  have rs2 := rsB0.below b2
  have gg2 := grownBy_trans gB0 (grownBy_below b2 _)
  clear bxB0 bdB0 rsB0 gB0 b2 cs0 cf0 C0
  have BU := Blk.new 120 [.bool false, .bool false, .bool false, .bool false, .bool false, .bool false, .bool true] w2
  have BAU := below_alloc w2 (.cells #[.bool false, .bool false, .bool false, .bool false, .bool false, .bool false, .bool true] 120)
  have bx := Blk.below bx2 BAU
  have bd := Blk.below bd2 BAU
  have rs := rs2.below BAU
  have gg := grownBy_trans gg2 (grownBy_below BAU _)
  have ltX := bx2.lt
  have ltD := bd2.lt
  have ltR := rs2.rs.lt
  have hU : D ≤ w2.heap.size := by omega
  clear bx2 bd2 rs2 gg2 BAU
  go_wp2_with fail
  obtain ⟨U, hUe⟩ : ∃ U, w2.heap.size = U := ⟨_, rfl⟩
  rw [hUe] at BU hU ltX ltD ltR ⊢
  have KU : Blk U 120 [.bool false, .bool false, .bool false, .bool false, .bool false, .bool false, .bool true] (w2.alloc (.cells #[.bool false, .bool false, .bool false, .bool false, .bool false, .bool false, .bool true] 120)) := BU
  clear BU
  generalize w2.alloc (.cells #[.bool false, .bool false, .bool false, .bool false, .bool false, .bool false, .bool true] 120) = W0 at *
  refine (P6.out _ rs).mono ?_
  rintro e u6 ⟨rfl, r6, g6⟩
  have bxA6 : Blk X 23 [.int .i64 x0, .int .i64 0, .int .i64 0, .int .i64 0, .int .i64 0, .int .i64 0, .string ⟨#[]⟩] u6 := Blk.grown bx g6 (by omega)
  have bdA6 : Blk D 23 [.int .i64 0, .int .i64 0, .int .i64 0, .int .i64 0, .int .i64 0, .int .i64 0, .string ⟨#[]⟩] u6 := Blk.grown bd g6 (by omega)
  have buA6 : Blk U 120 [.bool false, .bool false, .bool false, .bool false, .bool false, .bool false, .bool true] u6 := Blk.grown KU g6 (by omega)
  have bxB6 : Blk X 23 [.int .i64 x0, .int .i64 0, .int .i64 0, .int .i64 0, .int .i64 0, .int .i64 0, .string x6] (u6.setCell ⟨X, 6, none⟩ (.string x6)) := Blk.set (i := 6) bxA6 (.string x6)
  have sg6 := setCell_grown u6 X 6 (.string x6)
  have bdB6 : Blk D 23 [.int .i64 0, .int .i64 0, .int .i64 0, .int .i64 0, .int .i64 0, .int .i64 0, .string ⟨#[]⟩] (u6.setCell ⟨X, 6, none⟩ (.string x6)) := Blk.grown bdA6 sg6 (by omega)
  have buB6 : Blk U 120 [.bool false, .bool false, .bool false, .bool false, .bool false, .bool false, .bool true] (u6.setCell ⟨X, 6, none⟩ (.string x6)) := Blk.grown buA6 sg6 (by omega)
  have rsB6 := r6.other sg6 (by omega) (hV.out X (by omega))
  have gB6 : w.grownBy (u6.setCell ⟨X, 6, none⟩ (.string x6)) (some R) := grownBy_past (grownBy_trans gg g6) sg6 (by omega)
  have cs6 := bxA6.cell 6 _ rfl
  have cf6 := bxA6.fz 6
  clear bx bd KU rs gg r6 g6 bxA6 bdA6 buA6 sg6
  have ld0 := bxB6.cell 0 _ rfl
  have lz0 := bdB6.cell 0 _ rfl
  have lf0 := bdB6.fz 0
  have ld1 := bxB6.cell 1 _ rfl
  have lz1 := bdB6.cell 1 _ rfl
  have lf1 := bdB6.fz 1
  have ld2 := bxB6.cell 2 _ rfl
  have lz2 := bdB6.cell 2 _ rfl
  have lf2 := bdB6.fz 2
  have ld3 := bxB6.cell 3 _ rfl
  have lz3 := bdB6.cell 3 _ rfl
  have lf3 := bdB6.fz 3
  have ld4 := bxB6.cell 4 _ rfl
  have lz4 := bdB6.cell 4 _ rfl
  have lf4 := bdB6.fz 4
  have ld5 := bxB6.cell 5 _ rfl
  have lz5 := bdB6.cell 5 _ rfl
  have lf5 := bdB6.fz 5
  have ld6 := bxB6.cell 6 _ rfl
  have lz6 := bdB6.cell 6 _ rfl
  have lf6 := bdB6.fz 6
  go_wp2_with fail
  obtain ⟨b7, g7⟩ := Blk.seven bdB6 (.int .i64 x0) (.int .i64 0) (.int .i64 0) (.int .i64 0) (.int .i64 0) (.int .i64 0) (.string x6)
  refine bodyPost_cell rfl rfl D _ _ _ _ rfl b7 Try.underlying23 rfl (by kernel_rfl) ⟨rfl, ?_, ?_⟩
  · exact rsB6.other g7 (by omega) (hV.out D (Nat.le_refl _))
  · exact grownBy_past gB6 g7 (by omega)

set_option maxRecDepth 20000 in
set_option maxHeartbeats 1000000 in
theorem inOp_24 (bs : List Nat) (hb : ∀ c ∈ bs, c < 256) (hl : bs.length ≤ 1000000000000) (R : Nat) (v : Value) (st : Option Nat) (w : World) (h : IS bs R v st w) (hm : fmask (tkI bs st).1 = some 24) :
    Calls Try.prog 96 #[.pointer (some ⟨R, 0, none⟩)] w fun e w' => e = .returned (opV (opR bs st).1) ∧ IS bs R v (opR bs st).2 w' ∧ w.grownBy w' (some R) := by
  obtain ⟨x0, ex0⟩ : ∃ x, (tkI bs st).1 = x := ⟨_, rfl⟩
  obtain ⟨s0, es0⟩ : ∃ s, (tkI bs st).2 = s := ⟨_, rfl⟩
  obtain ⟨x4, ex4⟩ : ∃ x, (tkI bs s0).1 = x := ⟨_, rfl⟩
  obtain ⟨s4, es4⟩ : ∃ s, (tkI bs s0).2 = s := ⟨_, rfl⟩
  obtain ⟨x5, ex5⟩ : ∃ x, (tkI bs s4).1 = x := ⟨_, rfl⟩
  obtain ⟨s5, es5⟩ : ∃ s, (tkI bs s4).2 = s := ⟨_, rfl⟩
  have E1 : opR bs st = (⟨x0, 0, 0, 0, x4, x5, ⟨#[]⟩⟩, s5) := by
    unfold opR; rw [ex0] at hm; simp only [ex0, es0, hm]; simp [tkIf, tkTf, ex4, es4, ex5, es5]
  have US : Hid (∀ w, Calls Try.prog 68 #[.int .i64 x0] w fun e w' => e = .returned (.agg #[.bool false, .bool false, .bool false, .bool false, .bool true, .bool true, .bool false]) ∧ Below w.heap.size w w') := fun w => by
    have := uses_at x0 w
    rw [ex0] at hm; rw [hm] at this; exact this
  have P0 : Hid (∀ w, IS bs R v st w → Calls Try.prog 98 #[.pointer (some ⟨R, 0, none⟩)] w fun e w' => e = .returned (.int .i64 x0) ∧ IS bs R v s0 w' ∧ w.grownBy w' (some R)) := fun w h => by
    have := inN_at bs hb hl R v st w h
    rw [ex0, es0] at this; exact this
  have P4 : Hid (∀ w, IS bs R v s0 w → Calls Try.prog 98 #[.pointer (some ⟨R, 0, none⟩)] w fun e w' => e = .returned (.int .i64 x4) ∧ IS bs R v s4 w' ∧ w.grownBy w' (some R)) := fun w h => by
    have := inN_at bs hb hl R v s0 w h
    rw [ex4, es4] at this; exact this
  have P5 : Hid (∀ w, IS bs R v s4 w → Calls Try.prog 98 #[.pointer (some ⟨R, 0, none⟩)] w fun e w' => e = .returned (.int .i64 x5) ∧ IS bs R v s5 w' ∧ w.grownBy w' (some R)) := fun w h => by
    have := inN_at bs hb hl R v s4 w h
    rw [ex5, es5] at this; exact this
  rw [E1]
  have H0 : Hid (IS bs R v st w) := h
  have hR := h.rs.lt
  have hV : Hid (∀ g, w.heap.size ≤ g → 0 < bs.length → v.ownBlock ≠ some g) := fun g hg h0 e => by
    have := Rd.block h.rs.rd (by rw [List.length_map]; exact h0) e
    omega
  clear h hm E1 hb hl ex0 es0 ex4 es4 ex5 es5
  unfold opV
  simp only
  go_enter Try.func96, Try.ntmps96
  go_wp2_with fail
  have BD0 := Blk.new 23 [.int .i64 0, .int .i64 0, .int .i64 0, .int .i64 0, .int .i64 0, .int .i64 0, .string ⟨#[]⟩] w
  have BA0 := below_alloc w (.cells #[.int .i64 0, .int .i64 0, .int .i64 0, .int .i64 0, .int .i64 0, .int .i64 0, .string ⟨#[]⟩] 23)
  have BX0 := Blk.new 23 [.int .i64 0, .int .i64 0, .int .i64 0, .int .i64 0, .int .i64 0, .int .i64 0, .string ⟨#[]⟩] (w.alloc (.cells #[.int .i64 0, .int .i64 0, .int .i64 0, .int .i64 0, .int .i64 0, .int .i64 0, .string ⟨#[]⟩] 23))
  have BA1 := below_alloc (w.alloc (.cells #[.int .i64 0, .int .i64 0, .int .i64 0, .int .i64 0, .int .i64 0, .int .i64 0, .string ⟨#[]⟩] 23)) (.cells #[.int .i64 0, .int .i64 0, .int .i64 0, .int .i64 0, .int .i64 0, .int .i64 0, .string ⟨#[]⟩] 23)
  have hs1 : (w.alloc (.cells #[.int .i64 0, .int .i64 0, .int .i64 0, .int .i64 0, .int .i64 0, .int .i64 0, .string ⟨#[]⟩] 23)).heap.size = w.heap.size + 1 := by simp
  rw [hs1] at BX0
  have BD1 := Blk.below BD0 BA1
  have BW := BA0.trans (BA1.mono (by omega))
  refine (P0.out _ (H0.out.below BW)).mono ?_
  rintro e w1 ⟨rfl, r1, g1⟩
  have BD2 : Blk w.heap.size 23 [.int .i64 0, .int .i64 0, .int .i64 0, .int .i64 0, .int .i64 0, .int .i64 0, .string ⟨#[]⟩] w1 := Blk.grown BD1 g1 (by omega)
  have BX2 : Blk (w.heap.size + 1) 23 [.int .i64 0, .int .i64 0, .int .i64 0, .int .i64 0, .int .i64 0, .int .i64 0, .string ⟨#[]⟩] w1 := Blk.grown BX0 g1 (by omega)
  have G1 : w.grownBy w1 (some R) := grownBy_trans (grownBy_below BW _) g1
  clear BD0 BX0 g1 BA0 BA1 hs1 BD1 BW
  obtain ⟨D, hDe⟩ : ∃ D, w.heap.size = D := ⟨_, rfl⟩
  have hDs : D ≤ w.heap.size := by omega
  rw [hDe] at BD2 BX2 hR hV ⊢
  obtain ⟨X, hXe⟩ : ∃ X, D + 1 = X := ⟨_, rfl⟩
  rw [hXe] at BX2 ⊢
  have bxB0 : Blk X 23 [.int .i64 x0, .int .i64 0, .int .i64 0, .int .i64 0, .int .i64 0, .int .i64 0, .string ⟨#[]⟩] (w1.setCell ⟨X, 0, none⟩ (.int .i64 x0)) := Blk.set (i := 0) BX2 (.int .i64 x0)
  have sg0 := setCell_grown w1 X 0 (.int .i64 x0)
  have bdB0 : Blk D 23 [.int .i64 0, .int .i64 0, .int .i64 0, .int .i64 0, .int .i64 0, .int .i64 0, .string ⟨#[]⟩] (w1.setCell ⟨X, 0, none⟩ (.int .i64 x0)) := Blk.grown BD2 sg0 (by omega)
  have rsB0 := r1.other sg0 (by omega) (hV.out X (by omega))
  have gB0 : w.grownBy (w1.setCell ⟨X, 0, none⟩ (.int .i64 x0)) (some R) := grownBy_past G1 sg0 (by omega)
  have cs0 := BX2.cell 0 _ rfl
  have cf0 := BX2.fz 0
  have C0 := bxB0.cell 0 _ rfl
  clear BX2 sg0 BD2 r1 G1
  go_wp2_with fail
  refine (US.out _).mono ?_
  rintro e w2 ⟨rfl, b2⟩
  have bx2 := Blk.below bxB0 b2
  have bd2 := Blk.below bdB0 b2
  have rs2 := rsB0.below b2
  have gg2 := grownBy_trans gB0 (grownBy_below b2 _)
  clear bxB0 bdB0 rsB0 gB0 b2 cs0 cf0 C0
  have BU := Blk.new 120 [.bool false, .bool false, .bool false, .bool false, .bool true, .bool true, .bool false] w2
  have BAU := below_alloc w2 (.cells #[.bool false, .bool false, .bool false, .bool false, .bool true, .bool true, .bool false] 120)
  have bx := Blk.below bx2 BAU
  have bd := Blk.below bd2 BAU
  have rs := rs2.below BAU
  have gg := grownBy_trans gg2 (grownBy_below BAU _)
  have ltX := bx2.lt
  have ltD := bd2.lt
  have ltR := rs2.rs.lt
  have hU : D ≤ w2.heap.size := by omega
  clear bx2 bd2 rs2 gg2 BAU
  go_wp2_with fail
  obtain ⟨U, hUe⟩ : ∃ U, w2.heap.size = U := ⟨_, rfl⟩
  rw [hUe] at BU hU ltX ltD ltR ⊢
  have KU : Blk U 120 [.bool false, .bool false, .bool false, .bool false, .bool true, .bool true, .bool false] (w2.alloc (.cells #[.bool false, .bool false, .bool false, .bool false, .bool true, .bool true, .bool false] 120)) := BU
  clear BU
  generalize w2.alloc (.cells #[.bool false, .bool false, .bool false, .bool false, .bool true, .bool true, .bool false] 120) = W0 at *
  refine (P4.out _ rs).mono ?_
  rintro e u4 ⟨rfl, r4, g4⟩
  have bxA4 : Blk X 23 [.int .i64 x0, .int .i64 0, .int .i64 0, .int .i64 0, .int .i64 0, .int .i64 0, .string ⟨#[]⟩] u4 := Blk.grown bx g4 (by omega)
  have bdA4 : Blk D 23 [.int .i64 0, .int .i64 0, .int .i64 0, .int .i64 0, .int .i64 0, .int .i64 0, .string ⟨#[]⟩] u4 := Blk.grown bd g4 (by omega)
  have buA4 : Blk U 120 [.bool false, .bool false, .bool false, .bool false, .bool true, .bool true, .bool false] u4 := Blk.grown KU g4 (by omega)
  have bxB4 : Blk X 23 [.int .i64 x0, .int .i64 0, .int .i64 0, .int .i64 0, .int .i64 x4, .int .i64 0, .string ⟨#[]⟩] (u4.setCell ⟨X, 4, none⟩ (.int .i64 x4)) := Blk.set (i := 4) bxA4 (.int .i64 x4)
  have sg4 := setCell_grown u4 X 4 (.int .i64 x4)
  have bdB4 : Blk D 23 [.int .i64 0, .int .i64 0, .int .i64 0, .int .i64 0, .int .i64 0, .int .i64 0, .string ⟨#[]⟩] (u4.setCell ⟨X, 4, none⟩ (.int .i64 x4)) := Blk.grown bdA4 sg4 (by omega)
  have buB4 : Blk U 120 [.bool false, .bool false, .bool false, .bool false, .bool true, .bool true, .bool false] (u4.setCell ⟨X, 4, none⟩ (.int .i64 x4)) := Blk.grown buA4 sg4 (by omega)
  have rsB4 := r4.other sg4 (by omega) (hV.out X (by omega))
  have gB4 : w.grownBy (u4.setCell ⟨X, 4, none⟩ (.int .i64 x4)) (some R) := grownBy_past (grownBy_trans gg g4) sg4 (by omega)
  have cs4 := bxA4.cell 4 _ rfl
  have cf4 := bxA4.fz 4
  clear bx bd KU rs gg r4 g4 bxA4 bdA4 buA4 sg4
  have lu5 := buB4.cell 5 _ rfl
  have lu6 := buB4.cell 6 _ rfl
  go_wp2_with fail
  clear lu5 lu6
  refine (P5.out _ rsB4).mono ?_
  rintro e u5 ⟨rfl, r5, g5⟩
  have bxA5 : Blk X 23 [.int .i64 x0, .int .i64 0, .int .i64 0, .int .i64 0, .int .i64 x4, .int .i64 0, .string ⟨#[]⟩] u5 := Blk.grown bxB4 g5 (by omega)
  have bdA5 : Blk D 23 [.int .i64 0, .int .i64 0, .int .i64 0, .int .i64 0, .int .i64 0, .int .i64 0, .string ⟨#[]⟩] u5 := Blk.grown bdB4 g5 (by omega)
  have buA5 : Blk U 120 [.bool false, .bool false, .bool false, .bool false, .bool true, .bool true, .bool false] u5 := Blk.grown buB4 g5 (by omega)
  have bxB5 : Blk X 23 [.int .i64 x0, .int .i64 0, .int .i64 0, .int .i64 0, .int .i64 x4, .int .i64 x5, .string ⟨#[]⟩] (u5.setCell ⟨X, 5, none⟩ (.int .i64 x5)) := Blk.set (i := 5) bxA5 (.int .i64 x5)
  have sg5 := setCell_grown u5 X 5 (.int .i64 x5)
  have bdB5 : Blk D 23 [.int .i64 0, .int .i64 0, .int .i64 0, .int .i64 0, .int .i64 0, .int .i64 0, .string ⟨#[]⟩] (u5.setCell ⟨X, 5, none⟩ (.int .i64 x5)) := Blk.grown bdA5 sg5 (by omega)
  have buB5 : Blk U 120 [.bool false, .bool false, .bool false, .bool false, .bool true, .bool true, .bool false] (u5.setCell ⟨X, 5, none⟩ (.int .i64 x5)) := Blk.grown buA5 sg5 (by omega)
  have rsB5 := r5.other sg5 (by omega) (hV.out X (by omega))
  have gB5 : w.grownBy (u5.setCell ⟨X, 5, none⟩ (.int .i64 x5)) (some R) := grownBy_past (grownBy_trans gB4 g5) sg5 (by omega)
  have cs5 := bxA5.cell 5 _ rfl
  have cf5 := bxA5.fz 5
  clear bxB4 bdB4 buB4 rsB4 gB4 r5 g5 bxA5 bdA5 buA5 sg5
  have lu6 := buB5.cell 6 _ rfl
  have ld0 := bxB5.cell 0 _ rfl
  have lz0 := bdB5.cell 0 _ rfl
  have lf0 := bdB5.fz 0
  have ld1 := bxB5.cell 1 _ rfl
  have lz1 := bdB5.cell 1 _ rfl
  have lf1 := bdB5.fz 1
  have ld2 := bxB5.cell 2 _ rfl
  have lz2 := bdB5.cell 2 _ rfl
  have lf2 := bdB5.fz 2
  have ld3 := bxB5.cell 3 _ rfl
  have lz3 := bdB5.cell 3 _ rfl
  have lf3 := bdB5.fz 3
  have ld4 := bxB5.cell 4 _ rfl
  have lz4 := bdB5.cell 4 _ rfl
  have lf4 := bdB5.fz 4
  have ld5 := bxB5.cell 5 _ rfl
  have lz5 := bdB5.cell 5 _ rfl
  have lf5 := bdB5.fz 5
  have ld6 := bxB5.cell 6 _ rfl
  have lz6 := bdB5.cell 6 _ rfl
  have lf6 := bdB5.fz 6
  go_wp2_with fail
  obtain ⟨b7, g7⟩ := Blk.seven bdB5 (.int .i64 x0) (.int .i64 0) (.int .i64 0) (.int .i64 0) (.int .i64 x4) (.int .i64 x5) (.string ⟨#[]⟩)
  refine bodyPost_cell rfl rfl D _ _ _ _ rfl b7 Try.underlying23 rfl (by kernel_rfl) ⟨rfl, ?_, ?_⟩
  · exact rsB5.other g7 (by omega) (hV.out D (Nat.le_refl _))
  · exact grownBy_past gB5 g7 (by omega)

set_option maxRecDepth 20000 in
set_option maxHeartbeats 1000000 in
theorem inOp_0 (bs : List Nat) (hb : ∀ c ∈ bs, c < 256) (hl : bs.length ≤ 1000000000000) (R : Nat) (v : Value) (st : Option Nat) (w : World) (h : IS bs R v st w) (hm : fmask (tkI bs st).1 = some 0) :
    Calls Try.prog 96 #[.pointer (some ⟨R, 0, none⟩)] w fun e w' => e = .returned (opV (opR bs st).1) ∧ IS bs R v (opR bs st).2 w' ∧ w.grownBy w' (some R) := by
  obtain ⟨x0, ex0⟩ : ∃ x, (tkI bs st).1 = x := ⟨_, rfl⟩
  obtain ⟨s0, es0⟩ : ∃ s, (tkI bs st).2 = s := ⟨_, rfl⟩
  have E1 : opR bs st = (⟨x0, 0, 0, 0, 0, 0, ⟨#[]⟩⟩, s0) := by
    unfold opR; rw [ex0] at hm; simp only [ex0, es0, hm]; simp [tkIf, tkTf]
  have US : Hid (∀ w, Calls Try.prog 68 #[.int .i64 x0] w fun e w' => e = .returned (.agg #[.bool false, .bool false, .bool false, .bool false, .bool false, .bool false, .bool false]) ∧ Below w.heap.size w w') := fun w => by
    have := uses_at x0 w
    rw [ex0] at hm; rw [hm] at this; exact this
  have P0 : Hid (∀ w, IS bs R v st w → Calls Try.prog 98 #[.pointer (some ⟨R, 0, none⟩)] w fun e w' => e = .returned (.int .i64 x0) ∧ IS bs R v s0 w' ∧ w.grownBy w' (some R)) := fun w h => by
    have := inN_at bs hb hl R v st w h
    rw [ex0, es0] at this; exact this
  rw [E1]
  have H0 : Hid (IS bs R v st w) := h
  have hR := h.rs.lt
  have hV : Hid (∀ g, w.heap.size ≤ g → 0 < bs.length → v.ownBlock ≠ some g) := fun g hg h0 e => by
    have := Rd.block h.rs.rd (by rw [List.length_map]; exact h0) e
    omega
  clear h hm E1 hb hl ex0 es0
  unfold opV
  simp only
  go_enter Try.func96, Try.ntmps96
  go_wp2_with fail
  have BD0 := Blk.new 23 [.int .i64 0, .int .i64 0, .int .i64 0, .int .i64 0, .int .i64 0, .int .i64 0, .string ⟨#[]⟩] w
  have BA0 := below_alloc w (.cells #[.int .i64 0, .int .i64 0, .int .i64 0, .int .i64 0, .int .i64 0, .int .i64 0, .string ⟨#[]⟩] 23)
  have BX0 := Blk.new 23 [.int .i64 0, .int .i64 0, .int .i64 0, .int .i64 0, .int .i64 0, .int .i64 0, .string ⟨#[]⟩] (w.alloc (.cells #[.int .i64 0, .int .i64 0, .int .i64 0, .int .i64 0, .int .i64 0, .int .i64 0, .string ⟨#[]⟩] 23))
  have BA1 := below_alloc (w.alloc (.cells #[.int .i64 0, .int .i64 0, .int .i64 0, .int .i64 0, .int .i64 0, .int .i64 0, .string ⟨#[]⟩] 23)) (.cells #[.int .i64 0, .int .i64 0, .int .i64 0, .int .i64 0, .int .i64 0, .int .i64 0, .string ⟨#[]⟩] 23)
  have hs1 : (w.alloc (.cells #[.int .i64 0, .int .i64 0, .int .i64 0, .int .i64 0, .int .i64 0, .int .i64 0, .string ⟨#[]⟩] 23)).heap.size = w.heap.size + 1 := by simp
  rw [hs1] at BX0
  have BD1 := Blk.below BD0 BA1
  have BW := BA0.trans (BA1.mono (by omega))
  refine (P0.out _ (H0.out.below BW)).mono ?_
  rintro e w1 ⟨rfl, r1, g1⟩
  have BD2 : Blk w.heap.size 23 [.int .i64 0, .int .i64 0, .int .i64 0, .int .i64 0, .int .i64 0, .int .i64 0, .string ⟨#[]⟩] w1 := Blk.grown BD1 g1 (by omega)
  have BX2 : Blk (w.heap.size + 1) 23 [.int .i64 0, .int .i64 0, .int .i64 0, .int .i64 0, .int .i64 0, .int .i64 0, .string ⟨#[]⟩] w1 := Blk.grown BX0 g1 (by omega)
  have G1 : w.grownBy w1 (some R) := grownBy_trans (grownBy_below BW _) g1
  clear BD0 BX0 g1 BA0 BA1 hs1 BD1 BW
  obtain ⟨D, hDe⟩ : ∃ D, w.heap.size = D := ⟨_, rfl⟩
  have hDs : D ≤ w.heap.size := by omega
  rw [hDe] at BD2 BX2 hR hV ⊢
  obtain ⟨X, hXe⟩ : ∃ X, D + 1 = X := ⟨_, rfl⟩
  rw [hXe] at BX2 ⊢
  have bxB0 : Blk X 23 [.int .i64 x0, .int .i64 0, .int .i64 0, .int .i64 0, .int .i64 0, .int .i64 0, .string ⟨#[]⟩] (w1.setCell ⟨X, 0, none⟩ (.int .i64 x0)) := Blk.set (i := 0) BX2 (.int .i64 x0)
  have sg0 := setCell_grown w1 X 0 (.int .i64 x0)
  have bdB0 : Blk D 23 [.int .i64 0, .int .i64 0, .int .i64 0, .int .i64 0, .int .i64 0, .int .i64 0, .string ⟨#[]⟩] (w1.setCell ⟨X, 0, none⟩ (.int .i64 x0)) := Blk.grown BD2 sg0 (by omega)
  have rsB0 := r1.other sg0 (by omega) (hV.out X (by omega))
  have gB0 : w.grownBy (w1.setCell ⟨X, 0, none⟩ (.int .i64 x0)) (some R) := grownBy_past G1 sg0 (by omega)
  have cs0 := BX2.cell 0 _ rfl
  have cf0 := BX2.fz 0
  have C0 := bxB0.cell 0 _ rfl
  clear BX2 sg0 BD2 r1 G1
  go_wp2_with fail
  refine (US.out _).mono ?_
  rintro e w2 ⟨rfl, b2⟩
  have bx2 := Blk.below bxB0 b2
  have bd2 := Blk.below bdB0 b2
  have rs2 := rsB0.below b2
  have gg2 := grownBy_trans gB0 (grownBy_below b2 _)
  clear bxB0 bdB0 rsB0 gB0 b2 cs0 cf0 C0
  have ltX := bx2.lt
  have ltD := bd2.lt
  have ltR := rs2.rs.lt
  have ld0 := bx2.cell 0 _ rfl
  have lz0 := bd2.cell 0 _ rfl
  have lf0 := bd2.fz 0
  have ld1 := bx2.cell 1 _ rfl
  have lz1 := bd2.cell 1 _ rfl
  have lf1 := bd2.fz 1
  have ld2 := bx2.cell 2 _ rfl
  have lz2 := bd2.cell 2 _ rfl
  have lf2 := bd2.fz 2
  have ld3 := bx2.cell 3 _ rfl
  have lz3 := bd2.cell 3 _ rfl
  have lf3 := bd2.fz 3
  have ld4 := bx2.cell 4 _ rfl
  have lz4 := bd2.cell 4 _ rfl
  have lf4 := bd2.fz 4
  have ld5 := bx2.cell 5 _ rfl
  have lz5 := bd2.cell 5 _ rfl
  have lf5 := bd2.fz 5
  have ld6 := bx2.cell 6 _ rfl
  have lz6 := bd2.cell 6 _ rfl
  have lf6 := bd2.fz 6
  go_wp2_with fail
  obtain ⟨b7, g7⟩ := Blk.seven bd2 (.int .i64 x0) (.int .i64 0) (.int .i64 0) (.int .i64 0) (.int .i64 0) (.int .i64 0) (.string ⟨#[]⟩)
  have r7 := rs2.other g7 (by omega) (hV.out D (Nat.le_refl _))
  have k7 := grownBy_past gg2 g7 (by omega)
  have A7 := below_alloc (((((((w2.setCell ⟨D, 0, none⟩ (.int .i64 x0)).setCell ⟨D, 1, none⟩ (.int .i64 0)).setCell ⟨D, 2, none⟩ (.int .i64 0)).setCell ⟨D, 3, none⟩ (.int .i64 0)).setCell ⟨D, 4, none⟩ (.int .i64 0)).setCell ⟨D, 5, none⟩ (.int .i64 0)).setCell ⟨D, 6, none⟩ (.string ⟨#[]⟩)) (.cells #[.bool false, .bool false, .bool false, .bool false, .bool false, .bool false, .bool false] 120)
  have b8 := Blk.below b7 A7
  have r8 := r7.below A7
  have k8 := grownBy_trans k7 (grownBy_below A7 _)
  refine bodyPost_cell rfl rfl D _ _ _ _ rfl b8 Try.underlying23 rfl (by kernel_rfl) ⟨rfl, r8, k8⟩

set_option maxRecDepth 20000 in
set_option maxHeartbeats 1000000 in
theorem inOp_none (bs : List Nat) (hb : ∀ c ∈ bs, c < 256) (hl : bs.length ≤ 1000000000000) (R : Nat) (v : Value) (st : Option Nat) (w : World) (h : IS bs R v st w) (hm : fmask (tkI bs st).1 = none) :
    Calls Try.prog 96 #[.pointer (some ⟨R, 0, none⟩)] w fun e w' => e = .returned (opV (opR bs st).1) ∧ IS bs R v (opR bs st).2 w' ∧ w.grownBy w' (some R) := by
  obtain ⟨x0, ex0⟩ : ∃ x, (tkI bs st).1 = x := ⟨_, rfl⟩
  obtain ⟨s0, es0⟩ : ∃ s, (tkI bs st).2 = s := ⟨_, rfl⟩
  have E1 : opR bs st = (⟨x0, 0, 0, 0, 0, 0, ⟨#[]⟩⟩, none) := by
    unfold opR; rw [ex0] at hm; simp only [ex0, hm]
  have US : Hid (∀ w, Calls Try.prog 68 #[.int .i64 x0] w fun e w' => e = .returned (.agg #[.bool true, .bool false, .bool false, .bool false, .bool false, .bool false, .bool false]) ∧ Below w.heap.size w w') := fun w => by
    have := uses_at x0 w
    rw [ex0] at hm; rw [hm] at this; exact this
  have P0 : Hid (∀ w, IS bs R v st w → Calls Try.prog 98 #[.pointer (some ⟨R, 0, none⟩)] w fun e w' => e = .returned (.int .i64 x0) ∧ IS bs R v s0 w' ∧ w.grownBy w' (some R)) := fun w h => by
    have := inN_at bs hb hl R v st w h
    rw [ex0, es0] at this; exact this
  rw [E1]
  have H0 : Hid (IS bs R v st w) := h
  have hR := h.rs.lt
  have hV : Hid (∀ g, w.heap.size ≤ g → 0 < bs.length → v.ownBlock ≠ some g) := fun g hg h0 e => by
    have := Rd.block h.rs.rd (by rw [List.length_map]; exact h0) e
    omega
  clear h hm E1 hb hl ex0 es0
  unfold opV
  simp only
  go_enter Try.func96, Try.ntmps96
  go_wp2_with fail
  have BD0 := Blk.new 23 [.int .i64 0, .int .i64 0, .int .i64 0, .int .i64 0, .int .i64 0, .int .i64 0, .string ⟨#[]⟩] w
  have BA0 := below_alloc w (.cells #[.int .i64 0, .int .i64 0, .int .i64 0, .int .i64 0, .int .i64 0, .int .i64 0, .string ⟨#[]⟩] 23)
  have BX0 := Blk.new 23 [.int .i64 0, .int .i64 0, .int .i64 0, .int .i64 0, .int .i64 0, .int .i64 0, .string ⟨#[]⟩] (w.alloc (.cells #[.int .i64 0, .int .i64 0, .int .i64 0, .int .i64 0, .int .i64 0, .int .i64 0, .string ⟨#[]⟩] 23))
  have BA1 := below_alloc (w.alloc (.cells #[.int .i64 0, .int .i64 0, .int .i64 0, .int .i64 0, .int .i64 0, .int .i64 0, .string ⟨#[]⟩] 23)) (.cells #[.int .i64 0, .int .i64 0, .int .i64 0, .int .i64 0, .int .i64 0, .int .i64 0, .string ⟨#[]⟩] 23)
  have hs1 : (w.alloc (.cells #[.int .i64 0, .int .i64 0, .int .i64 0, .int .i64 0, .int .i64 0, .int .i64 0, .string ⟨#[]⟩] 23)).heap.size = w.heap.size + 1 := by simp
  rw [hs1] at BX0
  have BD1 := Blk.below BD0 BA1
  have BW := BA0.trans (BA1.mono (by omega))
  refine (P0.out _ (H0.out.below BW)).mono ?_
  rintro e w1 ⟨rfl, r1, g1⟩
  have BD2 : Blk w.heap.size 23 [.int .i64 0, .int .i64 0, .int .i64 0, .int .i64 0, .int .i64 0, .int .i64 0, .string ⟨#[]⟩] w1 := Blk.grown BD1 g1 (by omega)
  have BX2 : Blk (w.heap.size + 1) 23 [.int .i64 0, .int .i64 0, .int .i64 0, .int .i64 0, .int .i64 0, .int .i64 0, .string ⟨#[]⟩] w1 := Blk.grown BX0 g1 (by omega)
  have G1 : w.grownBy w1 (some R) := grownBy_trans (grownBy_below BW _) g1
  clear BD0 BX0 g1 BA0 BA1 hs1 BD1 BW
  obtain ⟨D, hDe⟩ : ∃ D, w.heap.size = D := ⟨_, rfl⟩
  have hDs : D ≤ w.heap.size := by omega
  rw [hDe] at BD2 BX2 hR hV ⊢
  obtain ⟨X, hXe⟩ : ∃ X, D + 1 = X := ⟨_, rfl⟩
  rw [hXe] at BX2 ⊢
  have bxB0 : Blk X 23 [.int .i64 x0, .int .i64 0, .int .i64 0, .int .i64 0, .int .i64 0, .int .i64 0, .string ⟨#[]⟩] (w1.setCell ⟨X, 0, none⟩ (.int .i64 x0)) := Blk.set (i := 0) BX2 (.int .i64 x0)
  have sg0 := setCell_grown w1 X 0 (.int .i64 x0)
  have bdB0 : Blk D 23 [.int .i64 0, .int .i64 0, .int .i64 0, .int .i64 0, .int .i64 0, .int .i64 0, .string ⟨#[]⟩] (w1.setCell ⟨X, 0, none⟩ (.int .i64 x0)) := Blk.grown BD2 sg0 (by omega)
  have rsB0 := r1.other sg0 (by omega) (hV.out X (by omega))
  have gB0 : w.grownBy (w1.setCell ⟨X, 0, none⟩ (.int .i64 x0)) (some R) := grownBy_past G1 sg0 (by omega)
  have cs0 := BX2.cell 0 _ rfl
  have cf0 := BX2.fz 0
  have C0 := bxB0.cell 0 _ rfl
  clear BX2 sg0 BD2 r1 G1
  go_wp2_with fail
  refine (US.out _).mono ?_
  rintro e w2 ⟨rfl, b2⟩
  have bx2 := Blk.below bxB0 b2
  have bd2 := Blk.below bdB0 b2
  have rs2 := rsB0.below b2
  have gg2 := grownBy_trans gB0 (grownBy_below b2 _)
  clear bxB0 bdB0 rsB0 gB0 b2 cs0 cf0 C0
  have ltX := bx2.lt
  have ltD := bd2.lt
  have ltR := rs2.rs.lt
  have c2 := rs2.rs.c2
  have f2 := rs2.rs.fz 2
  have sg := setCell_grown w2 R 2 (.bool true)
  have bx' : Blk X 23 [.int .i64 x0, .int .i64 0, .int .i64 0, .int .i64 0, .int .i64 0, .int .i64 0, .string ⟨#[]⟩] (w2.setCell ⟨R, 2, none⟩ (.bool true)) := Blk.grown bx2 sg (by omega)
  have bd' : Blk D 23 [.int .i64 0, .int .i64 0, .int .i64 0, .int .i64 0, .int .i64 0, .int .i64 0, .string ⟨#[]⟩] (w2.setCell ⟨R, 2, none⟩ (.bool true)) := Blk.grown bd2 sg (by omega)
  have rs' := rs2.bad
  have gg' := grownBy_trans gg2 sg
  have ld0 := bx'.cell 0 _ rfl
  have lz0 := bd'.cell 0 _ rfl
  have lf0 := bd'.fz 0
  have ld1 := bx'.cell 1 _ rfl
  have lz1 := bd'.cell 1 _ rfl
  have lf1 := bd'.fz 1
  have ld2 := bx'.cell 2 _ rfl
  have lz2 := bd'.cell 2 _ rfl
  have lf2 := bd'.fz 2
  have ld3 := bx'.cell 3 _ rfl
  have lz3 := bd'.cell 3 _ rfl
  have lf3 := bd'.fz 3
  have ld4 := bx'.cell 4 _ rfl
  have lz4 := bd'.cell 4 _ rfl
  have lf4 := bd'.fz 4
  have ld5 := bx'.cell 5 _ rfl
  have lz5 := bd'.cell 5 _ rfl
  have lf5 := bd'.fz 5
  have ld6 := bx'.cell 6 _ rfl
  have lz6 := bd'.cell 6 _ rfl
  have lf6 := bd'.fz 6
  go_wp2_with fail
  obtain ⟨b7, g7⟩ := Blk.seven bd' (.int .i64 x0) (.int .i64 0) (.int .i64 0) (.int .i64 0) (.int .i64 0) (.int .i64 0) (.string ⟨#[]⟩)
  have r7 := rs'.other g7 (by omega) (hV.out D (Nat.le_refl _))
  have k7 := grownBy_past gg' g7 (by omega)
  have A7 := below_alloc ((((((((w2.setCell ⟨R, 2, none⟩ (.bool true)).setCell ⟨D, 0, none⟩ (.int .i64 x0)).setCell ⟨D, 1, none⟩ (.int .i64 0)).setCell ⟨D, 2, none⟩ (.int .i64 0)).setCell ⟨D, 3, none⟩ (.int .i64 0)).setCell ⟨D, 4, none⟩ (.int .i64 0)).setCell ⟨D, 5, none⟩ (.int .i64 0)).setCell ⟨D, 6, none⟩ (.string ⟨#[]⟩)) (.cells #[.bool true, .bool false, .bool false, .bool false, .bool false, .bool false, .bool false] 120)
  have b8 := Blk.below b7 A7
  have r8 := r7.below A7
  have k8 := grownBy_trans k7 (grownBy_below A7 _)
  refine bodyPost_cell rfl rfl D _ _ _ _ rfl b8 Try.underlying23 rfl (by kernel_rfl) ⟨rfl, r8, k8⟩

theorem inOp_at (bs : List Nat) (hb : ∀ c ∈ bs, c < 256) (hl : bs.length ≤ 1000000000000) (R : Nat) (v : Value) (st : Option Nat) (w : World) (h : IS bs R v st w) :
    Calls Try.prog 96 #[.pointer (some ⟨R, 0, none⟩)] w fun e w' => e = .returned (opV (opR bs st).1) ∧ IS bs R v (opR bs st).2 w' ∧ w.grownBy w' (some R) := by
  rcases fmask_cases (tkI bs st).1 with hm | hm | hm | hm | hm | hm | hm | hm | hm | hm | hm
  · exact inOp_none bs hb hl R v st w h hm
  · exact inOp_31 bs hb hl R v st w h hm
  · exact inOp_11 bs hb hl R v st w h hm
  · exact inOp_3 bs hb hl R v st w h hm
  · exact inOp_1 bs hb hl R v st w h hm
  · exact inOp_19 bs hb hl R v st w h hm
  · exact inOp_13 bs hb hl R v st w h hm
  · exact inOp_16 bs hb hl R v st w h hm
  · exact inOp_32 bs hb hl R v st w h hm
  · exact inOp_24 bs hb hl R v st w h hm
  · exact inOp_0 bs hb hl R v st w h hm
end Go.Proofs.Ytbghoogkmdnmpaa
