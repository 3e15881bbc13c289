/-
  Ours: side: what a disk's files are, by its own calls.
-/
import Derived.Test.YtabedehmlpfjaaaDskOp
namespace Go.Proofs.Ytabedehmlpfjaaa
open Go.RowKit

abbrev SD (a0 : Option Addr) (n0 c0 : Nat) (a1 : Option Addr) (n1 c1 : Nat) (a2 : Option Addr) (n2 c2 : Nat) (a3 : Option Addr) (n3 c3 : Nat) (dn : Bool) : List Value := [.slice a0 n0 c0, .slice a1 n1 c1, .slice a2 n2 c2, .slice a3 n3 c3, .bool dn]
abbrev SZ : List Value := [.slice none 0 0, .slice none 0 0, .slice none 0 0, .slice none 0 0, .bool false]
theorem Blk.five {G : Nat} {ty : TypeId} {z0 z1 z2 z3 z4 : Value} {w : World} (h : Blk G ty [z0, z1, z2, z3, z4] w) (a b c d e : Value) :
    Blk G ty [a, b, c, d, e] (((((w.setCell ⟨G, 0, none⟩ a).setCell ⟨G, 1, none⟩ b).setCell ⟨G, 2, none⟩ c).setCell ⟨G, 3, none⟩ d).setCell ⟨G, 4, none⟩ e) ∧ w.grownBy (((((w.setCell ⟨G, 0, none⟩ a).setCell ⟨G, 1, none⟩ b).setCell ⟨G, 2, none⟩ c).setCell ⟨G, 3, none⟩ d).setCell ⟨G, 4, none⟩ e) (some G) :=
  ⟨Blk.set (i := 4) (Blk.set (i := 3) (Blk.set (i := 2) (Blk.set (i := 1) (Blk.set (i := 0) h a) b) c) d) e, grownBy_trans (grownBy_trans (grownBy_trans (grownBy_trans (setCell_grown _ G 0 _) (setCell_grown _ G 1 _)) (setCell_grown _ G 2 _)) (setCell_grown _ G 3 _)) (setCell_grown _ G 4 _)⟩

/-- What side hands out: the four rows in new memory, apart from one another. -/
structure SideV (base : Nat) (t : Dk) (w : World) (v0 v1 u0 u1 : Value) : Prop where
  r0 : RowB 5 base w v0 (t.read 0).1
  r1 : RowB 5 base w v1 (t.read 1).1
  d0 : RowB 5 base w u0 (t.durable 0).1
  d1 : RowB 5 base w u1 (t.durable 1).1
  ap : ∀ g, u1.ownBlock = some g → u0.ownBlock ≠ some g

set_option maxRecDepth 20000 in
set_option maxHeartbeats 4000000 in
theorem side_at (R : Nat) (S : Nat → Prop) (t : Dk) (w : World) (hD : DkAt R S t w) : Calls Try.prog 12 #[.pointer (some ⟨R, 0, none⟩)] w fun e w' => (∃ a0 c0 a1 c1 a2 c2 a3 c3, e = .returned (.agg (SD a0 (t.read 0).1.length c0 a1 (t.read 1).1.length c1 a2 (t.durable 0).1.length c2 a3 (t.durable 1).1.length c3 t.dn).toArray) ∧ SideV w.heap.size t w' (.slice a0 (t.read 0).1.length c0) (.slice a1 (t.read 1).1.length c1) (.slice a2 (t.durable 0).1.length c2) (.slice a3 (t.durable 1).1.length c3)) ∧ Below w.heap.size w w' := by
  have DN : Hid (∀ w', Below w.heap.size w w' → Calls Try.prog 22 #[.pointer (some ⟨R, 0, none⟩)] w' fun e w'' => e = .returned (.bool t.dn) ∧ w'' = w') := fun w' hb => down_at R S t w' (hD.below hb)
  have RD : Hid (∀ n w', Below w.heap.size w w' → Calls Try.prog 24 #[.pointer (some ⟨R, 0, none⟩), .int .i64 n] w' (NewE w' (t.read n))) := fun n w' hb => read_at R S t w' n (hD.below hb)
  have DU : Hid (∀ n w', Below w.heap.size w w' → Calls Try.prog 20 #[.pointer (some ⟨R, 0, none⟩), .int .i64 n] w' (NewE w' (t.durable n))) := fun n w' hb => durable_at R S t w' n (hD.below hb)
  obtain ⟨x0, hx0⟩ : ∃ x, t.read 0 = x := ⟨_, rfl⟩
  obtain ⟨x1, hx1⟩ : ∃ x, t.read 1 = x := ⟨_, rfl⟩
  obtain ⟨y0, hy0⟩ : ∃ x, t.durable 0 = x := ⟨_, rfl⟩
  obtain ⟨y1, hy1⟩ : ∃ x, t.durable 1 = x := ⟨_, rfl⟩
  have RD0 := RD.out 0
  have RD1 := RD.out 1
  have DU0 := DU.out 0
  have DU1 := DU.out 1
  rw [hx0] at RD0
  rw [hx1] at RD1
  rw [hy0] at DU0
  rw [hy1] at DU1
  have RD0 : Hid (∀ w', Below w.heap.size w w' → Calls Try.prog 24 #[.pointer (some ⟨R, 0, none⟩), .int .i64 0] w' (NewE w' x0)) := RD0
  have RD1 : Hid (∀ w', Below w.heap.size w w' → Calls Try.prog 24 #[.pointer (some ⟨R, 0, none⟩), .int .i64 1] w' (NewE w' x1)) := RD1
  have DU0 : Hid (∀ w', Below w.heap.size w w' → Calls Try.prog 20 #[.pointer (some ⟨R, 0, none⟩), .int .i64 0] w' (NewE w' y0)) := DU0
  have DU1 : Hid (∀ w', Below w.heap.size w w' → Calls Try.prog 20 #[.pointer (some ⟨R, 0, none⟩), .int .i64 1] w' (NewE w' y1)) := DU1
  have FV : Hid (∀ base w' v0 v1 u0 u1, RowB 5 base w' v0 x0.1 → RowB 5 base w' v1 x1.1 → RowB 5 base w' u0 y0.1 → RowB 5 base w' u1 y1.1 → (∀ g, u1.ownBlock = some g → u0.ownBlock ≠ some g) → SideV base t w' v0 v1 u0 u1) := fun base w' v0 v1 u0 u1 h0 h1 h2 h3 h4 => ⟨hx0 ▸ h0, hx1 ▸ h1, hy0 ▸ h2, hy1 ▸ h3, h4⟩
  rw [hx0, hx1, hy0, hy1]
  clear RD DU hx0 hx1 hy0 hy1
  obtain ⟨x0, z0⟩ := x0
  obtain ⟨x1, z1⟩ := x1
  obtain ⟨y0, z2⟩ := y0
  obtain ⟨y1, z3⟩ := y1
  simp only at FV ⊢
  have BA := below_alloc w (.cells SZ.toArray 30)
  have BB := below_alloc (w.alloc (.cells SZ.toArray 30)) (.cells SZ.toArray 30)
  have D1 := (Blk.new 30 SZ w).below BB
  have X1 := Blk.new 30 SZ (w.alloc (.cells SZ.toArray 30))
  rw [show (w.alloc (.cells SZ.toArray 30)).heap.size = w.heap.size + 1 by simp] at X1
  have W1 := below_trans BA BB
  obtain ⟨dn, hdn⟩ : ∃ dn, t.dn = dn := ⟨_, rfl⟩
  rw [hdn] at DN ⊢
  clear BA BB hD hdn
  go_enter Try.func12, Try.ntmps12
  go_upto_region 2 with fail
  generalize (w.alloc (.cells SZ.toArray 30)).alloc (.cells SZ.toArray 30) = V1 at *
  obtain ⟨Q, hQ0⟩ : ∃ Q, w.heap.size = Q := ⟨_, rfl⟩
  have hQ : Hid (w.heap.size = Q) := hQ0
  rw [hQ0] at D1 X1 ⊢
  clear hQ0
  have lx4 := X1.cell 4 _ rfl
  have lf4 := X1.fz 4
  go_wp2_with fail
  refine (DN.out _ W1).mono ?_
  rintro e w2 ⟨rfl, rfl⟩
  have g2 := setCell_grown w2 (Q + 1) 4 (.bool dn)
  have X2 : Blk (Q + 1) 30 [.slice none 0 0, .slice none 0 0, .slice none 0 0, .slice none 0 0, .bool dn] (w2.setCell ⟨Q + 1, 4, none⟩ (.bool dn)) := Blk.set (i := 4) X1 (.bool dn)
  have D2 := D1.grown g2 (by omega)
  have W2 : Below w.heap.size w (w2.setCell ⟨Q + 1, 4, none⟩ (.bool dn)) := grownBy_to_below W1 g2 (by have := hQ.out; omega)
  clear X1 D1 W1 g2 DN
  go_upto_region 3 with fail
  generalize w2.setCell ⟨Q + 1, 4, none⟩ (.bool dn) = w3 at *
  clear lx4 lf4
  go_wp2_with fail
  go_loopw [4] (fun vk wr => Below w.heap.size w wr ∧ Blk Q 30 SZ wr ∧ ((vk = .int .i64 0 ∧ Blk (Q + 1) 30 [.slice none 0 0, .slice none 0 0, .slice none 0 0, .slice none 0 0, .bool dn] wr) ∨
    (vk = .int .i64 1 ∧ ∃ a0 c0 a2 c2, Blk (Q + 1) 30 [.slice a0 x0.length c0, .slice none 0 0, .slice a2 y0.length c2, .slice none 0 0, .bool dn] wr ∧ RowB 5 (Q + 2) wr (.slice a0 x0.length c0) x0 ∧ RowB 5 (Q + 2) wr (.slice a2 y0.length c2) y0) ∨
    (vk = .int .i64 2 ∧ ∃ a0 c0 a1 c1 a2 c2 a3 c3, Blk (Q + 1) 30 [.slice a0 x0.length c0, .slice a1 x1.length c1, .slice a2 y0.length c2, .slice a3 y1.length c3, .bool dn] wr ∧ RowB 5 (Q + 2) wr (.slice a0 x0.length c0) x0 ∧ RowB 5 (Q + 2) wr (.slice a1 x1.length c1) x1 ∧ RowB 5 (Q + 2) wr (.slice a2 y0.length c2) y0 ∧ RowB 5 (Q + 2) wr (.slice a3 y1.length c3) y1 ∧ Hid (∀ g, (Value.slice a3 y1.length c3).ownBlock = some g → (Value.slice a2 y0.length c2).ownBlock ≠ some g)))) (fun vk _ => 2 - (intOf vk).toNat)
  case atStart => exact ⟨W2, D2, .inl ⟨rfl, X2⟩⟩
  case round =>
    clear W2 D2 X2
    obtain ⟨hb, hDk, h | h | h⟩ := hrel
    · obtain ⟨rfl, hX⟩ := h
      go_wp2_with fail
      refine (RD0.out _ hb).mono ?_
      rintro e w4 ⟨a0, c0, rfl, r4, b4⟩
      simp only at r4 ⊢
      have hsz := hX.lt
      have X4 := hX.below b4
      have D4 := hDk.below b4
      have B4 := below_trans hb b4
      have r4' : RowB 5 (Q + 2) w4 (.slice a0 x0.length c0) x0 := r4.mono (by omega)
      have lx := X4.cell 0 _ rfl
      have lf := X4.fz 0
      have g5 := setCell_grown w4 (Q + 1) 0 (.slice a0 x0.length c0)
      have X5 : Blk (Q + 1) 30 [.slice a0 x0.length c0, .slice none 0 0, .slice none 0 0, .slice none 0 0, .bool dn] (w4.setCell ⟨Q + 1, 0, none⟩ (.slice a0 x0.length c0)) := Blk.set (i := 0) X4 (.slice a0 x0.length c0)
      have D5 := D4.grown g5 (by omega)
      have B5 := grownBy_to_below B4 g5 (by have := hQ.out; omega)
      have s5 := RowV.kept r4' g5 (fun g hg e => by have := r4'.block_ge hg; injection e with e; omega)
      clear hb hDk hX r4 r4' b4 X4 D4 B4 g5
      go_upto_region 8 with fail
      generalize w4.setCell ⟨Q + 1, 0, none⟩ (.slice a0 x0.length c0) = w5 at *
      clear lx lf
      go_wp2_with fail
      refine (DU0.out _ B5).mono ?_
      rintro e w6 ⟨a2, c2, rfl, r6, b6⟩
      simp only at r6 ⊢
      have hsz5 := X5.lt
      have X6 := X5.below b6
      have D6 := D5.below b6
      have B6 := below_trans B5 b6
      have t5 := RowV.later s5 b6
      have r6' : RowB 5 (Q + 2) w6 (.slice a2 y0.length c2) y0 := r6.mono (by omega)
      have lx := X6.cell 2 _ rfl
      have lf := X6.fz 2
      have g7 := setCell_grown w6 (Q + 1) 2 (.slice a2 y0.length c2)
      have X7 : Blk (Q + 1) 30 [.slice a0 x0.length c0, .slice none 0 0, .slice a2 y0.length c2, .slice none 0 0, .bool dn] (w6.setCell ⟨Q + 1, 2, none⟩ (.slice a2 y0.length c2)) := Blk.set (i := 2) X6 (.slice a2 y0.length c2)
      have D7 := D6.grown g7 (by omega)
      have B7 := grownBy_to_below B6 g7 (by have := hQ.out; omega)
      have m5 := RowV.kept t5 g7 (fun g hg e => by have := t5.block_ge hg; injection e with e; omega)
      have m6 := RowV.kept r6' g7 (fun g hg e => by have := r6'.block_ge hg; injection e with e; omega)
      clear B5 D5 X5 s5 r6 r6' b6 X6 D6 B6 g7 t5
      go_wp2_with fail
      go_roundw
      case rel => exact ⟨B7, D7, .inr (.inl ⟨rfl, a0, c0, a2, c2, X7, m5, m6⟩)⟩
      case measure => simp [intOf]
    · obtain ⟨rfl, a0, c0, a2, c2, hX, q0, q2⟩ := h
      go_wp2_with fail
      refine (RD1.out _ hb).mono ?_
      rintro e w4 ⟨a1, c1, rfl, r4, b4⟩
      simp only at r4 ⊢
      have hsz := hX.lt
      have X4 := hX.below b4
      have D4 := hDk.below b4
      have B4 := below_trans hb b4
      have p0 := RowV.later q0 b4
      have p2 := RowV.later q2 b4
      have r4' : RowB 5 (Q + 2) w4 (.slice a1 x1.length c1) x1 := r4.mono (by omega)
      have lx := X4.cell 1 _ rfl
      have lf := X4.fz 1
      have g5 := setCell_grown w4 (Q + 1) 1 (.slice a1 x1.length c1)
      have X5 : Blk (Q + 1) 30 [.slice a0 x0.length c0, .slice a1 x1.length c1, .slice a2 y0.length c2, .slice none 0 0, .bool dn] (w4.setCell ⟨Q + 1, 1, none⟩ (.slice a1 x1.length c1)) := Blk.set (i := 1) X4 (.slice a1 x1.length c1)
      have D5 := D4.grown g5 (by omega)
      have B5 := grownBy_to_below B4 g5 (by have := hQ.out; omega)
      have s5 := RowV.kept r4' g5 (fun g hg e => by have := r4'.block_ge hg; injection e with e; omega)
      have s0 := RowV.kept p0 g5 (fun g hg e => by have := p0.block_ge hg; injection e with e; omega)
      have s2 := RowV.kept p2 g5 (fun g hg e => by have := p2.block_ge hg; injection e with e; omega)
      clear hb hDk hX r4 r4' b4 X4 D4 B4 g5 q0 q2 p0 p2
      go_upto_region 8 with fail
      generalize w4.setCell ⟨Q + 1, 1, none⟩ (.slice a1 x1.length c1) = w5 at *
      clear lx lf
      go_wp2_with fail
      refine (DU1.out _ B5).mono ?_
      rintro e w6 ⟨a3, c3, rfl, r6, b6⟩
      simp only at r6 ⊢
      have hsz5 := X5.lt
      have X6 := X5.below b6
      have D6 := D5.below b6
      have B6 := below_trans B5 b6
      have t5 := RowV.later s5 b6
      have t0 := RowV.later s0 b6
      have t2 := RowV.later s2 b6
      have AP : Hid (∀ g, (Value.slice a3 y1.length c3).ownBlock = some g → (Value.slice a2 y0.length c2).ownBlock ≠ some g) := fun g h1 h2 => by have := r6.block_ge h1; have := s2.block_lt h2; omega
      have r6' : RowB 5 (Q + 2) w6 (.slice a3 y1.length c3) y1 := r6.mono (by omega)
      have lx := X6.cell 3 _ rfl
      have lf := X6.fz 3
      have g7 := setCell_grown w6 (Q + 1) 3 (.slice a3 y1.length c3)
      have X7 : Blk (Q + 1) 30 [.slice a0 x0.length c0, .slice a1 x1.length c1, .slice a2 y0.length c2, .slice a3 y1.length c3, .bool dn] (w6.setCell ⟨Q + 1, 3, none⟩ (.slice a3 y1.length c3)) := Blk.set (i := 3) X6 (.slice a3 y1.length c3)
      have D7 := D6.grown g7 (by omega)
      have B7 := grownBy_to_below B6 g7 (by have := hQ.out; omega)
      have m5 := RowV.kept t5 g7 (fun g hg e => by have := t5.block_ge hg; injection e with e; omega)
      have m6 := RowV.kept r6' g7 (fun g hg e => by have := r6'.block_ge hg; injection e with e; omega)
      have m0 := RowV.kept t0 g7 (fun g hg e => by have := t0.block_ge hg; injection e with e; omega)
      have m2 := RowV.kept t2 g7 (fun g hg e => by have := t2.block_ge hg; injection e with e; omega)
      clear B5 D5 X5 s5 r6 r6' b6 X6 D6 B6 g7 t5 s0 s2 t0 t2
      go_wp2_with fail
      go_roundw
      case rel => exact ⟨B7, D7, .inr (.inr ⟨rfl, a0, c0, a1, c1, a2, c2, a3, c3, X7, m0, m5, m2, m6, AP⟩)⟩
      case measure => simp [intOf]
    · obtain ⟨rfl, a0, c0, a1, c1, a2, c2, a3, c3, hX, q0, q1, q2, q3, AP⟩ := h
      obtain ⟨b9, g9⟩ := Blk.five hDk (.slice a0 x0.length c0) (.slice a1 x1.length c1) (.slice a2 y0.length c2) (.slice a3 y1.length c3) (.bool dn)
      have B9 : Hid (Blk _ _ _ _) := b9
      have W9 : Hid (Below _ _ _) := grownBy_to_below hb g9 (Nat.le_of_eq hQ.out)
      have nq : ∀ {v : Value} {l : List Nat}, RowB 5 (Q + 2) wr v l → ∀ g, v.ownBlock = some g → some Q ≠ some g := fun h g hg e => by have := h.block_ge hg; injection e with e; omega
      have V9 : Hid (SideV w.heap.size t _ (.slice a0 x0.length c0) (.slice a1 x1.length c1) (.slice a2 y0.length c2) (.slice a3 y1.length c3)) := FV.out _ _ _ _ _ _ ((RowV.kept q0 g9 (nq q0)).mono (by have := hQ.out; omega)) ((RowV.kept q1 g9 (nq q1)).mono (by have := hQ.out; omega)) ((RowV.kept q2 g9 (nq q2)).mono (by have := hQ.out; omega)) ((RowV.kept q3 g9 (nq q3)).mono (by have := hQ.out; omega)) AP.out
      have lx0 := hX.cell 0 _ rfl
      have ld0 := hDk.cell 0 _ rfl
      have lf0 := hDk.fz 0
      have lx1 := hX.cell 1 _ rfl
      have ld1 := hDk.cell 1 _ rfl
      have lf1 := hDk.fz 1
      have lx2 := hX.cell 2 _ rfl
      have ld2 := hDk.cell 2 _ rfl
      have lf2 := hDk.fz 2
      have lx3 := hX.cell 3 _ rfl
      have ld3 := hDk.cell 3 _ rfl
      have lf3 := hDk.fz 3
      have lx4 := hX.cell 4 _ rfl
      have ld4 := hDk.cell 4 _ rfl
      have lf4 := hDk.fz 4
      clear b9 g9 hb hDk hX q0 q1 q2 q3 nq FV RD0 RD1 DU0 DU1
      go_upto_region 10 with fail
      repeat (first | go_guarded | go_step)
      generalize (((((wr).setCell ⟨Q, 0, none⟩ (.slice a0 x0.length c0)).setCell ⟨Q, 1, none⟩ (.slice a1 x1.length c1)).setCell ⟨Q, 2, none⟩ (.slice a2 y0.length c2)).setCell ⟨Q, 3, none⟩ (.slice a3 y1.length c3)).setCell ⟨Q, 4, none⟩ (.bool dn) = V at *
      exact bodyPost_cell rfl rfl Q _ _ _ _ rfl B9.out Try.underlying30 rfl (by kernel_rfl) ⟨⟨_, _, _, _, _, _, _, _, rfl, V9.out⟩, W9.out⟩
end Go.Proofs.Ytabedehmlpfjaaa
