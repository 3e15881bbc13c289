/-
  Ours: order; write's Sync and Truncate.
-/
import Derived.Test.YtiefnomldfhhnaaDskPr1
import Derived.Deep.RegionHeld3
import Derived.Deep.CutRange
namespace Go.Proofs.Ytiefnomldfhhnaa
open Go.RowKit

/-- The reference's call, its answer stored at Q: the disk's next call may come. -/
theorem pr_mid {w0 : World} {R : Nat} {S T : Nat → Prop} {t t' : Dk} {x0 x1 p0 p1 xa y0 y1 q0 q1 ya : Sl} {cn cm : Int} {w w3 w4 w5 : World} {Q : Nat} (h : PrIn w0 R S T t x0 x1 p0 p1 xa cn w) (W3 : Below w.heap.size w w3) (rn : RfNew T w3 t' y0 y1 q0 q1 ya cm w4) (g5 : w4.grownBy w5 (some Q)) (hQ : w.heap.size ≤ Q) : DkIn w0 R S t w5 := by
  obtain ⟨T', v, nT, hb⟩ := rn
  have d4 := (h.d.below W3).below hb
  have slt := h.d.at_.size
  have s0 := h.d.bel.size
  exact ⟨d4.at_.kp (Kp.of_grown g5) (fun g hg e => by injection e with e; have := slt g hg; omega), d4.new, Below.of_kp d4.bel (Kp.of_grown g5) (fun g e => by injection e with e; omega)⟩
theorem pr_end {w0 : World} {R : Nat} {S T : Nat → Prop} {t t' : Dk} {x0 x1 p0 p1 xa y0 y1 q0 q1 ya : Sl} {cn cm : Int} {w w3 w4 w5 w6 w7 : World} {Q : Nat} (h : PrIn w0 R S T t x0 x1 p0 p1 xa cn w) (W3 : Below w.heap.size w w3) (rn : RfNew T w3 t' y0 y1 q0 q1 ya cm w4) (g5 : w4.grownBy w5 (some Q)) (hQ : w.heap.size ≤ Q) (p : DkPost R S w5 t' w6) (g7 : w6.grownBy w7 (some (Q + 2))) (hZ : Q + 2 < w3.heap.size) : PrPost w0 R S T w t' y0 y1 q0 q1 ya cm w7 := by
  have d5 := pr_mid h W3 rn g5 hQ
  obtain ⟨T', v, nT, hb⟩ := rn
  obtain ⟨S', i6, nS, k6⟩ := d5.post p
  have sz3 := W3.size
  have sz4 := hb.size
  have sz5 := g5.size
  have slt := h.d.at_.size
  have tlt := h.r.s
  have vlt := v.s
  have s0 := h.d.bel.size
  have tS : ∀ g, T' g → ¬ S g := fun g hg hs => by
    rcases nT g hg with h1 | h1
    · exact h.ap g h1 hs
    · have := slt g hs; omega
  have tQ : ∀ g, T' g → g ≠ Q := fun g hg e => by
    rcases nT g hg with h1 | h1
    · have := tlt g h1; omega
    · omega
  have v5 := v.kp (Kp.of_grown g5) (fun g hg e => by injection e with e; exact tQ g hg e.symm)
  have v6 := v5.kp k6 tS
  refine PrPost.grown (G := Q + 2) ⟨S', T', ⟨i6, v6, fun g hg hs => ?_, fun g hg => ?_⟩, fun g hg => (nS g hg).imp id (fun h => by omega), fun g hg => (nT g hg).imp id (fun h => by omega), ?_, fun hs => ?_, fun hs => ?_⟩ g7 (by omega) (by omega)
  · rcases nS g hs with h2 | h2
    · exact tS g hg h2
    · have := vlt g hg; omega
  · rcases nT g hg with h1 | h1
    · exact h.tn g h1
    · omega
  · exact (((Kp.of_below W3 S).trans (Kp.of_below hb S) (fun _ _ h => h)).trans (Kp.of_grown g5) (fun g h1 e => by injection e with e; omega)).trans k6 (fun _ _ h => h)
  · rcases nS _ hs with h2 | h2
    · have := slt _ h2; omega
    · omega
  · rcases nT _ hs with h2 | h2
    · have := tlt _ h2; omega
    · omega
theorem pr_same {w0 : World} {R : Nat} {S T : Nat → Prop} {t : Dk} {x0 x1 p0 p1 xa : Sl} {cn : Int} {w w3 w7 : World} {Q : Nat} (h : PrIn w0 R S T t x0 x1 p0 p1 xa cn w) (W3 : Below w.heap.size w w3) (hQ : w.heap.size ≤ Q) (g7 : w3.grownBy w7 (some (Q + 2))) : PrPost w0 R S T w t x0 x1 p0 p1 xa cn w7 :=
  PrPost.grown (G := Q + 2) ⟨S, T, h.below W3, fun _ h => .inl h, fun _ h => .inl h, Kp.of_below W3 _, fun hs => by have := h.d.at_.size _ hs; omega, fun hs => by have := h.r.s _ hs; omega⟩ g7 (by omega) (by have := h.d.bel.size; omega)

set_option maxRecDepth 100000 in
set_option maxHeartbeats 2000000 in
theorem order_other (w0 : World) (R : Nat) (S T : Nat → Prop) (t : Dk) (x0 x1 p0 p1 xa : Sl) (cn : Int) (w : World) (h : PrIn w0 R S T t x0 x1 p0 p1 xa cn w) (_hw : 0 ≤ t.wr ∧ t.wr < 4611686018427387904) (o : OpD) (x : Option Addr) (c : Nat) (hk : o.kind ≠ 7 ∧ o.kind ≠ 8 ∧ o.kind ≠ 9 ∧ o.kind ≠ 10 ∧ o.kind ≠ 11) :
    Calls Try.prog 17 #[.agg (PV R x0 x1 p0 p1 xa cn t.dn t.wr).toArray, opd o x c] w fun e w' => ∃ y0 y1 q0 q1 ya cm, e = .returned (.tuple #[.agg (PV R y0 y1 q0 q1 ya cm (t).dn (t).wr).toArray, .bool true]) ∧ PrPost w0 R S T w (t) y0 y1 q0 q1 ya cm w' := by
  have W3 := below3 w (PV R x0 x1 p0 p1 xa cn t.dn t.wr) (OD o.kind o.other o.file o.a o.b x o.data.length c) PZ 37 28 37
  obtain ⟨D3, O3, Z3⟩ := blk3 w (PV R x0 x1 p0 p1 xa cn t.dn t.wr) (OD o.kind o.other o.file o.a o.b x o.data.length c) PZ 37 28 37
  unfold opd
  have H : Hid (PrIn w0 R S T t x0 x1 p0 p1 xa cn w) := h
  have ok := h.d.at_.1
  have WQ : Hid (w0.heap.size ≤ w.heap.size) := h.d.bel.size
  clear h
  have kb7 : (o.kind == 7) = false := beq_eq_false_iff_ne.2 (by omega)
  have kb8 : (o.kind == 8) = false := beq_eq_false_iff_ne.2 (by omega)
  have kb9 : (o.kind == 9) = false := beq_eq_false_iff_ne.2 (by omega)
  have kb10 : (o.kind == 10) = false := beq_eq_false_iff_ne.2 (by omega)
  have kb11 : (o.kind == 11) = false := beq_eq_false_iff_ne.2 (by omega)
  clear hk
  go_enter Try.func17, Try.ntmps17
  go_upto_region 1 with fail
  generalize ((w.alloc (.cells (PV R x0 x1 p0 p1 xa cn t.dn t.wr).toArray 37)).alloc (.cells (OD o.kind o.other o.file o.a o.b x o.data.length c).toArray 28)).alloc (.cells PZ.toArray 37) = w3 at *
  obtain ⟨Q, hQ⟩ : ∃ Q, w.heap.size = Q := ⟨_, rfl⟩
  rw [hQ] at D3 O3 Z3 ⊢
  have HQ : Hid (w.heap.size = Q) := hQ
  clear hQ
  have NS : Hid (∀ g, Q ≤ g → ¬ S g ∧ ¬ T g) := fun g hg => ⟨fun hs => by have := H.out.d.at_.size g hs; have := HQ.out; omega, fun hs => by have := H.out.r.s g hs; have := HQ.out; omega⟩
  have a0 := O3.cell 0 _ rfl
  have a1 := O3.cell 1 _ rfl
  have a2 := O3.cell 2 _ rfl
  have a3 := O3.cell 3 _ rfl
  have a4 := O3.cell 4 _ rfl
  have a5 := O3.cell 5 _ rfl
  have d0 := D3.cell 0 _ rfl
  have d1 := D3.cell 1 _ rfl
  have d2 := D3.cell 2 _ rfl
  have d3 := D3.cell 3 _ rfl
  have d4 := D3.cell 4 _ rfl
  have d5 := D3.cell 5 _ rfl
  have d6 := D3.cell 6 _ rfl
  have d7 := D3.cell 7 _ rfl
  have d8 := D3.cell 8 _ rfl
  obtain ⟨b9, g9⟩ := Blk.nine Z3 (Value.pointer (some ⟨R, 0, none⟩)) (Value.slice x0.a x0.n x0.c) (Value.slice x1.a x1.n x1.c) (Value.slice p0.a p0.n p0.c) (Value.slice p1.a p1.n p1.c) (Value.slice xa.a xa.n xa.c) (Value.int .i64 (cn)) (Value.bool (t.dn)) (Value.int .i64 (t.wr))
  have B9 : Hid (Blk _ _ _ _) := b9
  have R9 : Hid (PrPost w0 R S T w t x0 x1 p0 p1 xa cn _) := pr_same H.out W3 (Nat.le_of_eq HQ.out) g9
  have m0 := Z3.cell 0 _ rfl
  have m1 := Z3.cell 1 _ rfl
  have m2 := Z3.cell 2 _ rfl
  have m3 := Z3.cell 3 _ rfl
  have m4 := Z3.cell 4 _ rfl
  have m5 := Z3.cell 5 _ rfl
  have m6 := Z3.cell 6 _ rfl
  have m7 := Z3.cell 7 _ rfl
  have m8 := Z3.cell 8 _ rfl
  have mf0 := Z3.fz 0
  have mf1 := Z3.fz 1
  have mf2 := Z3.fz 2
  have mf3 := Z3.fz 3
  have mf4 := Z3.fz 4
  have mf5 := Z3.fz 5
  have mf6 := Z3.fz 6
  have mf7 := Z3.fz 7
  have mf8 := Z3.fz 8
  clear b9 g9
  go_wp2_with fail
  generalize ((((((((w3.setCell ⟨Q + 2, 0, none⟩ (Value.pointer (some ⟨R, 0, none⟩))).setCell ⟨Q + 2, 1, none⟩ (Value.slice x0.a x0.n x0.c)).setCell ⟨Q + 2, 2, none⟩ (Value.slice x1.a x1.n x1.c)).setCell ⟨Q + 2, 3, none⟩ (Value.slice p0.a p0.n p0.c)).setCell ⟨Q + 2, 4, none⟩ (Value.slice p1.a p1.n p1.c)).setCell ⟨Q + 2, 5, none⟩ (Value.slice xa.a xa.n xa.c)).setCell ⟨Q + 2, 6, none⟩ (Value.int .i64 (cn))).setCell ⟨Q + 2, 7, none⟩ (Value.bool (t.dn))).setCell ⟨Q + 2, 8, none⟩ (Value.int .i64 (t.wr)) = V9 at *
  exact bodyPost_cell_tmp rfl rfl (Q + 2) _ _ _ _ rfl B9.out Try.underlying37 rfl (by kernel_rfl) ⟨x0, x1, p0, p1, xa, cn, rfl, R9.out⟩

end Go.Proofs.Ytiefnomldfhhnaa
