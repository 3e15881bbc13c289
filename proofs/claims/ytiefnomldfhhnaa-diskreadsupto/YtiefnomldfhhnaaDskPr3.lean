/-
  Ours: write's Sync and Truncate.
-/
import Derived.Test.YtiefnomldfhhnaaDskPr2
namespace Go.Proofs.Ytiefnomldfhhnaa
open Go.RowKit

set_option maxRecDepth 100000 in
set_option maxHeartbeats 600000 in
theorem write_sync (w0 : World) (R : Nat) (S T : Nat → Prop) (t : Dk) (x0 x1 p0 p1 xa : Sl) (cn : Int) (w : World) (h : PrIn w0 R S T t x0 x1 p0 p1 xa cn w) (hw : 0 ≤ t.wr ∧ t.wr < 4611686018427387904) (o : OpD) (x : Option Addr) (c : Nat) (hk : o.kind = 3) :
    Calls Try.prog 16 #[.agg (PV R x0 x1 p0 p1 xa cn t.dn t.wr).toArray, opd o x c] w fun e w' => ∃ y0 y1 q0 q1 ya cm, e = .returned (.tuple #[.agg (PV R y0 y1 q0 q1 ya cm ((t.sync o.file).1).dn ((t.sync o.file).1).wr).toArray, .bool true]) ∧ PrPost w0 R S T w ((t.sync o.file).1) y0 y1 q0 q1 ya cm w' := by
  have W3 := below3 w (PV R x0 x1 p0 p1 xa cn t.dn t.wr) (OD o.kind o.other o.file o.a o.b x o.data.length c) PZ 37 28 37
  obtain ⟨D3, O3, Z3⟩ := blk3 w (PV R x0 x1 p0 p1 xa cn t.dn t.wr) (OD o.kind o.other o.file o.a o.b x o.data.length c) PZ 37 28 37
  unfold opd
  have H : Hid (PrIn w0 R S T t x0 x1 p0 p1 xa cn w) := h
  have ok := h.d.at_.1
  have WQ : Hid (w0.heap.size ≤ w.heap.size) := h.d.bel.size
  clear h
  have HW : Hid (0 ≤ t.wr ∧ t.wr < 4611686018427387904) := hw
  clear hw
  obtain ⟨res, hres⟩ : ∃ r, t.sync o.file = r := ⟨_, rfl⟩
  rw [hres]
  have HRES : Hid (t.sync o.file = res) := hres
  clear hres
  have kb1 : (o.kind == 1) = false := by rw [hk]; rfl
  have kb2 : (o.kind == 2) = false := by rw [hk]; rfl
  have kb3 : (o.kind == 3) = true := by rw [hk]; rfl
  clear hk
  go_enter Try.func16, Try.ntmps16
  go_upto_region 1 with fail
  generalize ((w.alloc (.cells (PV R x0 x1 p0 p1 xa cn t.dn t.wr).toArray 37)).alloc (.cells (OD o.kind o.other o.file o.a o.b x o.data.length c).toArray 28)).alloc (.cells PZ.toArray 37) = w3 at *
  obtain ⟨Q, hQ⟩ : ∃ Q, w.heap.size = Q := ⟨_, rfl⟩
  rw [hQ] at D3 O3 Z3 ⊢
  have HQ : Hid (w.heap.size = Q) := hQ
  clear hQ
  have NS : Hid (∀ g, Q ≤ g → ¬ S g ∧ ¬ T g) := fun g hg => ⟨fun hs => by have := H.out.d.at_.size g hs; have := HQ.out; omega, fun hs => by have := H.out.r.s g hs; have := HQ.out; omega⟩
  have a0 := O3.cell 0 _ rfl
  have a1 := O3.cell 1 _ rfl
  have a2 := O3.cell 2 _ rfl
  have a3 := O3.cell 3 _ rfl
  have a4 := O3.cell 4 _ rfl
  have a5 := O3.cell 5 _ rfl
  have d0 := D3.cell 0 _ rfl
  have d1 := D3.cell 1 _ rfl
  have d2 := D3.cell 2 _ rfl
  have d3 := D3.cell 3 _ rfl
  have d4 := D3.cell 4 _ rfl
  have d5 := D3.cell 5 _ rfl
  have d6 := D3.cell 6 _ rfl
  have d7 := D3.cell 7 _ rfl
  have d8 := D3.cell 8 _ rfl
  have RC : Hid (Calls _ _ _ _ _) := rsync_at T t x0 x1 p0 p1 xa cn w3 (H.out.r.below W3) ok HW.out o.file
  rw [HRES.out] at RC
  go_wp2_with fail
  refine RC.out.mono ?_
  rintro e w4 ⟨y0, y1, q0, q1, ya, cm, rfl, rn⟩
  have b4 : Below w3.heap.size w3 w4 := by obtain ⟨_, _, _, hb⟩ := rn; exact hb
  have D4 := D3.below b4
  have Z4 := Z3.below b4
  have O4 := O3.below b4
  obtain ⟨E5, g5⟩ := Blk.nineR D4 (Value.slice y0.a y0.n y0.c) (Value.slice y1.a y1.n y1.c) (Value.slice q0.a q0.n q0.c) (Value.slice q1.a q1.n q1.c) (Value.slice ya.a ya.n ya.c) (Value.int .i64 (cm)) (Value.bool (res.1.dn)) (Value.int .i64 (res.1.wr))
  have Z5 := Z4.grown g5 (by omega)
  have O5 := O4.grown g5 (by omega)
  clear a0 a1 a2 a3 a4 a5 d0 d1 d2 d3 d4 d5 d6 d7 d8
  have d1 := D4.cell 1 _ rfl
  have d2 := D4.cell 2 _ rfl
  have d3 := D4.cell 3 _ rfl
  have d4 := D4.cell 4 _ rfl
  have d5 := D4.cell 5 _ rfl
  have d6 := D4.cell 6 _ rfl
  have d7 := D4.cell 7 _ rfl
  have d8 := D4.cell 8 _ rfl
  have df1 := D4.fz 1
  have df2 := D4.fz 2
  have df3 := D4.fz 3
  have df4 := D4.fz 4
  have df5 := D4.fz 5
  have df6 := D4.fz 6
  have df7 := D4.fz 7
  have df8 := D4.fz 8
  have M5 := pr_mid H.out W3 rn g5 (Nat.le_of_eq HQ.out)
  have WZ : Q + 2 < w3.heap.size := Z3.lt
  clear D3 O3 Z3 Z4 O4
  go_upto_region 19 with fail
  generalize (((((((w4.setCell ⟨Q, 1, none⟩ (Value.slice y0.a y0.n y0.c)).setCell ⟨Q, 2, none⟩ (Value.slice y1.a y1.n y1.c)).setCell ⟨Q, 3, none⟩ (Value.slice q0.a q0.n q0.c)).setCell ⟨Q, 4, none⟩ (Value.slice q1.a q1.n q1.c)).setCell ⟨Q, 5, none⟩ (Value.slice ya.a ya.n ya.c)).setCell ⟨Q, 6, none⟩ (Value.int .i64 (cm))).setCell ⟨Q, 7, none⟩ (Value.bool (res.1.dn))).setCell ⟨Q, 8, none⟩ (Value.int .i64 (res.1.wr)) = w5 at *
  clear d1 d2 d3 d4 d5 d6 d7 d8 df1 df2 df3 df4 df5 df6 df7 df8
  have PC : Hid (Calls _ _ _ _ _) := sync_at R S t w5 o.file HW.out M5.at_
  rw [HRES.out] at PC
  have a0 := O5.cell 0 _ rfl
  have a1 := O5.cell 1 _ rfl
  have a2 := O5.cell 2 _ rfl
  have a3 := O5.cell 3 _ rfl
  have a4 := O5.cell 4 _ rfl
  have a5 := O5.cell 5 _ rfl
  have d0 := E5.cell 0 _ rfl
  have d1 := E5.cell 1 _ rfl
  have d2 := E5.cell 2 _ rfl
  have d3 := E5.cell 3 _ rfl
  have d4 := E5.cell 4 _ rfl
  have d5 := E5.cell 5 _ rfl
  have d6 := E5.cell 6 _ rfl
  have d7 := E5.cell 7 _ rfl
  have d8 := E5.cell 8 _ rfl
  go_wp2_with fail
  refine PC.out.mono ?_
  rintro e w6 ⟨rfl, p6⟩
  have k6 : Kp S w5 w6 := by obtain ⟨_, _, _, hk⟩ := p6; exact hk
  have D6 := E5.kp k6 (NS.out _ (Nat.le_refl _)).1
  have Z6 := Z5.kp k6 (NS.out _ (by omega)).1
  obtain ⟨b9, g9⟩ := Blk.nine Z6 (Value.pointer (some ⟨R, 0, none⟩)) (Value.slice y0.a y0.n y0.c) (Value.slice y1.a y1.n y1.c) (Value.slice q0.a q0.n q0.c) (Value.slice q1.a q1.n q1.c) (Value.slice ya.a ya.n ya.c) (Value.int .i64 (cm)) (Value.bool (res.1.dn)) (Value.int .i64 (res.1.wr))
  have B9 : Hid (Blk _ _ _ _) := b9
  have R9 : Hid (PrPost w0 R S T w res.1 y0 y1 q0 q1 ya cm _) := pr_end H.out W3 rn g5 (Nat.le_of_eq HQ.out) p6 g9 WZ
  have eb : (res.2 == res.2) = true := by simp
  clear a0 a1 a2 a3 a4 a5 d0 d1 d2 d3 d4 d5 d6 d7 d8 p6 k6 b9 g9 rn g5 M5 E5 Z5 O5
  have d0 := D6.cell 0 _ rfl
  have d1 := D6.cell 1 _ rfl
  have d2 := D6.cell 2 _ rfl
  have d3 := D6.cell 3 _ rfl
  have d4 := D6.cell 4 _ rfl
  have d5 := D6.cell 5 _ rfl
  have d6 := D6.cell 6 _ rfl
  have d7 := D6.cell 7 _ rfl
  have d8 := D6.cell 8 _ rfl
  have m0 := Z6.cell 0 _ rfl
  have m1 := Z6.cell 1 _ rfl
  have m2 := Z6.cell 2 _ rfl
  have m3 := Z6.cell 3 _ rfl
  have m4 := Z6.cell 4 _ rfl
  have m5 := Z6.cell 5 _ rfl
  have m6 := Z6.cell 6 _ rfl
  have m7 := Z6.cell 7 _ rfl
  have m8 := Z6.cell 8 _ rfl
  have mf0 := Z6.fz 0
  have mf1 := Z6.fz 1
  have mf2 := Z6.fz 2
  have mf3 := Z6.fz 3
  have mf4 := Z6.fz 4
  have mf5 := Z6.fz 5
  have mf6 := Z6.fz 6
  have mf7 := Z6.fz 7
  have mf8 := Z6.fz 8
  go_wp2_with fail
  generalize ((((((((w6.setCell ⟨Q + 2, 0, none⟩ (Value.pointer (some ⟨R, 0, none⟩))).setCell ⟨Q + 2, 1, none⟩ (Value.slice y0.a y0.n y0.c)).setCell ⟨Q + 2, 2, none⟩ (Value.slice y1.a y1.n y1.c)).setCell ⟨Q + 2, 3, none⟩ (Value.slice q0.a q0.n q0.c)).setCell ⟨Q + 2, 4, none⟩ (Value.slice q1.a q1.n q1.c)).setCell ⟨Q + 2, 5, none⟩ (Value.slice ya.a ya.n ya.c)).setCell ⟨Q + 2, 6, none⟩ (Value.int .i64 (cm))).setCell ⟨Q + 2, 7, none⟩ (Value.bool (res.1.dn))).setCell ⟨Q + 2, 8, none⟩ (Value.int .i64 (res.1.wr)) = V9 at *
  exact bodyPost_cell_tmp rfl rfl (Q + 2) _ _ _ _ rfl B9.out Try.underlying37 rfl (by kernel_rfl) ⟨y0, y1, q0, q1, ya, cm, rfl, R9.out⟩

set_option maxRecDepth 100000 in
set_option maxHeartbeats 600000 in
theorem write_trunc (w0 : World) (R : Nat) (S T : Nat → Prop) (t : Dk) (x0 x1 p0 p1 xa : Sl) (cn : Int) (w : World) (h : PrIn w0 R S T t x0 x1 p0 p1 xa cn w) (hw : 0 ≤ t.wr ∧ t.wr < 4611686018427387904) (o : OpD) (x : Option Addr) (c : Nat) (hk : o.kind = 4) :
    Calls Try.prog 16 #[.agg (PV R x0 x1 p0 p1 xa cn t.dn t.wr).toArray, opd o x c] w fun e w' => ∃ y0 y1 q0 q1 ya cm, e = .returned (.tuple #[.agg (PV R y0 y1 q0 q1 ya cm ((t.trunc o.file o.a).1).dn ((t.trunc o.file o.a).1).wr).toArray, .bool true]) ∧ PrPost w0 R S T w ((t.trunc o.file o.a).1) y0 y1 q0 q1 ya cm w' := by
  have W3 := below3 w (PV R x0 x1 p0 p1 xa cn t.dn t.wr) (OD o.kind o.other o.file o.a o.b x o.data.length c) PZ 37 28 37
  obtain ⟨D3, O3, Z3⟩ := blk3 w (PV R x0 x1 p0 p1 xa cn t.dn t.wr) (OD o.kind o.other o.file o.a o.b x o.data.length c) PZ 37 28 37
  unfold opd
  have H : Hid (PrIn w0 R S T t x0 x1 p0 p1 xa cn w) := h
  have ok := h.d.at_.1
  have WQ : Hid (w0.heap.size ≤ w.heap.size) := h.d.bel.size
  clear h
  have HW : Hid (0 ≤ t.wr ∧ t.wr < 4611686018427387904) := hw
  clear hw
  obtain ⟨res, hres⟩ : ∃ r, t.trunc o.file o.a = r := ⟨_, rfl⟩
  rw [hres]
  have HRES : Hid (t.trunc o.file o.a = res) := hres
  clear hres
  have kb1 : (o.kind == 1) = false := by rw [hk]; rfl
  have kb2 : (o.kind == 2) = false := by rw [hk]; rfl
  have kb3 : (o.kind == 3) = false := by rw [hk]; rfl
  have kb4 : (o.kind == 4) = true := by rw [hk]; rfl
  clear hk
  go_enter Try.func16, Try.ntmps16
  go_upto_region 1 with fail
  generalize ((w.alloc (.cells (PV R x0 x1 p0 p1 xa cn t.dn t.wr).toArray 37)).alloc (.cells (OD o.kind o.other o.file o.a o.b x o.data.length c).toArray 28)).alloc (.cells PZ.toArray 37) = w3 at *
  obtain ⟨Q, hQ⟩ : ∃ Q, w.heap.size = Q := ⟨_, rfl⟩
  rw [hQ] at D3 O3 Z3 ⊢
  have HQ : Hid (w.heap.size = Q) := hQ
  clear hQ
  have NS : Hid (∀ g, Q ≤ g → ¬ S g ∧ ¬ T g) := fun g hg => ⟨fun hs => by have := H.out.d.at_.size g hs; have := HQ.out; omega, fun hs => by have := H.out.r.s g hs; have := HQ.out; omega⟩
  have a0 := O3.cell 0 _ rfl
  have a1 := O3.cell 1 _ rfl
  have a2 := O3.cell 2 _ rfl
  have a3 := O3.cell 3 _ rfl
  have a4 := O3.cell 4 _ rfl
  have a5 := O3.cell 5 _ rfl
  have d0 := D3.cell 0 _ rfl
  have d1 := D3.cell 1 _ rfl
  have d2 := D3.cell 2 _ rfl
  have d3 := D3.cell 3 _ rfl
  have d4 := D3.cell 4 _ rfl
  have d5 := D3.cell 5 _ rfl
  have d6 := D3.cell 6 _ rfl
  have d7 := D3.cell 7 _ rfl
  have d8 := D3.cell 8 _ rfl
  have RC : Hid (Calls _ _ _ _ _) := rtrunc_at T t x0 x1 p0 p1 xa cn w3 (H.out.r.below W3) ok HW.out o.file o.a
  rw [HRES.out] at RC
  go_wp2_with fail
  refine RC.out.mono ?_
  rintro e w4 ⟨y0, y1, q0, q1, ya, cm, rfl, rn⟩
  have b4 : Below w3.heap.size w3 w4 := by obtain ⟨_, _, _, hb⟩ := rn; exact hb
  have D4 := D3.below b4
  have Z4 := Z3.below b4
  have O4 := O3.below b4
  obtain ⟨E5, g5⟩ := Blk.nineR D4 (Value.slice y0.a y0.n y0.c) (Value.slice y1.a y1.n y1.c) (Value.slice q0.a q0.n q0.c) (Value.slice q1.a q1.n q1.c) (Value.slice ya.a ya.n ya.c) (Value.int .i64 (cm)) (Value.bool (res.1.dn)) (Value.int .i64 (res.1.wr))
  have Z5 := Z4.grown g5 (by omega)
  have O5 := O4.grown g5 (by omega)
  clear a0 a1 a2 a3 a4 a5 d0 d1 d2 d3 d4 d5 d6 d7 d8
  have d1 := D4.cell 1 _ rfl
  have d2 := D4.cell 2 _ rfl
  have d3 := D4.cell 3 _ rfl
  have d4 := D4.cell 4 _ rfl
  have d5 := D4.cell 5 _ rfl
  have d6 := D4.cell 6 _ rfl
  have d7 := D4.cell 7 _ rfl
  have d8 := D4.cell 8 _ rfl
  have df1 := D4.fz 1
  have df2 := D4.fz 2
  have df3 := D4.fz 3
  have df4 := D4.fz 4
  have df5 := D4.fz 5
  have df6 := D4.fz 6
  have df7 := D4.fz 7
  have df8 := D4.fz 8
  have M5 := pr_mid H.out W3 rn g5 (Nat.le_of_eq HQ.out)
  have WZ : Q + 2 < w3.heap.size := Z3.lt
  clear D3 O3 Z3 Z4 O4
  go_upto_region 22 with fail
  generalize (((((((w4.setCell ⟨Q, 1, none⟩ (Value.slice y0.a y0.n y0.c)).setCell ⟨Q, 2, none⟩ (Value.slice y1.a y1.n y1.c)).setCell ⟨Q, 3, none⟩ (Value.slice q0.a q0.n q0.c)).setCell ⟨Q, 4, none⟩ (Value.slice q1.a q1.n q1.c)).setCell ⟨Q, 5, none⟩ (Value.slice ya.a ya.n ya.c)).setCell ⟨Q, 6, none⟩ (Value.int .i64 (cm))).setCell ⟨Q, 7, none⟩ (Value.bool (res.1.dn))).setCell ⟨Q, 8, none⟩ (Value.int .i64 (res.1.wr)) = w5 at *
  clear d1 d2 d3 d4 d5 d6 d7 d8 df1 df2 df3 df4 df5 df6 df7 df8
  have PC : Hid (Calls _ _ _ _ _) := trunc_at R S t w5 o.file o.a HW.out M5.at_
  rw [HRES.out] at PC
  have a0 := O5.cell 0 _ rfl
  have a1 := O5.cell 1 _ rfl
  have a2 := O5.cell 2 _ rfl
  have a3 := O5.cell 3 _ rfl
  have a4 := O5.cell 4 _ rfl
  have a5 := O5.cell 5 _ rfl
  have d0 := E5.cell 0 _ rfl
  have d1 := E5.cell 1 _ rfl
  have d2 := E5.cell 2 _ rfl
  have d3 := E5.cell 3 _ rfl
  have d4 := E5.cell 4 _ rfl
  have d5 := E5.cell 5 _ rfl
  have d6 := E5.cell 6 _ rfl
  have d7 := E5.cell 7 _ rfl
  have d8 := E5.cell 8 _ rfl
  go_wp2_with fail
  refine PC.out.mono ?_
  rintro e w6 ⟨rfl, p6⟩
  have k6 : Kp S w5 w6 := by obtain ⟨_, _, _, hk⟩ := p6; exact hk
  have D6 := E5.kp k6 (NS.out _ (Nat.le_refl _)).1
  have Z6 := Z5.kp k6 (NS.out _ (by omega)).1
  obtain ⟨b9, g9⟩ := Blk.nine Z6 (Value.pointer (some ⟨R, 0, none⟩)) (Value.slice y0.a y0.n y0.c) (Value.slice y1.a y1.n y1.c) (Value.slice q0.a q0.n q0.c) (Value.slice q1.a q1.n q1.c) (Value.slice ya.a ya.n ya.c) (Value.int .i64 (cm)) (Value.bool (res.1.dn)) (Value.int .i64 (res.1.wr))
  have B9 : Hid (Blk _ _ _ _) := b9
  have R9 : Hid (PrPost w0 R S T w res.1 y0 y1 q0 q1 ya cm _) := pr_end H.out W3 rn g5 (Nat.le_of_eq HQ.out) p6 g9 WZ
  have eb : (res.2 == res.2) = true := by simp
  clear a0 a1 a2 a3 a4 a5 d0 d1 d2 d3 d4 d5 d6 d7 d8 p6 k6 b9 g9 rn g5 M5 E5 Z5 O5
  have d0 := D6.cell 0 _ rfl
  have d1 := D6.cell 1 _ rfl
  have d2 := D6.cell 2 _ rfl
  have d3 := D6.cell 3 _ rfl
  have d4 := D6.cell 4 _ rfl
  have d5 := D6.cell 5 _ rfl
  have d6 := D6.cell 6 _ rfl
  have d7 := D6.cell 7 _ rfl
  have d8 := D6.cell 8 _ rfl
  have m0 := Z6.cell 0 _ rfl
  have m1 := Z6.cell 1 _ rfl
  have m2 := Z6.cell 2 _ rfl
  have m3 := Z6.cell 3 _ rfl
  have m4 := Z6.cell 4 _ rfl
  have m5 := Z6.cell 5 _ rfl
  have m6 := Z6.cell 6 _ rfl
  have m7 := Z6.cell 7 _ rfl
  have m8 := Z6.cell 8 _ rfl
  have mf0 := Z6.fz 0
  have mf1 := Z6.fz 1
  have mf2 := Z6.fz 2
  have mf3 := Z6.fz 3
  have mf4 := Z6.fz 4
  have mf5 := Z6.fz 5
  have mf6 := Z6.fz 6
  have mf7 := Z6.fz 7
  have mf8 := Z6.fz 8
  go_wp2_with fail
  generalize ((((((((w6.setCell ⟨Q + 2, 0, none⟩ (Value.pointer (some ⟨R, 0, none⟩))).setCell ⟨Q + 2, 1, none⟩ (Value.slice y0.a y0.n y0.c)).setCell ⟨Q + 2, 2, none⟩ (Value.slice y1.a y1.n y1.c)).setCell ⟨Q + 2, 3, none⟩ (Value.slice q0.a q0.n q0.c)).setCell ⟨Q + 2, 4, none⟩ (Value.slice q1.a q1.n q1.c)).setCell ⟨Q + 2, 5, none⟩ (Value.slice ya.a ya.n ya.c)).setCell ⟨Q + 2, 6, none⟩ (Value.int .i64 (cm))).setCell ⟨Q + 2, 7, none⟩ (Value.bool (res.1.dn))).setCell ⟨Q + 2, 8, none⟩ (Value.int .i64 (res.1.wr)) = V9 at *
  exact bodyPost_cell_tmp rfl rfl (Q + 2) _ _ _ _ rfl B9.out Try.underlying37 rfl (by kernel_rfl) ⟨y0, y1, q0, q1, ya, cm, rfl, R9.out⟩
end Go.Proofs.Ytiefnomldfhhnaa
