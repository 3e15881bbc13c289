/-
  Ours: order's Arm, Disarm and Restart.
-/
import Derived.Test.YtiefnomldfhhnaaDskOr1
import Derived.Test.YtiefnomldfhhnaaDskStp
namespace Go.Proofs.Ytiefnomldfhhnaa
open Go.RowKit

theorem arm_as (t : Dk) (a k : Int) : (t.arm a k).1.dn = t.dn ∧ (t.arm a k).1.wr = t.wr := by
  unfold Dk.arm
  split
  · exact ⟨rfl, rfl⟩
  split
  · exact ⟨rfl, rfl⟩
  · exact ⟨rfl, rfl⟩
theorem restart_as (t : Dk) : t.restart.1.dn = false ∧ t.restart.1.wr = t.wr ∧ t.restart.2 = (if t.dn then 0 else 53) := by
  unfold Dk.restart
  cases h : t.dn
  · exact ⟨h, rfl, rfl⟩
  · exact ⟨rfl, rfl, rfl⟩
theorem RfV.restart {T : Nat → Prop} {t : Dk} {x0 x1 p0 p1 xa : Sl} {cn : Int} {w : World} (h : RfV T t x0 x1 p0 p1 xa cn w) : RfV T t.restart.1 x0 x1 p0 p1 xa cn w := by
  unfold Dk.restart
  split <;> exact ⟨h.d0, h.d1, h.q0, h.q1, h.ar, h.s, h.t0, h.t1, h.t2, h.t3, h.t4⟩
theorem RfV.disarm {T : Nat → Prop} {t : Dk} {x0 x1 p0 p1 xa : Sl} {cn : Int} {w : World} (h : RfV T t x0 x1 p0 p1 xa cn w) : RfV T { t with q := [] } x0 x1 p0 p1 Sl.z 0 w :=
  ⟨h.d0, h.d1, h.q0, h.q1, ⟨[], World.ownsRow_nil _ _ _ _, rfl, rfl⟩, h.s, h.t0, h.t1, h.t2, h.t3, fun g hg => by cases hg⟩

set_option maxRecDepth 100000 in
set_option maxHeartbeats 2000000 in
theorem order_arm (w0 : World) (R : Nat) (S T : Nat → Prop) (t : Dk) (x0 x1 p0 p1 xa : Sl) (cn : Int) (w : World) (h : PrIn w0 R S T t x0 x1 p0 p1 xa cn w) (_hw : 0 ≤ t.wr ∧ t.wr < 4611686018427387904) (o : OpD) (x : Option Addr) (c : Nat) (hk : o.kind = 7) :
    Calls Try.prog 17 #[.agg (PV R x0 x1 p0 p1 xa cn t.dn t.wr).toArray, opd o x c] w fun e w' => ∃ y0 y1 q0 q1 ya cm, e = .returned (.tuple #[.agg (PV R y0 y1 q0 q1 ya cm ((t.arm o.a o.b).1).dn ((t.arm o.a o.b).1).wr).toArray, .bool true]) ∧ PrPost w0 R S T w ((t.arm o.a o.b).1) y0 y1 q0 q1 ya cm w' := by
  have W3 := below3 w (PV R x0 x1 p0 p1 xa cn t.dn t.wr) (OD o.kind o.other o.file o.a o.b x o.data.length c) PZ 37 28 37
  obtain ⟨D3, O3, Z3⟩ := blk3 w (PV R x0 x1 p0 p1 xa cn t.dn t.wr) (OD o.kind o.other o.file o.a o.b x o.data.length c) PZ 37 28 37
  unfold opd
  have H : Hid (PrIn w0 R S T t x0 x1 p0 p1 xa cn w) := h
  have ok := h.d.at_.1
  have WQ : Hid (w0.heap.size ≤ w.heap.size) := h.d.bel.size
  clear h
  obtain ⟨res, hres⟩ : ∃ r, t.arm o.a o.b = r := ⟨_, rfl⟩
  rw [hres]
  have HD : Hid (res.1.dn = t.dn ∧ res.1.wr = t.wr) := by rw [← hres]; exact arm_as t o.a o.b
  have RC : Hid (∀ w', Below w.heap.size w w' → Calls Try.prog 33 #[.agg (RV x0 x1 p0 p1 xa cn t.dn t.wr).toArray, .int .i64 o.a, .int .i64 o.b] w' fun e w2 => ∃ ya, e = .returned (.tuple #[.agg (RV x0 x1 p0 p1 ya cn t.dn t.wr).toArray, .int .i64 res.2]) ∧ RfNew T w' res.1 x0 x1 p0 p1 ya cn w2) := fun w' hb => by rw [← hres]; exact rarm_at T t x0 x1 p0 p1 xa cn w' (H.out.r.below hb) ok o.a o.b
  have PC : Hid (∀ w', DkAt R S t w' → Calls Try.prog 34 #[.pointer (some ⟨R, 0, none⟩), .int .i64 o.a, .int .i64 o.b] w' fun e w2 => e = .returned (.int .i64 res.2) ∧ DkPost R S w' res.1 w2) := fun w' h1 => by rw [← hres]; exact arm_at R S t w' o.a o.b h1
  clear ok hres
  have kb7 : (o.kind == 7) = true := by rw [hk]; rfl
  clear hk
  go_enter Try.func17, Try.ntmps17
  go_upto_region 1 with fail
  generalize ((w.alloc (.cells (PV R x0 x1 p0 p1 xa cn t.dn t.wr).toArray 37)).alloc (.cells (OD o.kind o.other o.file o.a o.b x o.data.length c).toArray 28)).alloc (.cells PZ.toArray 37) = w3 at *
  obtain ⟨Q, hQ⟩ : ∃ Q, w.heap.size = Q := ⟨_, rfl⟩
  rw [hQ] at D3 O3 Z3 ⊢
  have HQ : Hid (w.heap.size = Q) := hQ
  clear hQ
  have NS : Hid (∀ g, Q ≤ g → ¬ S g ∧ ¬ T g) := fun g hg => ⟨fun hs => by have := H.out.d.at_.size g hs; have := HQ.out; omega, fun hs => by have := H.out.r.s g hs; have := HQ.out; omega⟩
  have SQ : Hid (∀ g, Q ≤ g → ¬ S g) := fun g hg => (NS.out g hg).1
  have a0 := O3.cell 0 _ rfl
  have a3 := O3.cell 3 _ rfl
  have a4 := O3.cell 4 _ rfl
  have W3' : Hid (Below w.heap.size w w3 ∧ Q + 2 < w3.heap.size) := ⟨W3, Z3.lt⟩
  have D3' : Hid (Blk Q 37 (PV R x0 x1 p0 p1 xa cn t.dn t.wr) w3 ∧ Blk (Q + 1) 28 (OD o.kind o.other o.file o.a o.b x o.data.length c) w3 ∧ Blk (Q + 2) 37 PZ w3) := ⟨D3, O3, Z3⟩
  clear D3 O3 Z3 W3
  go_wp2_with (refine step_load rfl 34 _ rfl Q 1 rfl (RV x0 x1 p0 p1 xa cn t.dn t.wr) _ (D3'.out.1.range 1 8) Try.underlying34 rfl (infoRv _ _ _ _ _ _ _ _) ?_)
  refine (RC.out _ W3'.out.1).mono ?_
  rintro e w4 ⟨ya, rfl, rn⟩
  have b4 : Below w3.heap.size w3 w4 := by obtain ⟨_, _, _, hb⟩ := rn; exact hb
  have D4 : Hid (Blk Q 37 (PV R x0 x1 p0 p1 xa cn t.dn t.wr) w4 ∧ Blk (Q + 1) 28 (OD o.kind o.other o.file o.a o.b x o.data.length c) w4 ∧ Blk (Q + 2) 37 PZ w4 ∧ RfNew T w3 res.1 x0 x1 p0 p1 ya cn w4) := ⟨D3'.out.1.below b4, D3'.out.2.1.below b4, D3'.out.2.2.below b4, rn⟩
  clear rn b4 a0 D3' RC a3 a4
  go_upto_region 5 with (refine step_store rfl 34 _ _ rfl Q 1 37 (PV R x0 x1 p0 p1 xa cn t.dn t.wr) (RV x0 x1 p0 p1 ya cn t.dn t.wr) rfl rfl D4.out.1 (Nat.le_refl _) (infoRv _ _ _ _ _ _ _ _) (oneRv _ _ _ _ _ _ _ _) ?_; intro w5 nb5 g5)
  have D5 : Hid (Blk Q 37 (PV R x0 x1 p0 p1 ya cn t.dn t.wr) w5 ∧ Blk (Q + 1) 28 (OD o.kind o.other o.file o.a o.b x o.data.length c) w5 ∧ Blk (Q + 2) 37 PZ w5 ∧ w4.grownBy w5 (some Q) ∧ DkIn w0 R S t w5) := ⟨nb5, D4.out.2.1.grown g5 (by omega), D4.out.2.2.1.grown g5 (by omega), g5, pr_mid H.out W3'.out.1 D4.out.2.2.2 g5 (Nat.le_of_eq HQ.out)⟩
  clear nb5 g5
  have CL : Hid (Calls Try.prog 34 #[.pointer (some ⟨R, 0, none⟩), .int .i64 o.a, .int .i64 o.b] w5.drew fun e w2 => e = .returned (.int .i64 res.2) ∧ DkPost R S w5 res.1 w2 ∧ Kp S w5.drew w2 ∧ Blk (Q + 2) 37 PZ w2) := (PC.out _ (D5.out.2.2.2.2.at_.below (Below.drew (Below.refl _ _)))).mono fun e w2 ⟨he, p⟩ => ⟨he, DkPost.pre (Below.drew (Below.refl _ _)) p, p.elim fun _ h => h.2.2, p.elim fun _ h => (D5.out.2.2.1.below (Below.drew (Below.refl _ _))).kp h.2.2 (SQ.out _ (by omega))⟩
  have eb : (res.2 == res.2) = true := by simp
  clear PC
  have KO : Hid (OS Q (PV R x0 x1 p0 p1 ya cn t.dn t.wr) (OD o.kind o.other o.file o.a o.b x o.data.length c) w5) := ⟨D5.out.1, D5.out.2.1, _, rfl, D5.out.2.2.1⟩
  refine wp_region_held_drew (S := fun w' => OS Q (PV R x0 x1 p0 p1 ya cn t.dn t.wr) (OD o.kind o.other o.file o.a o.b x o.data.length c) w') (by kernel_rfl) (KO.out.below (Below.drew (Below.refl _ _))) (fun hH => ?_)
  refine' wpAnyH_take (i := 0) (oi := { dst := some 22, op := Op.load 37 (Operand.tmp 2), type := 37, pos := "law.go:164", after := #[], guard := none }) (v := _) rfl (by kernel_rfl) (by kernel_rfl) (by kernel_rfl) (fun _ _ _ h => h) (yieldsIf_load_mid (by rfl) _ _ rfl _ _ rfl (PV R x0 x1 p0 p1 ya cn t.dn t.wr) _ (fun w' h => h.d.all) Try.underlying37 rfl (infoPr _ _ _ _ _ _ _ _ _)) hH ?_
  simp only [Act.put, List.setIfInBounds_toArray, List.set_cons_zero, List.set_cons_succ]
  refine wpAnyH_take (i := 1) (oi := { dst := some 23, op := Op.fieldAddr 37 (Operand.tmp 2) 0, type := 0, pos := "law.go:164", after := #[], guard := none }) (v := .pointer (some ⟨Q, 0, none⟩)) rfl (by kernel_rfl) (by kernel_rfl) (by kernel_rfl) (fun _ _ _ h => h) (Or.inl ⟨by rfl, fun w' hs => by go_simp⟩) hH ?_
  simp only [Act.put, List.setIfInBounds_toArray, List.set_cons_zero, List.set_cons_succ]
  refine wpAnyH_take (i := 2) (oi := { dst := some 24, op := Op.load 30 (Operand.tmp 23), type := 30, pos := "law.go:164", after := #[{ on := 1, ground := Ground.data }], guard := none }) (v := .pointer (some ⟨R, 0, none⟩)) rfl (by kernel_rfl) (by kernel_rfl) (by kernel_rfl) (fun _ _ _ h => h) (Or.inl ⟨by rfl, fun w' hs => by have c := hs.d.cell 0 _ rfl; go_simp⟩) hH ?_
  simp only [Act.put, List.setIfInBounds_toArray, List.set_cons_zero, List.set_cons_succ]
  refine wpAnyH_take (i := 3) (oi := { dst := some 25, op := Op.fieldAddr 28 (Operand.tmp 3) 3, type := 0, pos := "law.go:164", after := #[], guard := none }) (v := .pointer (some ⟨Q + 1, 3, none⟩)) rfl (by kernel_rfl) (by kernel_rfl) (by kernel_rfl) (fun _ _ _ h => h) (Or.inl ⟨by rfl, fun w' hs => by go_simp⟩) hH ?_
  simp only [Act.put, List.setIfInBounds_toArray, List.set_cons_zero, List.set_cons_succ]
  refine wpAnyH_take (i := 4) (oi := { dst := some 26, op := Op.load 3 (Operand.tmp 25), type := 3, pos := "law.go:164", after := #[{ on := 3, ground := Ground.data }], guard := none }) (v := .int .i64 o.a) rfl (by kernel_rfl) (by kernel_rfl) (by kernel_rfl) (fun _ _ _ h => h) (Or.inl ⟨by rfl, fun w' hs => by have c := hs.o.cell 3 _ rfl; go_simp⟩) hH ?_
  simp only [Act.put, List.setIfInBounds_toArray, List.set_cons_zero, List.set_cons_succ]
  refine wpAnyH_take (i := 5) (oi := { dst := some 27, op := Op.fieldAddr 28 (Operand.tmp 3) 4, type := 0, pos := "law.go:164", after := #[], guard := none }) (v := .pointer (some ⟨Q + 1, 4, none⟩)) rfl (by kernel_rfl) (by kernel_rfl) (by kernel_rfl) (fun _ _ _ h => h) (Or.inl ⟨by rfl, fun w' hs => by go_simp⟩) hH ?_
  simp only [Act.put, List.setIfInBounds_toArray, List.set_cons_zero, List.set_cons_succ]
  refine wpAnyH_take (i := 6) (oi := { dst := some 28, op := Op.load 3 (Operand.tmp 27), type := 3, pos := "law.go:164", after := #[{ on := 5, ground := Ground.data }], guard := none }) (v := .int .i64 o.b) rfl (by kernel_rfl) (by kernel_rfl) (by kernel_rfl) (fun _ _ _ h => h) (Or.inl ⟨by rfl, fun w' hs => by have c := hs.o.cell 4 _ rfl; go_simp⟩) hH ?_
  simp only [Act.put, List.setIfInBounds_toArray, List.set_cons_zero, List.set_cons_succ]
  refine wpAnyH_take (i := 8) (oi := { dst := some 30, op := Op.move (Operand.tmp 6), type := 3, pos := "law.go:164", after := #[{ on := 10, ground := Ground.gcOnly Departure.lateStores }], guard := none }) (v := .int .i64 res.2) rfl (by kernel_rfl) (by kernel_rfl) (by kernel_rfl) (fun _ _ _ h => h) (Or.inl ⟨by rfl, fun w' hs => by go_simp⟩) hH ?_
  simp only [Act.put, List.setIfInBounds_toArray, List.set_cons_zero, List.set_cons_succ]
  refine wpAnyH_ready (rs := [7]) (by kernel_rfl) (by simp) ?_
  refine AllReadyH.cons (o := { dst := some 29, op := Op.call { callee := Callee.value (Operand.func 34), args := #[Operand.tmp 24, Operand.tmp 26, Operand.tmp 28], argTypes := #[30, 3, 3] }, type := 54, pos := "law.go:164", after := #[{ on := 2, ground := Ground.data }, { on := 4, ground := Ground.data }, { on := 6, ground := Ground.data }], guard := none }) rfl (fun K hK => ?_) AllReadyH.nil
  go_simp
  refine CL.out.mono ?_
  rintro e w8 ⟨rfl, p8, hU, z8⟩
  have O8 : Hid (OS Q (PV R x0 x1 p0 p1 ya cn t.dn t.wr) (OD o.kind o.other o.file o.a o.b x o.data.length c) w8 ∧ DkPost R S w5 res.1 w8) := ⟨hH.kp hU SQ.out, p8⟩
  refine hK.out _ _ O8.out.1 (fun hH => ?_)
  refine wpAnyH_take (i := 9) (oi := { dst := some 31, op := Op.binOp BinOp.eql 3 (Operand.tmp 29) (Operand.tmp 30) 3, type := 4, pos := "law.go:164", after := #[{ on := 7, ground := Ground.data }, { on := 8, ground := Ground.data }, { on := 10, ground := Ground.gcOnly Departure.lateStores }], guard := none }) (v := .bool true) rfl (by kernel_rfl) (by kernel_rfl) (by kernel_rfl) (fun _ _ _ h => h) (Or.inl ⟨by rfl, fun w' hs => by go_simp⟩) hH ?_
  simp only [Act.put, List.setIfInBounds_toArray, List.set_cons_zero, List.set_cons_succ]
  refine wpAnyH_ready (rs := [10]) (by kernel_rfl) (by simp) ?_
  refine AllReadyH.cons (o := { dst := none, op := Op.store 37 (Operand.tmp 4) (Operand.tmp 22), type := 0, pos := "law.go:164", after := #[{ on := 0, ground := Ground.data }, { on := 7, ground := Ground.chain }, { on := 0, ground := Ground.phase }, { on := 1, ground := Ground.textOnly Departure.lateStores }, { on := 2, ground := Ground.textOnly Departure.lateStores }, { on := 3, ground := Ground.textOnly Departure.lateStores }, { on := 4, ground := Ground.textOnly Departure.lateStores }, { on := 5, ground := Ground.textOnly Departure.lateStores }, { on := 6, ground := Ground.textOnly Departure.lateStores }, { on := 7, ground := Ground.textOnly Departure.lateStoresUnsure }, { on := 8, ground := Ground.textOnly Departure.lateStores }, { on := 9, ground := Ground.textOnly Departure.lateStores }], guard := none }) rfl (fun K hK => ?_) AllReadyH.nil
  obtain ⟨zs, zl, zb⟩ := hH.z
  refine op_putP (PV R x0 x1 p0 p1 ya cn t.dn t.wr) (by rw [zl]; rfl) (infoPr _ _ _ _ _ _ _ _ _) (onePv _ _ _ _ _ _ _ _ _) rfl _ _ rfl (Q + 2) rfl rfl zb ?_
  intro w9 b9 g9
  refine hK.out _ _ ⟨hH.d.grown g9 (by omega), hH.o.grown g9 (by omega), _, rfl, b9⟩ (fun hH => ?_)
  refine wpAnyH_take (i := 11) (oi := { dst := some 5, op := Op.assign (Operand.tmp 31), type := 4, pos := "law.go:164", after := #[{ on := 9, ground := Ground.data }, { on := 10, ground := Ground.chain }, { on := 0, ground := Ground.phase }, { on := 1, ground := Ground.phase }, { on := 2, ground := Ground.phase }, { on := 3, ground := Ground.phase }, { on := 4, ground := Ground.phase }, { on := 5, ground := Ground.phase }, { on := 6, ground := Ground.phase }, { on := 7, ground := Ground.phase }, { on := 8, ground := Ground.phase }, { on := 9, ground := Ground.phase }, { on := 10, ground := Ground.phase }], guard := none }) (v := .bool true) rfl (by kernel_rfl) (by kernel_rfl) (by kernel_rfl) (fun _ _ _ h => h) (Or.inl ⟨by rfl, fun w' hs => by go_simp⟩) hH ?_
  simp only [Act.put, List.setIfInBounds_toArray, List.set_cons_zero, List.set_cons_succ]
  refine wpAnyH_done (by kernel_rfl) ?_ _
  have N9 : Hid (Blk (Q + 2) 37 (PV R x0 x1 p0 p1 ya cn t.dn t.wr) w9 ∧ PrPost w0 R S T w res.1 x0 x1 p0 p1 ya cn w9) := ⟨b9, pr_end H.out W3'.out.1 D4.out.2.2.2 D5.out.2.2.2.1 (Nat.le_of_eq HQ.out) O8.out.2 g9 W3'.out.2⟩
  clear hH hK O8 KO b9 g9 CL D5 D4 hU p8 z8
  go_wp2_with fail
  exact bodyPost_cell_tmp rfl rfl (Q + 2) _ _ _ _ rfl N9.out.1 Try.underlying37 rfl (by kernel_rfl) ⟨x0, x1, p0, p1, ya, cn, by rw [HD.out.1, HD.out.2]; rfl, N9.out.2⟩

set_option maxRecDepth 100000 in
set_option maxHeartbeats 2000000 in
theorem order_restart (w0 : World) (R : Nat) (S T : Nat → Prop) (t : Dk) (x0 x1 p0 p1 xa : Sl) (cn : Int) (w : World) (h : PrIn w0 R S T t x0 x1 p0 p1 xa cn w) (_hw : 0 ≤ t.wr ∧ t.wr < 4611686018427387904) (o : OpD) (x : Option Addr) (c : Nat) (hk : o.kind = 9) :
    Calls Try.prog 17 #[.agg (PV R x0 x1 p0 p1 xa cn t.dn t.wr).toArray, opd o x c] w fun e w' => ∃ y0 y1 q0 q1 ya cm, e = .returned (.tuple #[.agg (PV R y0 y1 q0 q1 ya cm ((t.restart).1).dn ((t.restart).1).wr).toArray, .bool true]) ∧ PrPost w0 R S T w ((t.restart).1) y0 y1 q0 q1 ya cm w' := by
  have W3 := below3 w (PV R x0 x1 p0 p1 xa cn t.dn t.wr) (OD o.kind o.other o.file o.a o.b x o.data.length c) PZ 37 28 37
  obtain ⟨D3, O3, Z3⟩ := blk3 w (PV R x0 x1 p0 p1 xa cn t.dn t.wr) (OD o.kind o.other o.file o.a o.b x o.data.length c) PZ 37 28 37
  unfold opd
  have H : Hid (PrIn w0 R S T t x0 x1 p0 p1 xa cn w) := h
  have ok := h.d.at_.1
  have WQ : Hid (w0.heap.size ≤ w.heap.size) := h.d.bel.size
  clear h
  obtain ⟨res, hres⟩ : ∃ r, t.restart = r := ⟨_, rfl⟩
  rw [hres]
  have HD : Hid (res.1.dn = false ∧ res.1.wr = t.wr) := by rw [← hres]; exact ⟨(restart_as t).1, (restart_as t).2.1⟩
  have RC : Hid (∀ w', Below w.heap.size w w' → Calls Try.prog 37 #[.agg (RV x0 x1 p0 p1 xa cn t.dn t.wr).toArray] w' fun e w2 => e = .returned (.tuple #[.agg (RV x0 x1 p0 p1 xa cn false t.wr).toArray, .int .i64 res.2]) ∧ RfNew T w' res.1 x0 x1 p0 p1 xa cn w2) := fun w' hb => (rrestart_at x0 x1 p0 p1 xa cn t.dn t.wr w').mono fun e w2 ⟨he, b2⟩ => ⟨by rw [he, ← hres, (restart_as t).2.2], by rw [← hres]; exact ⟨T, (H.out.r.below (below_trans hb b2)).restart, fun _ h => .inl h, b2⟩⟩
  have PC : Hid (∀ w', DkAt R S t w' → Calls Try.prog 38 #[.pointer (some ⟨R, 0, none⟩)] w' fun e w2 => e = .returned (.int .i64 res.2) ∧ DkPost R S w' res.1 w2) := fun w' h1 => by rw [← hres]; exact restart_at R S t w' h1
  clear ok hres
  have kb7 : (o.kind == 7) = false := by rw [hk]; rfl
  have kb8 : (o.kind == 8) = false := by rw [hk]; rfl
  have kb9 : (o.kind == 9) = true := by rw [hk]; rfl
  clear hk
  go_enter Try.func17, Try.ntmps17
  go_upto_region 1 with fail
  generalize ((w.alloc (.cells (PV R x0 x1 p0 p1 xa cn t.dn t.wr).toArray 37)).alloc (.cells (OD o.kind o.other o.file o.a o.b x o.data.length c).toArray 28)).alloc (.cells PZ.toArray 37) = w3 at *
  obtain ⟨Q, hQ⟩ : ∃ Q, w.heap.size = Q := ⟨_, rfl⟩
  rw [hQ] at D3 O3 Z3 ⊢
  have HQ : Hid (w.heap.size = Q) := hQ
  clear hQ
  have NS : Hid (∀ g, Q ≤ g → ¬ S g ∧ ¬ T g) := fun g hg => ⟨fun hs => by have := H.out.d.at_.size g hs; have := HQ.out; omega, fun hs => by have := H.out.r.s g hs; have := HQ.out; omega⟩
  have SQ : Hid (∀ g, Q ≤ g → ¬ S g) := fun g hg => (NS.out g hg).1
  have a0 := O3.cell 0 _ rfl
  have W3' : Hid (Below w.heap.size w w3 ∧ Q + 2 < w3.heap.size) := ⟨W3, Z3.lt⟩
  have D3' : Hid (Blk Q 37 (PV R x0 x1 p0 p1 xa cn t.dn t.wr) w3 ∧ Blk (Q + 1) 28 (OD o.kind o.other o.file o.a o.b x o.data.length c) w3 ∧ Blk (Q + 2) 37 PZ w3) := ⟨D3, O3, Z3⟩
  clear D3 O3 Z3 W3
  go_wp2_with (refine step_load rfl 34 _ rfl Q 1 rfl (RV x0 x1 p0 p1 xa cn t.dn t.wr) _ (D3'.out.1.range 1 8) Try.underlying34 rfl (infoRv _ _ _ _ _ _ _ _) ?_)
  refine (RC.out _ W3'.out.1).mono ?_
  rintro e w4 ⟨rfl, rn⟩
  have b4 : Below w3.heap.size w3 w4 := by obtain ⟨_, _, _, hb⟩ := rn; exact hb
  have D4 : Hid (Blk Q 37 (PV R x0 x1 p0 p1 xa cn t.dn t.wr) w4 ∧ Blk (Q + 1) 28 (OD o.kind o.other o.file o.a o.b x o.data.length c) w4 ∧ Blk (Q + 2) 37 PZ w4 ∧ RfNew T w3 res.1 x0 x1 p0 p1 xa cn w4) := ⟨D3'.out.1.below b4, D3'.out.2.1.below b4, D3'.out.2.2.below b4, rn⟩
  clear rn b4 a0 D3' RC
  go_upto_region 11 with (refine step_store rfl 34 _ _ rfl Q 1 37 (PV R x0 x1 p0 p1 xa cn t.dn t.wr) (RV x0 x1 p0 p1 xa cn false t.wr) rfl rfl D4.out.1 (Nat.le_refl _) (infoRv _ _ _ _ _ _ _ _) (oneRv _ _ _ _ _ _ _ _) ?_; intro w5 nb5 g5)
  have D5 : Hid (Blk Q 37 (PV R x0 x1 p0 p1 xa cn false t.wr) w5 ∧ Blk (Q + 1) 28 (OD o.kind o.other o.file o.a o.b x o.data.length c) w5 ∧ Blk (Q + 2) 37 PZ w5 ∧ w4.grownBy w5 (some Q) ∧ DkIn w0 R S t w5) := ⟨nb5, D4.out.2.1.grown g5 (by omega), D4.out.2.2.1.grown g5 (by omega), g5, pr_mid H.out W3'.out.1 D4.out.2.2.2 g5 (Nat.le_of_eq HQ.out)⟩
  clear nb5 g5
  have CL : Hid (Calls Try.prog 38 #[.pointer (some ⟨R, 0, none⟩)] w5.drew fun e w2 => e = .returned (.int .i64 res.2) ∧ DkPost R S w5 res.1 w2 ∧ Kp S w5.drew w2 ∧ Blk (Q + 2) 37 PZ w2) := (PC.out _ (D5.out.2.2.2.2.at_.below (Below.drew (Below.refl _ _)))).mono fun e w2 ⟨he, p⟩ => ⟨he, DkPost.pre (Below.drew (Below.refl _ _)) p, p.elim fun _ h => h.2.2, p.elim fun _ h => (D5.out.2.2.1.below (Below.drew (Below.refl _ _))).kp h.2.2 (SQ.out _ (by omega))⟩
  have eb : (res.2 == res.2) = true := by simp
  clear PC
  have KO : Hid (OS Q (PV R x0 x1 p0 p1 xa cn false t.wr) (OD o.kind o.other o.file o.a o.b x o.data.length c) w5) := ⟨D5.out.1, D5.out.2.1, _, rfl, D5.out.2.2.1⟩
  refine wp_region_held_drew (S := fun w' => OS Q (PV R x0 x1 p0 p1 xa cn false t.wr) (OD o.kind o.other o.file o.a o.b x o.data.length c) w') (by kernel_rfl) (KO.out.below (Below.drew (Below.refl _ _))) (fun hH => ?_)
  refine' wpAnyH_take (i := 0) (oi := { dst := some 50, op := Op.load 37 (Operand.tmp 2), type := 37, pos := "law.go:170", after := #[], guard := none }) (v := _) rfl (by kernel_rfl) (by kernel_rfl) (by kernel_rfl) (fun _ _ _ h => h) (yieldsIf_load_mid (by rfl) _ _ rfl _ _ rfl (PV R x0 x1 p0 p1 xa cn false t.wr) _ (fun w' h => h.d.all) Try.underlying37 rfl (infoPr _ _ _ _ _ _ _ _ _)) hH ?_
  simp only [Act.put, List.setIfInBounds_toArray, List.set_cons_zero, List.set_cons_succ]
  refine wpAnyH_take (i := 1) (oi := { dst := some 51, op := Op.fieldAddr 37 (Operand.tmp 2) 0, type := 0, pos := "law.go:170", after := #[], guard := none }) (v := .pointer (some ⟨Q, 0, none⟩)) rfl (by kernel_rfl) (by kernel_rfl) (by kernel_rfl) (fun _ _ _ h => h) (Or.inl ⟨by rfl, fun w' hs => by go_simp⟩) hH ?_
  simp only [Act.put, List.setIfInBounds_toArray, List.set_cons_zero, List.set_cons_succ]
  refine wpAnyH_take (i := 2) (oi := { dst := some 52, op := Op.load 30 (Operand.tmp 51), type := 30, pos := "law.go:170", after := #[{ on := 1, ground := Ground.data }], guard := none }) (v := .pointer (some ⟨R, 0, none⟩)) rfl (by kernel_rfl) (by kernel_rfl) (by kernel_rfl) (fun _ _ _ h => h) (Or.inl ⟨by rfl, fun w' hs => by have c := hs.d.cell 0 _ rfl; go_simp⟩) hH ?_
  simp only [Act.put, List.setIfInBounds_toArray, List.set_cons_zero, List.set_cons_succ]
  refine wpAnyH_take (i := 4) (oi := { dst := some 54, op := Op.move (Operand.tmp 6), type := 3, pos := "law.go:170", after := #[{ on := 6, ground := Ground.gcOnly Departure.lateStores }], guard := none }) (v := .int .i64 res.2) rfl (by kernel_rfl) (by kernel_rfl) (by kernel_rfl) (fun _ _ _ h => h) (Or.inl ⟨by rfl, fun w' hs => by go_simp⟩) hH ?_
  simp only [Act.put, List.setIfInBounds_toArray, List.set_cons_zero, List.set_cons_succ]
  refine wpAnyH_ready (rs := [3]) (by kernel_rfl) (by simp) ?_
  refine AllReadyH.cons (o := { dst := some 53, op := Op.call { callee := Callee.value (Operand.func 38), args := #[Operand.tmp 52], argTypes := #[30] }, type := 54, pos := "law.go:170", after := #[{ on := 2, ground := Ground.data }], guard := none }) rfl (fun K hK => ?_) AllReadyH.nil
  go_simp
  refine CL.out.mono ?_
  rintro e w8 ⟨rfl, p8, hU, z8⟩
  have O8 : Hid (OS Q (PV R x0 x1 p0 p1 xa cn false t.wr) (OD o.kind o.other o.file o.a o.b x o.data.length c) w8 ∧ DkPost R S w5 res.1 w8) := ⟨hH.kp hU SQ.out, p8⟩
  refine hK.out _ _ O8.out.1 (fun hH => ?_)
  refine wpAnyH_take (i := 5) (oi := { dst := some 55, op := Op.binOp BinOp.eql 3 (Operand.tmp 53) (Operand.tmp 54) 3, type := 4, pos := "law.go:170", after := #[{ on := 3, ground := Ground.data }, { on := 4, ground := Ground.data }, { on := 6, ground := Ground.gcOnly Departure.lateStores }], guard := none }) (v := .bool true) rfl (by kernel_rfl) (by kernel_rfl) (by kernel_rfl) (fun _ _ _ h => h) (Or.inl ⟨by rfl, fun w' hs => by go_simp⟩) hH ?_
  simp only [Act.put, List.setIfInBounds_toArray, List.set_cons_zero, List.set_cons_succ]
  refine wpAnyH_ready (rs := [6]) (by kernel_rfl) (by simp) ?_
  refine AllReadyH.cons (o := { dst := none, op := Op.store 37 (Operand.tmp 4) (Operand.tmp 50), type := 0, pos := "law.go:170", after := #[{ on := 0, ground := Ground.data }, { on := 3, ground := Ground.chain }, { on := 0, ground := Ground.phase }, { on := 1, ground := Ground.textOnly Departure.lateStores }, { on := 2, ground := Ground.textOnly Departure.lateStores }, { on := 3, ground := Ground.textOnly Departure.lateStoresUnsure }, { on := 4, ground := Ground.textOnly Departure.lateStores }, { on := 5, ground := Ground.textOnly Departure.lateStores }], guard := none }) rfl (fun K hK => ?_) AllReadyH.nil
  obtain ⟨zs, zl, zb⟩ := hH.z
  refine op_putP (PV R x0 x1 p0 p1 xa cn false t.wr) (by rw [zl]; rfl) (infoPr _ _ _ _ _ _ _ _ _) (onePv _ _ _ _ _ _ _ _ _) rfl _ _ rfl (Q + 2) rfl rfl zb ?_
  intro w9 b9 g9
  refine hK.out _ _ ⟨hH.d.grown g9 (by omega), hH.o.grown g9 (by omega), _, rfl, b9⟩ (fun hH => ?_)
  refine wpAnyH_take (i := 7) (oi := { dst := some 5, op := Op.assign (Operand.tmp 55), type := 4, pos := "law.go:170", after := #[{ on := 5, ground := Ground.data }, { on := 6, ground := Ground.chain }, { on := 0, ground := Ground.phase }, { on := 1, ground := Ground.phase }, { on := 2, ground := Ground.phase }, { on := 3, ground := Ground.phase }, { on := 4, ground := Ground.phase }, { on := 5, ground := Ground.phase }, { on := 6, ground := Ground.phase }], guard := none }) (v := .bool true) rfl (by kernel_rfl) (by kernel_rfl) (by kernel_rfl) (fun _ _ _ h => h) (Or.inl ⟨by rfl, fun w' hs => by go_simp⟩) hH ?_
  simp only [Act.put, List.setIfInBounds_toArray, List.set_cons_zero, List.set_cons_succ]
  refine wpAnyH_done (by kernel_rfl) ?_ _
  have N9 : Hid (Blk (Q + 2) 37 (PV R x0 x1 p0 p1 xa cn false t.wr) w9 ∧ PrPost w0 R S T w res.1 x0 x1 p0 p1 xa cn w9) := ⟨b9, pr_end H.out W3'.out.1 D4.out.2.2.2 D5.out.2.2.2.1 (Nat.le_of_eq HQ.out) O8.out.2 g9 W3'.out.2⟩
  clear hH hK O8 KO b9 g9 CL D5 D4 hU p8 z8
  go_wp2_with fail
  exact bodyPost_cell_tmp rfl rfl (Q + 2) _ _ _ _ rfl N9.out.1 Try.underlying37 rfl (by kernel_rfl) ⟨x0, x1, p0, p1, xa, cn, by rw [HD.out.1, HD.out.2]; rfl, N9.out.2⟩

set_option maxRecDepth 100000 in
set_option maxHeartbeats 2000000 in
theorem order_disarm (w0 : World) (R : Nat) (S T : Nat → Prop) (t : Dk) (x0 x1 p0 p1 xa : Sl) (cn : Int) (w : World) (h : PrIn w0 R S T t x0 x1 p0 p1 xa cn w) (_hw : 0 ≤ t.wr ∧ t.wr < 4611686018427387904) (o : OpD) (x : Option Addr) (c : Nat) (hk : o.kind = 8) :
    Calls Try.prog 17 #[.agg (PV R x0 x1 p0 p1 xa cn t.dn t.wr).toArray, opd o x c] w fun e w' => ∃ y0 y1 q0 q1 ya cm, e = .returned (.tuple #[.agg (PV R y0 y1 q0 q1 ya cm (((({ t with q := [] } : Dk), (0 : Int))).1).dn (((({ t with q := [] } : Dk), (0 : Int))).1).wr).toArray, .bool true]) ∧ PrPost w0 R S T w (((({ t with q := [] } : Dk), (0 : Int))).1) y0 y1 q0 q1 ya cm w' := by
  have W3 := below3 w (PV R x0 x1 p0 p1 xa cn t.dn t.wr) (OD o.kind o.other o.file o.a o.b x o.data.length c) PZ 37 28 37
  obtain ⟨D3, O3, Z3⟩ := blk3 w (PV R x0 x1 p0 p1 xa cn t.dn t.wr) (OD o.kind o.other o.file o.a o.b x o.data.length c) PZ 37 28 37
  unfold opd
  have H : Hid (PrIn w0 R S T t x0 x1 p0 p1 xa cn w) := h
  have ok := h.d.at_.1
  have WQ : Hid (w0.heap.size ≤ w.heap.size) := h.d.bel.size
  clear h
  obtain ⟨res, hres⟩ : ∃ r, (({ t with q := [] } : Dk), (0 : Int)) = r := ⟨_, rfl⟩
  rw [hres]
  have HD : Hid (res.1.dn = t.dn ∧ res.1.wr = t.wr) := by rw [← hres]; exact ⟨rfl, rfl⟩
  have RC : Hid (∀ w', Below w.heap.size w w' → Calls Try.prog 35 #[.agg (RV x0 x1 p0 p1 xa cn t.dn t.wr).toArray] w' fun e w2 => e = .returned (.agg (RV x0 x1 p0 p1 Sl.z 0 t.dn t.wr).toArray) ∧ RfNew T w' res.1 x0 x1 p0 p1 Sl.z 0 w2) := fun w' hb => (rdisarm_at x0 x1 p0 p1 xa cn t.dn t.wr w').mono fun e w2 ⟨he, b2⟩ => ⟨he, by rw [← hres]; exact ⟨T, (H.out.r.below (below_trans hb b2)).disarm, fun _ h => .inl h, b2⟩⟩
  have PC : Hid (∀ w', DkAt R S t w' → Calls Try.prog 36 #[.pointer (some ⟨R, 0, none⟩)] w' fun e w2 => e = .returned (.tuple #[]) ∧ DkPost R S w' res.1 w2) := fun w' h1 => by rw [← hres]; exact disarm_at R S t w' h1
  clear ok hres
  have kb7 : (o.kind == 7) = false := by rw [hk]; rfl
  have kb8 : (o.kind == 8) = true := by rw [hk]; rfl
  clear hk
  go_enter Try.func17, Try.ntmps17
  go_upto_region 1 with fail
  generalize ((w.alloc (.cells (PV R x0 x1 p0 p1 xa cn t.dn t.wr).toArray 37)).alloc (.cells (OD o.kind o.other o.file o.a o.b x o.data.length c).toArray 28)).alloc (.cells PZ.toArray 37) = w3 at *
  obtain ⟨Q, hQ⟩ : ∃ Q, w.heap.size = Q := ⟨_, rfl⟩
  rw [hQ] at D3 O3 Z3 ⊢
  have HQ : Hid (w.heap.size = Q) := hQ
  clear hQ
  have NS : Hid (∀ g, Q ≤ g → ¬ S g ∧ ¬ T g) := fun g hg => ⟨fun hs => by have := H.out.d.at_.size g hs; have := HQ.out; omega, fun hs => by have := H.out.r.s g hs; have := HQ.out; omega⟩
  have SQ : Hid (∀ g, Q ≤ g → ¬ S g) := fun g hg => (NS.out g hg).1
  have a0 := O3.cell 0 _ rfl
  have W3' : Hid (Below w.heap.size w w3 ∧ Q + 2 < w3.heap.size) := ⟨W3, Z3.lt⟩
  have D3' : Hid (Blk Q 37 (PV R x0 x1 p0 p1 xa cn t.dn t.wr) w3 ∧ Blk (Q + 1) 28 (OD o.kind o.other o.file o.a o.b x o.data.length c) w3 ∧ Blk (Q + 2) 37 PZ w3) := ⟨D3, O3, Z3⟩
  clear D3 O3 Z3 W3
  go_wp2_with (refine step_load rfl 34 _ rfl Q 1 rfl (RV x0 x1 p0 p1 xa cn t.dn t.wr) _ (D3'.out.1.range 1 8) Try.underlying34 rfl (infoRv _ _ _ _ _ _ _ _) ?_)
  refine (RC.out _ W3'.out.1).mono ?_
  rintro e w4 ⟨rfl, rn⟩
  have b4 : Below w3.heap.size w3 w4 := by obtain ⟨_, _, _, hb⟩ := rn; exact hb
  have D4 : Hid (Blk Q 37 (PV R x0 x1 p0 p1 xa cn t.dn t.wr) w4 ∧ Blk (Q + 1) 28 (OD o.kind o.other o.file o.a o.b x o.data.length c) w4 ∧ Blk (Q + 2) 37 PZ w4 ∧ RfNew T w3 res.1 x0 x1 p0 p1 Sl.z 0 w4) := ⟨D3'.out.1.below b4, D3'.out.2.1.below b4, D3'.out.2.2.below b4, rn⟩
  clear rn b4 a0 D3' RC
  go_upto_region 8 with (refine step_store rfl 34 _ _ rfl Q 1 37 (PV R x0 x1 p0 p1 xa cn t.dn t.wr) (RV x0 x1 p0 p1 Sl.z 0 t.dn t.wr) rfl rfl D4.out.1 (Nat.le_refl _) (infoRv _ _ _ _ _ _ _ _) (oneRv _ _ _ _ _ _ _ _) ?_; intro w5 nb5 g5)
  have D5 : Hid (Blk Q 37 (PV R x0 x1 p0 p1 Sl.z 0 t.dn t.wr) w5 ∧ Blk (Q + 2) 37 PZ w5 ∧ w4.grownBy w5 (some Q) ∧ DkIn w0 R S t w5) := ⟨nb5, D4.out.2.2.1.grown g5 (by omega), g5, pr_mid H.out W3'.out.1 D4.out.2.2.2 g5 (Nat.le_of_eq HQ.out)⟩
  clear nb5 g5
  have d0 := D5.out.1.cell 0 _ rfl
  go_wp2_with fail
  refine (PC.out _ D5.out.2.2.2.at_).mono ?_
  rintro e w8 ⟨rfl, p8⟩
  have Z8 : Hid (Blk Q 37 (PV R x0 x1 p0 p1 Sl.z 0 t.dn t.wr) w8 ∧ Blk (Q + 2) 37 PZ w8 ∧ DkPost R S w5 res.1 w8) := p8.elim fun _ h => ⟨D5.out.1.kp h.2.2 (SQ.out _ (Nat.le_refl _)), D5.out.2.1.kp h.2.2 (SQ.out _ (by omega)), p8⟩
  clear p8 d0 PC
  go_wp2_with (first
    | (refine step_load rfl 37 _ rfl Q 0 rfl (PV R x0 x1 p0 p1 Sl.z 0 t.dn t.wr) _ (Z8.out.1.range 0 9) Try.underlying37 rfl (infoPr _ _ _ _ _ _ _ _ _) ?_)
    | (refine step_store rfl 37 _ _ rfl (Q + 2) 0 37 PZ (PV R x0 x1 p0 p1 Sl.z 0 t.dn t.wr) rfl rfl Z8.out.2.1 (Nat.le_refl _) (infoPr _ _ _ _ _ _ _ _ _) (onePv _ _ _ _ _ _ _ _ _) ?_; intro w9 b9 g9))
  have N9 : Hid (Blk (Q + 2) 37 (PV R x0 x1 p0 p1 Sl.z 0 t.dn t.wr) w9 ∧ PrPost w0 R S T w res.1 x0 x1 p0 p1 Sl.z 0 w9) := ⟨b9, pr_end H.out W3'.out.1 D4.out.2.2.2 D5.out.2.2.1 (Nat.le_of_eq HQ.out) Z8.out.2.2 g9 W3'.out.2⟩
  exact bodyPost_cell_tmp rfl rfl (Q + 2) _ _ _ _ rfl N9.out.1 Try.underlying37 rfl (by kernel_rfl) ⟨x0, x1, p0, p1, Sl.z, 0, by rw [HD.out.1, HD.out.2]; rfl, N9.out.2⟩
end Go.Proofs.Ytiefnomldfhhnaa
