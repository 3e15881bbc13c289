/-
  Ours: order's Down and Writes.
-/
import Derived.Test.YtiefnomldfhhnaaDskStp
import Derived.Deep.RegionHeld
namespace Go.Proofs.Ytiefnomldfhhnaa
open Go.RowKit

/-- A pair at Q, the operation at Q + 1, the answer's place at Q + 2. -/
structure OS (Q : Nat) (pv od : List Value) (w : World) : Prop where
  d : Blk Q 37 pv w
  o : Blk (Q + 1) 28 od w
  z : ∃ zs, zs.length = 9 ∧ Blk (Q + 2) 37 zs w
theorem OS.below {Q : Nat} {pv od : List Value} {w w' : World} (h : OS Q pv od w) (b : Below w.heap.size w w') : OS Q pv od w' := ⟨h.d.below b, h.o.below b, h.z.elim fun zs h => ⟨zs, h.1, h.2.below b⟩⟩
theorem OS.kp {Q : Nat} {pv od : List Value} {w w' : World} {M : Nat → Prop} (h : OS Q pv od w) (k : Kp M w w') (hM : ∀ g, Q ≤ g → ¬ M g) : OS Q pv od w' := ⟨h.d.kp k (hM _ (Nat.le_refl _)), h.o.kp k (hM _ (by omega)), h.z.elim fun zs h => ⟨zs, h.1, h.2.kp k (hM _ (by omega))⟩⟩
theorem op_putP {ops : Array Oper} {op : Oper} {a : Act} {wr : World} {K : Act → World → Prop} {Q : Exit → Act → World → Prop} {E : Prop} {T : TypeId} {zs : List Value} (vs : List Value) (hl : vs.length = zs.length) (hi : (Try.prog.info? T).map (·.size) = some vs.length) (h1 : ∀ v ∈ vs, v.oneCell' = true) (hgd : op.guard = Option.none) (x y : Operand) (ho : op.op = .store T x y)
    (G : Nat) (hx : a.eval x = .pointer (some ⟨G, 0, Option.none⟩)) (hy : a.eval y = .agg vs.toArray) (hb : Blk G T zs wr)
    (h : ∀ w', Blk G T vs w' → wr.grownBy w' (some G) → K (a.put op.dst undef) w') : if Region.wanted op (yielded ops a.tmps) = true then Oper.wp Try.prog op a wr K Q else E := by
  have hwd : Region.wanted op (yielded ops a.tmps) = true := by simp [Region.wanted, hgd]
  rw [if_pos hwd]
  unfold Oper.wp execOp
  simp only [ho, hx, hy, Instr.storeAt, Instr.sureAddr, Sem.run_bind, Sem.run_pure, Result.andThen_ok, run_storeVar_blk wr G 0 T T zs vs hb (by omega) hi h1]
  have nb := setRow_heap wr G _ (zs.take 0 ++ vs ++ zs.drop (0 + vs.length)).toArray T _ hb
  have g := setRow_grown wr G (zs.take 0 ++ vs ++ zs.drop (0 + vs.length)).toArray
  have e : zs.take 0 ++ vs ++ zs.drop (0 + vs.length) = vs := by rw [Nat.zero_add, hl, List.drop_length]; simp
  rw [e] at nb g ⊢
  exact h _ nb g

set_option maxRecDepth 100000 in
set_option maxHeartbeats 2000000 in
theorem order_down (w0 : World) (R : Nat) (S T : Nat → Prop) (t : Dk) (x0 x1 p0 p1 xa : Sl) (cn : Int) (w : World) (h : PrIn w0 R S T t x0 x1 p0 p1 xa cn w) (_hw : 0 ≤ t.wr ∧ t.wr < 4611686018427387904) (o : OpD) (x : Option Addr) (c : Nat) (hk : o.kind = 10) :
    Calls Try.prog 17 #[.agg (PV R x0 x1 p0 p1 xa cn t.dn t.wr).toArray, opd o x c] w fun e w' => ∃ y0 y1 q0 q1 ya cm, e = .returned (.tuple #[.agg (PV R y0 y1 q0 q1 ya cm (t).dn (t).wr).toArray, .bool true]) ∧ PrPost w0 R S T w (t) y0 y1 q0 q1 ya cm w' := by
  have W3 := below3 w (PV R x0 x1 p0 p1 xa cn t.dn t.wr) (OD o.kind o.other o.file o.a o.b x o.data.length c) PZ 37 28 37
  obtain ⟨D3, O3, Z3⟩ := blk3 w (PV R x0 x1 p0 p1 xa cn t.dn t.wr) (OD o.kind o.other o.file o.a o.b x o.data.length c) PZ 37 28 37
  unfold opd
  have H : Hid (PrIn w0 R S T t x0 x1 p0 p1 xa cn w) := h
  have ok := h.d.at_.1
  have WQ : Hid (w0.heap.size ≤ w.heap.size) := h.d.bel.size
  clear h
  have CL : Hid (∀ w', Below w.heap.size w w' → Calls Try.prog 39 #[.pointer (some ⟨R, 0, none⟩)] w' fun e w2 => e = .returned (.bool t.dn) ∧ Kp S w' w2 ∧ Below w'.heap.size w' w2) := fun w' hb => (down_at R S t w' (H.out.d.at_.below hb)).mono fun e w2 ⟨he, hw⟩ => ⟨he, by rw [hw]; exact Kp.refl _ _, by rw [hw]; exact Below.refl _ _⟩
  have eb : (t.dn == t.dn) = true := by simp
  have kb7 : (o.kind == 7) = false := by rw [hk]; rfl
  have kb8 : (o.kind == 8) = false := by rw [hk]; rfl
  have kb9 : (o.kind == 9) = false := by rw [hk]; rfl
  have kb10 : (o.kind == 10) = true := by rw [hk]; rfl
  clear hk
  go_enter Try.func17, Try.ntmps17
  go_upto_region 1 with fail
  generalize ((w.alloc (.cells (PV R x0 x1 p0 p1 xa cn t.dn t.wr).toArray 37)).alloc (.cells (OD o.kind o.other o.file o.a o.b x o.data.length c).toArray 28)).alloc (.cells PZ.toArray 37) = w3 at *
  obtain ⟨Q, hQ⟩ : ∃ Q, w.heap.size = Q := ⟨_, rfl⟩
  rw [hQ] at D3 O3 Z3 ⊢
  have HQ : Hid (w.heap.size = Q) := hQ
  clear hQ
  have NS : Hid (∀ g, Q ≤ g → ¬ S g ∧ ¬ T g) := fun g hg => ⟨fun hs => by have := H.out.d.at_.size g hs; have := HQ.out; omega, fun hs => by have := H.out.r.s g hs; have := HQ.out; omega⟩
  have a0 := O3.cell 0 _ rfl
  have SQ : Hid (∀ g, Q ≤ g → ¬ S g) := fun g hg => (NS.out g hg).1
  have KS : Hid (OS Q (PV R x0 x1 p0 p1 xa cn t.dn t.wr) (OD o.kind o.other o.file o.a o.b x o.data.length c) w3 ∧ Below w.heap.size w w3) := ⟨⟨D3, O3, _, rfl, Z3⟩, W3⟩
  have KO : Hid (OS Q (PV R x0 x1 p0 p1 xa cn t.dn t.wr) (OD o.kind o.other o.file o.a o.b x o.data.length c) w3) := KS.out.1
  clear D3 O3 Z3 W3
  go_upto_region 13 with fail
  clear a0
  refine wp_region_held_drew (S := fun w' => OS Q (PV R x0 x1 p0 p1 xa cn t.dn t.wr) (OD o.kind o.other o.file o.a o.b x o.data.length c) w') (by kernel_rfl) (KO.out.below (Below.drew (Below.refl _ _))) (fun hH => ?_)
  refine' wpAnyH_take (i := 0) (oi := { dst := some 58, op := Op.load 37 (Operand.tmp 2), type := 37, pos := "law.go:172", after := #[], guard := none }) (v := _) rfl (by kernel_rfl) (by kernel_rfl) (by kernel_rfl) (fun _ _ _ h => h) (yieldsIf_load_mid (by rfl) _ _ rfl _ _ rfl (PV R x0 x1 p0 p1 xa cn t.dn t.wr) _ (fun w' h => h.d.all) Try.underlying37 rfl (infoPr _ _ _ _ _ _ _ _ _)) hH ?_
  simp only [Act.put, List.setIfInBounds_toArray, List.set_cons_zero, List.set_cons_succ]
  refine wpAnyH_take (i := 1) (oi := { dst := some 59, op := Op.fieldAddr 37 (Operand.tmp 2) 0, type := 0, pos := "law.go:172", after := #[], guard := none }) (v := .pointer (some ⟨Q, 0, none⟩)) rfl (by kernel_rfl) (by kernel_rfl) (by kernel_rfl) (fun _ _ _ h => h) (Or.inl ⟨by rfl, fun w' hs => by go_simp⟩) hH ?_
  simp only [Act.put, List.setIfInBounds_toArray, List.set_cons_zero, List.set_cons_succ]
  refine wpAnyH_take (i := 2) (oi := { dst := some 60, op := Op.load 30 (Operand.tmp 59), type := 30, pos := "law.go:172", after := #[{ on := 1, ground := Ground.data }], guard := none }) (v := .pointer (some ⟨R, 0, none⟩)) rfl (by kernel_rfl) (by kernel_rfl) (by kernel_rfl) (fun _ _ _ h => h) (Or.inl ⟨by rfl, fun w' hs => by have c := hs.d.cell 0 _ rfl; go_simp⟩) hH ?_
  simp only [Act.put, List.setIfInBounds_toArray, List.set_cons_zero, List.set_cons_succ]
  refine wpAnyH_take (i := 4) (oi := { dst := some 62, op := Op.fieldAddr 37 (Operand.tmp 2) 1, type := 0, pos := "law.go:172", after := #[{ on := 8, ground := Ground.gcOnly Departure.lateStores }], guard := none }) (v := .pointer (some ⟨Q, 1, none⟩)) rfl (by kernel_rfl) (by kernel_rfl) (by kernel_rfl) (fun _ _ _ h => h) (Or.inl ⟨by rfl, fun w' hs => by go_simp⟩) hH ?_
  simp only [Act.put, List.setIfInBounds_toArray, List.set_cons_zero, List.set_cons_succ]
  refine wpAnyH_take (i := 5) (oi := { dst := some 63, op := Op.fieldAddr 34 (Operand.tmp 62) 6, type := 0, pos := "law.go:172", after := #[{ on := 4, ground := Ground.data }, { on := 8, ground := Ground.gcOnly Departure.lateStores }], guard := none }) (v := .pointer (some ⟨Q, 7, none⟩)) rfl (by kernel_rfl) (by kernel_rfl) (by kernel_rfl) (fun _ _ _ h => h) (Or.inl ⟨by rfl, fun w' hs => by go_simp⟩) hH ?_
  simp only [Act.put, List.setIfInBounds_toArray, List.set_cons_zero, List.set_cons_succ]
  refine wpAnyH_take (i := 6) (oi := { dst := some 64, op := Op.load 4 (Operand.tmp 63), type := 4, pos := "law.go:172", after := #[{ on := 5, ground := Ground.data }, { on := 8, ground := Ground.gcOnly Departure.lateStores }], guard := none }) (v := (.bool t.dn)) rfl (by kernel_rfl) (by kernel_rfl) (by kernel_rfl) (fun _ _ _ h => h) (Or.inl ⟨by rfl, fun w' hs => by have c := hs.d.cell 7 _ rfl; go_simp⟩) hH ?_
  simp only [Act.put, List.setIfInBounds_toArray, List.set_cons_zero, List.set_cons_succ]
  refine wpAnyH_ready (rs := [3]) (by kernel_rfl) (by simp) ?_
  refine AllReadyH.cons (o := { dst := some 61, op := Op.call { callee := Callee.value (Operand.func 39), args := #[Operand.tmp 60], argTypes := #[30] }, type := 4, pos := "law.go:172", after := #[{ on := 2, ground := Ground.data }], guard := none }) rfl (fun K hK => ?_) AllReadyH.nil
  go_simp
  refine (CL.out _ (Below.drew KS.out.2)).mono ?_
  rintro e w8 ⟨rfl, hU, bU⟩
  have O8 : Hid (OS Q (PV R x0 x1 p0 p1 xa cn t.dn t.wr) (OD o.kind o.other o.file o.a o.b x o.data.length c) w8 ∧ Below w.heap.size w w8) := ⟨hH.below bU, below_trans (Below.drew KS.out.2) bU⟩
  refine hK.out _ _ O8.out.1 (fun hH => ?_)
  refine wpAnyH_take (i := 7) (oi := { dst := some 65, op := Op.binOp BinOp.eql 4 (Operand.tmp 61) (Operand.tmp 64) 4, type := 4, pos := "law.go:172", after := #[{ on := 3, ground := Ground.data }, { on := 6, ground := Ground.data }, { on := 8, ground := Ground.gcOnly Departure.lateStores }], guard := none }) (v := .bool true) rfl (by kernel_rfl) (by kernel_rfl) (by kernel_rfl) (fun _ _ _ h => h) (Or.inl ⟨by rfl, fun w' hs => by go_simp⟩) hH ?_
  simp only [Act.put, List.setIfInBounds_toArray, List.set_cons_zero, List.set_cons_succ]
  refine wpAnyH_ready (rs := [8]) (by kernel_rfl) (by simp) ?_
  refine AllReadyH.cons (o := { dst := none, op := Op.store 37 (Operand.tmp 4) (Operand.tmp 58), type := 0, pos := "law.go:172", after := #[{ on := 0, ground := Ground.data }, { on := 3, ground := Ground.chain }, { on := 0, ground := Ground.phase }, { on := 1, ground := Ground.textOnly Departure.lateStores }, { on := 2, ground := Ground.textOnly Departure.lateStores }, { on := 3, ground := Ground.textOnly Departure.lateStoresUnsure }, { on := 4, ground := Ground.textOnly Departure.lateStores }, { on := 5, ground := Ground.textOnly Departure.lateStores }, { on := 6, ground := Ground.textOnly Departure.lateStores }, { on := 7, ground := Ground.textOnly Departure.lateStores }], guard := none }) rfl (fun K hK => ?_) AllReadyH.nil
  obtain ⟨zs, zl, zb⟩ := hH.z
  refine op_putP (PV R x0 x1 p0 p1 xa cn t.dn t.wr) (by rw [zl]; rfl) (infoPr _ _ _ _ _ _ _ _ _) (onePv _ _ _ _ _ _ _ _ _) rfl _ _ rfl (Q + 2) rfl rfl zb ?_
  intro w9 b9 g9
  refine hK.out _ _ ⟨hH.d.grown g9 (by omega), hH.o.grown g9 (by omega), _, rfl, b9⟩ (fun hH => ?_)
  refine wpAnyH_take (i := 9) (oi := { dst := some 5, op := Op.assign (Operand.tmp 65), type := 4, pos := "law.go:172", after := #[{ on := 7, ground := Ground.data }, { on := 8, ground := Ground.chain }, { on := 0, ground := Ground.phase }, { on := 1, ground := Ground.phase }, { on := 2, ground := Ground.phase }, { on := 3, ground := Ground.phase }, { on := 4, ground := Ground.phase }, { on := 5, ground := Ground.phase }, { on := 6, ground := Ground.phase }, { on := 7, ground := Ground.phase }, { on := 8, ground := Ground.phase }], guard := none }) (v := .bool true) rfl (by kernel_rfl) (by kernel_rfl) (by kernel_rfl) (fun _ _ _ h => h) (Or.inl ⟨by rfl, fun w' hs => by go_simp⟩) hH ?_
  simp only [Act.put, List.setIfInBounds_toArray, List.set_cons_zero, List.set_cons_succ]
  refine wpAnyH_done (by kernel_rfl) ?_ _
  have N9 : Hid (Blk (Q + 2) 37 (PV R x0 x1 p0 p1 xa cn t.dn t.wr) w9 ∧ PrPost w0 R S T w t x0 x1 p0 p1 xa cn w9) := ⟨b9, pr_same H.out O8.out.2 (Nat.le_of_eq HQ.out) g9⟩
  clear hH hK O8 KS KO b9 g9
  go_wp2_with fail
  exact bodyPost_cell_tmp rfl rfl (Q + 2) _ _ _ _ rfl N9.out.1 Try.underlying37 rfl (by kernel_rfl) ⟨x0, x1, p0, p1, xa, cn, rfl, N9.out.2⟩

set_option maxRecDepth 100000 in
set_option maxHeartbeats 2000000 in
theorem order_wr (w0 : World) (R : Nat) (S T : Nat → Prop) (t : Dk) (x0 x1 p0 p1 xa : Sl) (cn : Int) (w : World) (h : PrIn w0 R S T t x0 x1 p0 p1 xa cn w) (_hw : 0 ≤ t.wr ∧ t.wr < 4611686018427387904) (o : OpD) (x : Option Addr) (c : Nat) (hk : o.kind = 11) :
    Calls Try.prog 17 #[.agg (PV R x0 x1 p0 p1 xa cn t.dn t.wr).toArray, opd o x c] w fun e w' => ∃ y0 y1 q0 q1 ya cm, e = .returned (.tuple #[.agg (PV R y0 y1 q0 q1 ya cm (t).dn (t).wr).toArray, .bool true]) ∧ PrPost w0 R S T w (t) y0 y1 q0 q1 ya cm w' := by
  have W3 := below3 w (PV R x0 x1 p0 p1 xa cn t.dn t.wr) (OD o.kind o.other o.file o.a o.b x o.data.length c) PZ 37 28 37
  obtain ⟨D3, O3, Z3⟩ := blk3 w (PV R x0 x1 p0 p1 xa cn t.dn t.wr) (OD o.kind o.other o.file o.a o.b x o.data.length c) PZ 37 28 37
  unfold opd
  have H : Hid (PrIn w0 R S T t x0 x1 p0 p1 xa cn w) := h
  have ok := h.d.at_.1
  have WQ : Hid (w0.heap.size ≤ w.heap.size) := h.d.bel.size
  clear h
  have CL : Hid (∀ w', Below w.heap.size w w' → Calls Try.prog 40 #[.pointer (some ⟨R, 0, none⟩)] w' fun e w2 => e = .returned (.int .i64 t.wr) ∧ Kp S w' w2 ∧ Below w'.heap.size w' w2) := fun w' hb => (writes_at R S t w' (H.out.d.at_.below hb)).mono fun e w2 ⟨he, hw⟩ => ⟨he, by rw [hw]; exact Kp.refl _ _, by rw [hw]; exact Below.refl _ _⟩
  have eb : (t.wr == t.wr) = true := by simp
  have kb7 : (o.kind == 7) = false := by rw [hk]; rfl
  have kb8 : (o.kind == 8) = false := by rw [hk]; rfl
  have kb9 : (o.kind == 9) = false := by rw [hk]; rfl
  have kb10 : (o.kind == 10) = false := by rw [hk]; rfl
  have kb11 : (o.kind == 11) = true := by rw [hk]; rfl
  clear hk
  go_enter Try.func17, Try.ntmps17
  go_upto_region 1 with fail
  generalize ((w.alloc (.cells (PV R x0 x1 p0 p1 xa cn t.dn t.wr).toArray 37)).alloc (.cells (OD o.kind o.other o.file o.a o.b x o.data.length c).toArray 28)).alloc (.cells PZ.toArray 37) = w3 at *
  obtain ⟨Q, hQ⟩ : ∃ Q, w.heap.size = Q := ⟨_, rfl⟩
  rw [hQ] at D3 O3 Z3 ⊢
  have HQ : Hid (w.heap.size = Q) := hQ
  clear hQ
  have NS : Hid (∀ g, Q ≤ g → ¬ S g ∧ ¬ T g) := fun g hg => ⟨fun hs => by have := H.out.d.at_.size g hs; have := HQ.out; omega, fun hs => by have := H.out.r.s g hs; have := HQ.out; omega⟩
  have a0 := O3.cell 0 _ rfl
  have SQ : Hid (∀ g, Q ≤ g → ¬ S g) := fun g hg => (NS.out g hg).1
  have KS : Hid (OS Q (PV R x0 x1 p0 p1 xa cn t.dn t.wr) (OD o.kind o.other o.file o.a o.b x o.data.length c) w3 ∧ Below w.heap.size w w3) := ⟨⟨D3, O3, _, rfl, Z3⟩, W3⟩
  have KO : Hid (OS Q (PV R x0 x1 p0 p1 xa cn t.dn t.wr) (OD o.kind o.other o.file o.a o.b x o.data.length c) w3) := KS.out.1
  clear D3 O3 Z3 W3
  go_upto_region 15 with fail
  clear a0
  refine wp_region_held_drew (S := fun w' => OS Q (PV R x0 x1 p0 p1 xa cn t.dn t.wr) (OD o.kind o.other o.file o.a o.b x o.data.length c) w') (by kernel_rfl) (KO.out.below (Below.drew (Below.refl _ _))) (fun hH => ?_)
  refine' wpAnyH_take (i := 0) (oi := { dst := some 68, op := Op.load 37 (Operand.tmp 2), type := 37, pos := "law.go:174", after := #[], guard := none }) (v := _) rfl (by kernel_rfl) (by kernel_rfl) (by kernel_rfl) (fun _ _ _ h => h) (yieldsIf_load_mid (by rfl) _ _ rfl _ _ rfl (PV R x0 x1 p0 p1 xa cn t.dn t.wr) _ (fun w' h => h.d.all) Try.underlying37 rfl (infoPr _ _ _ _ _ _ _ _ _)) hH ?_
  simp only [Act.put, List.setIfInBounds_toArray, List.set_cons_zero, List.set_cons_succ]
  refine wpAnyH_take (i := 1) (oi := { dst := some 69, op := Op.fieldAddr 37 (Operand.tmp 2) 0, type := 0, pos := "law.go:174", after := #[], guard := none }) (v := .pointer (some ⟨Q, 0, none⟩)) rfl (by kernel_rfl) (by kernel_rfl) (by kernel_rfl) (fun _ _ _ h => h) (Or.inl ⟨by rfl, fun w' hs => by go_simp⟩) hH ?_
  simp only [Act.put, List.setIfInBounds_toArray, List.set_cons_zero, List.set_cons_succ]
  refine wpAnyH_take (i := 2) (oi := { dst := some 70, op := Op.load 30 (Operand.tmp 69), type := 30, pos := "law.go:174", after := #[{ on := 1, ground := Ground.data }], guard := none }) (v := .pointer (some ⟨R, 0, none⟩)) rfl (by kernel_rfl) (by kernel_rfl) (by kernel_rfl) (fun _ _ _ h => h) (Or.inl ⟨by rfl, fun w' hs => by have c := hs.d.cell 0 _ rfl; go_simp⟩) hH ?_
  simp only [Act.put, List.setIfInBounds_toArray, List.set_cons_zero, List.set_cons_succ]
  refine wpAnyH_take (i := 4) (oi := { dst := some 72, op := Op.fieldAddr 37 (Operand.tmp 2) 1, type := 0, pos := "law.go:174", after := #[{ on := 8, ground := Ground.gcOnly Departure.lateStores }], guard := none }) (v := .pointer (some ⟨Q, 1, none⟩)) rfl (by kernel_rfl) (by kernel_rfl) (by kernel_rfl) (fun _ _ _ h => h) (Or.inl ⟨by rfl, fun w' hs => by go_simp⟩) hH ?_
  simp only [Act.put, List.setIfInBounds_toArray, List.set_cons_zero, List.set_cons_succ]
  refine wpAnyH_take (i := 5) (oi := { dst := some 73, op := Op.fieldAddr 34 (Operand.tmp 72) 7, type := 0, pos := "law.go:174", after := #[{ on := 4, ground := Ground.data }, { on := 8, ground := Ground.gcOnly Departure.lateStores }], guard := none }) (v := .pointer (some ⟨Q, 8, none⟩)) rfl (by kernel_rfl) (by kernel_rfl) (by kernel_rfl) (fun _ _ _ h => h) (Or.inl ⟨by rfl, fun w' hs => by go_simp⟩) hH ?_
  simp only [Act.put, List.setIfInBounds_toArray, List.set_cons_zero, List.set_cons_succ]
  refine wpAnyH_take (i := 6) (oi := { dst := some 74, op := Op.load 3 (Operand.tmp 73), type := 3, pos := "law.go:174", after := #[{ on := 5, ground := Ground.data }, { on := 8, ground := Ground.gcOnly Departure.lateStores }], guard := none }) (v := (.int .i64 t.wr)) rfl (by kernel_rfl) (by kernel_rfl) (by kernel_rfl) (fun _ _ _ h => h) (Or.inl ⟨by rfl, fun w' hs => by have c := hs.d.cell 8 _ rfl; go_simp⟩) hH ?_
  simp only [Act.put, List.setIfInBounds_toArray, List.set_cons_zero, List.set_cons_succ]
  refine wpAnyH_ready (rs := [3]) (by kernel_rfl) (by simp) ?_
  refine AllReadyH.cons (o := { dst := some 71, op := Op.call { callee := Callee.value (Operand.func 40), args := #[Operand.tmp 70], argTypes := #[30] }, type := 3, pos := "law.go:174", after := #[{ on := 2, ground := Ground.data }], guard := none }) rfl (fun K hK => ?_) AllReadyH.nil
  go_simp
  refine (CL.out _ (Below.drew KS.out.2)).mono ?_
  rintro e w8 ⟨rfl, hU, bU⟩
  have O8 : Hid (OS Q (PV R x0 x1 p0 p1 xa cn t.dn t.wr) (OD o.kind o.other o.file o.a o.b x o.data.length c) w8 ∧ Below w.heap.size w w8) := ⟨hH.below bU, below_trans (Below.drew KS.out.2) bU⟩
  refine hK.out _ _ O8.out.1 (fun hH => ?_)
  refine wpAnyH_take (i := 7) (oi := { dst := some 75, op := Op.binOp BinOp.eql 3 (Operand.tmp 71) (Operand.tmp 74) 3, type := 4, pos := "law.go:174", after := #[{ on := 3, ground := Ground.data }, { on := 6, ground := Ground.data }, { on := 8, ground := Ground.gcOnly Departure.lateStores }], guard := none }) (v := .bool true) rfl (by kernel_rfl) (by kernel_rfl) (by kernel_rfl) (fun _ _ _ h => h) (Or.inl ⟨by rfl, fun w' hs => by go_simp⟩) hH ?_
  simp only [Act.put, List.setIfInBounds_toArray, List.set_cons_zero, List.set_cons_succ]
  refine wpAnyH_ready (rs := [8]) (by kernel_rfl) (by simp) ?_
  refine AllReadyH.cons (o := { dst := none, op := Op.store 37 (Operand.tmp 4) (Operand.tmp 68), type := 0, pos := "law.go:174", after := #[{ on := 0, ground := Ground.data }, { on := 3, ground := Ground.chain }, { on := 0, ground := Ground.phase }, { on := 1, ground := Ground.textOnly Departure.lateStores }, { on := 2, ground := Ground.textOnly Departure.lateStores }, { on := 3, ground := Ground.textOnly Departure.lateStoresUnsure }, { on := 4, ground := Ground.textOnly Departure.lateStores }, { on := 5, ground := Ground.textOnly Departure.lateStores }, { on := 6, ground := Ground.textOnly Departure.lateStores }, { on := 7, ground := Ground.textOnly Departure.lateStores }], guard := none }) rfl (fun K hK => ?_) AllReadyH.nil
  obtain ⟨zs, zl, zb⟩ := hH.z
  refine op_putP (PV R x0 x1 p0 p1 xa cn t.dn t.wr) (by rw [zl]; rfl) (infoPr _ _ _ _ _ _ _ _ _) (onePv _ _ _ _ _ _ _ _ _) rfl _ _ rfl (Q + 2) rfl rfl zb ?_
  intro w9 b9 g9
  refine hK.out _ _ ⟨hH.d.grown g9 (by omega), hH.o.grown g9 (by omega), _, rfl, b9⟩ (fun hH => ?_)
  refine wpAnyH_take (i := 9) (oi := { dst := some 5, op := Op.assign (Operand.tmp 75), type := 4, pos := "law.go:174", after := #[{ on := 7, ground := Ground.data }, { on := 8, ground := Ground.chain }, { on := 0, ground := Ground.phase }, { on := 1, ground := Ground.phase }, { on := 2, ground := Ground.phase }, { on := 3, ground := Ground.phase }, { on := 4, ground := Ground.phase }, { on := 5, ground := Ground.phase }, { on := 6, ground := Ground.phase }, { on := 7, ground := Ground.phase }, { on := 8, ground := Ground.phase }], guard := none }) (v := .bool true) rfl (by kernel_rfl) (by kernel_rfl) (by kernel_rfl) (fun _ _ _ h => h) (Or.inl ⟨by rfl, fun w' hs => by go_simp⟩) hH ?_
  simp only [Act.put, List.setIfInBounds_toArray, List.set_cons_zero, List.set_cons_succ]
  refine wpAnyH_done (by kernel_rfl) ?_ _
  have N9 : Hid (Blk (Q + 2) 37 (PV R x0 x1 p0 p1 xa cn t.dn t.wr) w9 ∧ PrPost w0 R S T w t x0 x1 p0 p1 xa cn w9) := ⟨b9, pr_same H.out O8.out.2 (Nat.le_of_eq HQ.out) g9⟩
  clear hH hK O8 KS KO b9 g9
  go_wp2_with fail
  exact bodyPost_cell_tmp rfl rfl (Q + 2) _ _ _ _ rfl N9.out.1 Try.underlying37 rfl (by kernel_rfl) ⟨x0, x1, p0, p1, xa, cn, rfl, N9.out.2⟩
end Go.Proofs.Ytiefnomldfhhnaa
