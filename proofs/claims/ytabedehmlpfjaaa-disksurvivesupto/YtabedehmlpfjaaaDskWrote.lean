/-
  Ours: wrote.
-/
import Derived.Test.YtabedehmlpfjaaaDskSurP
import Derived.Test.YtabedehmlpfjaaaDskBeg
import Derived.Deep.CutRange
import Derived.Deep.RegionHeld3
namespace Go.Proofs.Ytabedehmlpfjaaa
open Go.RowKit

def wrR (o : OpD) (f : Int) (X : List Nat) : List Nat := if f = o.file then (if o.kind = 1 ∨ o.kind = 2 then X ++ handedL o else if o.kind = 4 then X.take o.a.toNat else X) else X
def wrD (o : OpD) (f : Int) (X Y : List Nat) : List Nat := if f = o.file then (if o.kind = 3 then X else if o.kind = 4 then X.take o.a.toNat else Y) else Y
/-- What a round of wrote looks at. -/
structure Rnd (w : World) (o : OpD) (f : Int) (aX : Option Addr) (cX : Nat) (aY : Option Addr) (cY : Nat) (aU : Option Addr) (nU cU : Nat) (aV : Option Addr) (nV cV : Nat) (X Y : List Nat) : Prop where
  x : RdB w (.slice aX X.length cX) X
  y : RdB w (.slice aY Y.length cY) Y
  u : RdB w (.slice aU nU cU) (wrR o f X)
  v : RdB w (.slice aV nV cV) (wrD o f X Y)
  tr : o.kind = 4 → f = o.file → 0 ≤ o.a ∧ o.a ≤ X.length
  lx : X.length ≤ 100000000
  ly : Y.length ≤ 100000000
theorem Rnd.later {w w' : World} {o : OpD} {f : Int} {aX : Option Addr} {cX : Nat} {aY : Option Addr} {cY : Nat} {aU : Option Addr} {nU cU : Nat} {aV : Option Addr} {nV cV : Nat} {X Y : List Nat} (h : Rnd w o f aX cX aY cY aU nU cU aV nV cV X Y) (hb : Below w.heap.size w w') : Rnd w' o f aX cX aY cY aU nU cU aV nV cV X Y :=
  ⟨Rd.later h.x hb, Rd.later h.y hb, Rd.later h.u hb, Rd.later h.v hb, h.tr, h.lx, h.ly⟩
theorem below_drewN' {w w' : World} {n : Nat} (h : Below (w.drewN n).heap.size (w.drewN n) w') : Below w.heap.size w w' := ⟨h.os, h.tape, h.output, h.size, h.block⟩
theorem rd_cap {w : World} {a : Option Addr} {n c : Nat} {X : List Nat} (h : RdB w (.slice a n c) X) : X.length ≤ c := by
  obtain ⟨_, _, e, h1, _⟩ := h.len
  injection e with e1 e2 e3
  rw [List.length_map] at h1; omega
theorem handedL_len {o : OpD} (h : o.data.length ≤ 1048576) : (handedL o).length ≤ 100000000 := by
  unfold handedL; split
  · omega
  · split
    · simp
    · rw [List.length_replicate]; omega

theorem step_catV {P : Program} {wr : World} {ops : Array Oper} {o : Oper} {a : Act} {K : Act → World → Prop} {Q : Exit → Act → World → Prop} {E : Prop} (hgd : o.guard = none) (s x : Operand) (t : TypeId)
    (ho : o.op = .call { callee := .builtin .append, args := #[s, x], argTypes := #[t, t] })
    (e : TypeId) (i : TypeInfo) (z : Value) (by' : Nat) (ht : P.underlying t = some (.slice e)) (hi : P.info? e = some i) (hz : i.zero = some z) (hsize : i.size = 1) (hby : i.bytes = by') (hzc : z.cells.size = 1)
    (base : Nat) (v v2 : Value) (vs us : List Value) (hy : ∀ u ∈ us, u.oneCell' = true) (hs : a.eval s = v) (hown : RowV e base wr v vs) (hsz : base ≤ wr.heap.size)
    (hx : a.eval x = v2) (hr : Rd wr v2 us) (hl : vs.length + us.length ≤ maxLen) (hl2 : (vs.length + us.length) * by' ≤ 140737488355328)
    (h : ∀ v' w', RowV e base w' v' (vs ++ us) → wr.grownBy w' v.ownBlock → K (a.put o.dst v') w') :
    if Region.wanted o (yielded ops a.tmps) = true then Oper.wp P o a wr K Q else E := by
  have hw : Region.wanted o (yielded ops a.tmps) = true := by simp [Region.wanted, hgd]
  rw [if_pos hw]
  obtain ⟨ao, cap, rfl, h1, h2, h3⟩ := hr
  have key : ∃ v' w', (Builtin.append_ #[t, t] o.type #[v, .slice ao us.length cap]).run P wr = .ok v' w' ∧ RowV e base w' v' (vs ++ us) ∧ wr.grownBy w' v.ownBlock := by
    cases ao with
    | none =>
      obtain rfl := h2 rfl
      obtain rfl : us = [] := List.eq_nil_of_length_eq_zero (by omega)
      exact ⟨v, wr, run_append_owned_none (P := P) wr base t o.type e i 1 ht hi v vs.length vs hown, by simpa using hown, grownBy_refl _ _⟩
    | some ad =>
      obtain ⟨v', w', r1, r2, r3, _⟩ := run_append_own (P := P) wr base t o.type e i z 1 by' ht hi hz hsize hby hzc (by decide) v vs.length vs hown ad us.length cap us (by simp) (fun j u hj => by
        obtain ⟨hjl, rfl⟩ := List.getElem?_eq_some_iff.1 hj
        obtain ⟨g', o', e1, _, hc⟩ := h3 j hjl
        cases e1
        rw [Addr.add_lit]; exact hc) hy hl hl2 hsz
      exact ⟨v', w', r1, by simpa [RowV] using r2, r3⟩
  obtain ⟨v', w', r1, r2, r3⟩ := key
  unfold Oper.wp execOp
  simp only [ho, resolve, invoke, builtin, Sem.run_bind, Sem.run_pure, Result.andThen_ok, List.map_toArray, List.map_cons, List.map_nil, hs, hx, r1]
  exact h v' w' r2 r3

/-- Where a round's two rows have come to. -/
def RndIs (w : World) (o : OpD) (f : Int) (X Y : List Nat) (v8 v9 : Value) (wx : World) : Prop :=
  ∃ a8 c8 a9 c9, v8 = .slice a8 (wrR o f X).length c8 ∧ v9 = .slice a9 (wrD o f X Y).length c9 ∧ RdB wx (.slice a8 (wrR o f X).length c8) (wrR o f X) ∧ RdB wx (.slice a9 (wrD o f X Y).length c9) (wrD o f X Y) ∧ Below w.heap.size w wx

set_option maxRecDepth 100000 in
set_option maxHeartbeats 8000000 in
theorem wrote_at (o : OpD) (x : Option Addr) (c : Nat) (w : World) (hl : o.data.length ≤ 1048576) (h : RdB w (.slice x o.data.length c) o.data) (hk : 1 ≤ o.kind ∧ o.kind ≤ 4)
    (a0 a1 a2 a3 b0 b1 b2 b3 : Option Addr) (c0 c1 c2 c3 m0 d0 m1 d1 m2 d2 m3 d3 : Nat) (dn dn' : Bool) (X0 X1 Y0 Y1 : List Nat)
    (r0 : Rnd w o 0 a0 c0 a2 c2 b0 m0 d0 b2 m2 d2 X0 Y0) (r1 : Rnd w o 1 a1 c1 a3 c3 b1 m1 d1 b3 m3 d3 X1 Y1) :
    Calls Try.prog 28 #[opd o x c, .agg (SD a0 X0.length c0 a1 X1.length c1 a2 Y0.length c2 a3 Y1.length c3 dn).toArray, .agg (SD b0 m0 d0 b1 m1 d1 b2 m2 d2 b3 m3 d3 dn').toArray] w fun e w' => e = .returned (.bool true) ∧ Below w.heap.size w w' := by
  obtain ⟨i0, hi, hz0, hz1, hz2⟩ := info_parts infoB
  have HL := handedL_len hl
  obtain ⟨ov, hov⟩ : ∃ ov, opd o x c = ov := ⟨_, rfl⟩
  have HD : Hid (∀ w', Below w.heap.size w w' → Calls Try.prog 40 #[.agg #[.int .i64 o.kind, .bool o.other, .int .i64 o.file, .int .i64 o.a, .int .i64 o.b, .slice x o.data.length c]] w' (NewB w' (handedL o))) := fun w' hb => handed_at o x c w' hl (Rd.later h hb)
  have CP : Hid (∀ w' (v : Value) (X : List Nat), X.length ≤ 100000000 → RdB w' v X → Calls Try.prog 11 #[v] w' (NewB w' X)) := fun w' v X hl h => lcopied_at X v w' (by omega) h
  have EQ : Hid (∀ w' (va vb : Value) (X : List Nat), X.length ≤ 1000000000 → RdB w' va X → RdB w' vb X → Calls Try.prog 13 #[va, vb] w' fun e w'' => e = .returned (.bool true) ∧ ∃ n, w'' = w'.drewN n) := fun w' va vb X hl h1 h2 => by
    have := equal_at X X va vb w' (by omega) h1 h2
    simpa using this
  have BA := below_alloc w (.cells (OD o.kind o.other o.file o.a o.b x o.data.length c).toArray 35)
  have B1 := Blk.new 35 (OD o.kind o.other o.file o.a o.b x o.data.length c) w
  have sz1 : (w.alloc (.cells (OD o.kind o.other o.file o.a o.b x o.data.length c).toArray 35)).heap.size = w.heap.size + 1 := by simp
  unfold opd
  clear hov
  generalize hW1 : w.alloc (.cells (OD o.kind o.other o.file o.a o.b x o.data.length c).toArray 35) = W1 at *
  have BB := below_alloc W1 (.cells (SD a0 X0.length c0 a1 X1.length c1 a2 Y0.length c2 a3 Y1.length c3 dn).toArray 30)
  have B2 := Blk.new 30 (SD a0 X0.length c0 a1 X1.length c1 a2 Y0.length c2 a3 Y1.length c3 dn) W1
  rw [sz1] at B2
  have sz2 : (W1.alloc (.cells (SD a0 X0.length c0 a1 X1.length c1 a2 Y0.length c2 a3 Y1.length c3 dn).toArray 30)).heap.size = w.heap.size + 2 := by simp [sz1]
  generalize hW2 : W1.alloc (.cells (SD a0 X0.length c0 a1 X1.length c1 a2 Y0.length c2 a3 Y1.length c3 dn).toArray 30) = W2 at *
  have BC := below_alloc W2 (.cells (SD b0 m0 d0 b1 m1 d1 b2 m2 d2 b3 m3 d3 dn').toArray 30)
  have B3 := Blk.new 30 (SD b0 m0 d0 b1 m1 d1 b2 m2 d2 b3 m3 d3 dn') W2
  rw [sz2] at B3
  have B1 := (B1.below BB).below BC
  have B2 := B2.below BC
  have WB := below_trans (below_trans BA BB) BC
  subst hW2 hW1
  go_enter Try.func28, Try.ntmps28
  go_upto_region 1 with fail
  generalize ((w.alloc (.cells (OD o.kind o.other o.file o.a o.b x o.data.length c).toArray 35)).alloc (.cells (SD a0 X0.length c0 a1 X1.length c1 a2 Y0.length c2 a3 Y1.length c3 dn).toArray 30)).alloc (.cells (SD b0 m0 d0 b1 m1 d1 b2 m2 d2 b3 m3 d3 dn').toArray 30) = W3 at *
  obtain ⟨Q, hQ⟩ : ∃ Q, w.heap.size = Q := ⟨_, rfl⟩
  rw [hQ] at B1 B2 B3 ⊢
  clear hQ BA BB BC sz1 sz2 h hl
  go_wp2_with fail
  go_loopw [7] (fun vf wr => ∃ f : Nat, vf = .int .i64 (f : Int) ∧ f ≤ 2 ∧ Below W3.heap.size W3 wr) (fun vf _ => 2 - (intOf vf).toNat)
  case atStart => exact ⟨0, rfl, by omega, Below.refl _ _⟩
  case round =>
    obtain ⟨f, rfl, hf, hb⟩ := hrel
    have D1 := B1.below hb
    have D2 := B2.below hb
    have D3 := B3.below hb
    have WR : Below w.heap.size w wr := below_trans WB hb
    have p0 := D1.cell 0 _ rfl
    have p1 := D1.cell 1 _ rfl
    have p2 := D1.cell 2 _ rfl
    have p3 := D1.cell 3 _ rfl
    have p4 := D1.cell 4 _ rfl
    have p5 := D1.cell 5 _ rfl
    have HP : Hid (∀ w', Below wr.heap.size wr w' → w'.cell? ⟨Q, 0, none⟩ = some (.int .i64 o.kind) ∧ w'.cell? ⟨Q, 1, none⟩ = some (.bool o.other) ∧ w'.cell? ⟨Q, 2, none⟩ = some (.int .i64 o.file) ∧ w'.cell? ⟨Q, 3, none⟩ = some (.int .i64 o.a) ∧ w'.cell? ⟨Q, 4, none⟩ = some (.int .i64 o.b) ∧ w'.cell? ⟨Q, 5, none⟩ = some (.slice x o.data.length c)) := fun w' hb' => by
      have D := D1.below hb'
      exact ⟨D.cell 0 _ rfl, D.cell 1 _ rfl, D.cell 2 _ rfl, D.cell 3 _ rfl, D.cell 4 _ rfl, D.cell 5 _ rfl⟩
    have HB : Hid (Below W3.heap.size W3 wr) := hb
    clear hb B1 B2 B3 D1 WB
    obtain rfl | rfl | rfl : f = 0 ∨ f = 1 ∨ f = 2 := by omega
    · have qx := D2.cell 0 _ rfl
      have qy := D2.cell 2 _ rfl
      have qu := D3.cell 0 _ rfl
      have qv := D3.cell 2 _ rfl
      have RR := r0.later WR
      have cx := rd_cap RR.x
      clear r0 r1 D2
      go_upto_if 25 with fail
      go_cut [8, 9] from 10 to 71 (fun v8 v9 wx => RndIs wr o 0 X0 Y0 v8 v9 wx)
      case first =>
        clear EQ
        by_cases hf : (0 : Int) = o.file
        · have bf : ((0 : Int) == o.file) = true := by simpa using hf
          by_cases k12 : o.kind = 1 ∨ o.kind = 2
          · have e8 : Hid (wrR o 0 X0 = X0 ++ handedL o) := by show _ = _; unfold wrR; rw [if_pos hf, if_pos k12]
            have e9 : Hid (wrD o 0 X0 Y0 = Y0) := by show _ = _; unfold wrD; rw [if_pos hf, if_neg (by omega), if_neg (by omega)]
            have bk : (o.kind == 1) = true ∨ ((o.kind == 1) = false ∧ (o.kind == 2) = true) := by
              rcases k12 with e | e
              · left; rw [e]; rfl
              · right; rw [e]; exact ⟨rfl, rfl⟩
            have LX := RR.lx
            have XX : Hid (RdB wr (.slice a0 X0.length c0) X0) := RR.x
            have YY : Hid (RdB wr (.slice a2 Y0.length c2) Y0) := RR.y
            have FR : Below wr.heap.size wr wr := Below.refl _ _
            have one := one_bv (handedL o)
            have l1 : (X0.map bv).length + ((handedL o).map bv).length ≤ maxLen := by rw [List.length_map, List.length_map]; unfold maxLen; omega
            have l2 : ((X0.map bv).length + ((handedL o).map bv).length) * 1 ≤ 140737488355328 := by rw [List.length_map, List.length_map]; omega
            clear RR k12 hf
            rcases bk with bk1 | ⟨bk1, bk2⟩
            all_goals
              go_upto_region 10 with fail
              go_region_held3 (fun w' => w'.cell? ⟨Q, 0, none⟩ = some (.int .i64 o.kind) ∧ w'.cell? ⟨Q, 1, none⟩ = some (.bool o.other) ∧ w'.cell? ⟨Q, 2, none⟩ = some (.int .i64 o.file) ∧ w'.cell? ⟨Q, 3, none⟩ = some (.int .i64 o.a) ∧ w'.cell? ⟨Q, 4, none⟩ = some (.int .i64 o.b) ∧ w'.cell? ⟨Q, 5, none⟩ = some (.slice x o.data.length c)) (first | exact ⟨by assumption, by assumption, by assumption, by assumption, by assumption, by assumption⟩ | go_keep)
                ((first
                | (go_at_call 11; refine (CP.out _ _ X0 LX (by first | exact Rd.later XX.out FR | exact Rd.drewN (Rd.later XX.out FR) 1 | exact Rd.drewN (Rd.later XX.out FR) 2)).mono ?_; rintro e wn ⟨vn, rfl, rn, bn⟩; have GR : Below wr.heap.size wr wn := (by first | exact below_trans FR bn | exact below_trans (below_drewN FR 1) bn | exact below_trans (below_drewN FR 2) bn); have own : RowB 5 wr.heap.size wn vn X0 := rn.mono FR.size; have hd := Rd.later hd (by first | exact bn | exact below_drewN' (n := 1) bn | exact below_drewN' (n := 2) bn); clear rn bn FR p0 p1 p2 p3 p4 p5; have FR := GR; clear GR; obtain ⟨p0, p1, p2, p3, p4, p5⟩ := HP.out _ FR)
                | (go_at_call 11; refine (CP.out _ _ X0 LX (by first | exact Rd.later XX.out FR | exact Rd.drewN (Rd.later XX.out FR) 1 | exact Rd.drewN (Rd.later XX.out FR) 2)).mono ?_; rintro e wn ⟨vn, rfl, rn, bn⟩; have GR : Below wr.heap.size wr wn := (by first | exact below_trans FR bn | exact below_trans (below_drewN FR 1) bn | exact below_trans (below_drewN FR 2) bn); have own : RowB 5 wr.heap.size wn vn X0 := rn.mono FR.size; clear rn bn FR p0 p1 p2 p3 p4 p5; have FR := GR; clear GR; obtain ⟨p0, p1, p2, p3, p4, p5⟩ := HP.out _ FR)
                | (go_at_call 40; refine (HD.out _ (by first | exact below_trans WR FR | exact below_drewN (below_trans WR FR) 1 | exact below_drewN (below_trans WR FR) 2)).mono ?_; rintro e wm ⟨vm, rfl, rm, bm⟩; have GR : Below wr.heap.size wr wm := (by first | exact below_trans FR bm | exact below_trans (below_drewN FR 1) bm | exact below_trans (below_drewN FR 2) bm); have hd : RdB wm vm (handedL o) := rm.rd; have own := RowV.later own (by first | exact bm | exact below_drewN' (n := 1) bm | exact below_drewN' (n := 2) bm); clear rm bm FR p0 p1 p2 p3 p4 p5; have FR := GR; clear GR; obtain ⟨p0, p1, p2, p3, p4, p5⟩ := HP.out _ FR)
                | (go_at_call 40; refine (HD.out _ (by first | exact below_trans WR FR | exact below_drewN (below_trans WR FR) 1 | exact below_drewN (below_trans WR FR) 2)).mono ?_; rintro e wm ⟨vm, rfl, rm, bm⟩; have GR : Below wr.heap.size wr wm := (by first | exact below_trans FR bm | exact below_trans (below_drewN FR 1) bm | exact below_trans (below_drewN FR 2) bm); have hd : RdB wm vm (handedL o) := rm.rd; clear rm bm FR p0 p1 p2 p3 p4 p5; have FR := GR; clear GR; obtain ⟨p0, p1, p2, p3, p4, p5⟩ := HP.out _ FR)
                | (refine step_catV (by rfl) (.tmp 32) (.tmp 34) 22 (by rfl) 5 i0 (.int .u8 0) 1 underB hi hz0 hz1 hz2 rfl wr.heap.size _ _ _ _ one (by simp [Act.eval]) own FR.size (by simp [Act.eval]) hd l1 l2 ?_; intro v5 w5 r5 g5; have FR5 : Below wr.heap.size wr w5 := below_grown FR own (Nat.le_refl _) FR.size g5; obtain ⟨p0, p1, p2, p3, p4, p5⟩ := HP.out _ FR5)
                | fail))
              go_wp2_with fail
              obtain ⟨an, cn, en, _⟩ := row_shape r5
              have r6 : RdB w5 v5 (X0 ++ handedL o) := by rw [RdB, List.map_append]; exact r5.rd
              rw [List.length_append, List.length_map, List.length_map, ← List.length_append] at en
              subst en
              go_meet
              refine ⟨an, cn, a2, c2, by rw [e8.out], by rw [e9.out], by rw [e8.out]; exact r6, by rw [e9.out]; exact Rd.later YY.out FR5, FR5⟩
          · have bk1 : (o.kind == 1) = false := beq_eq_false_iff_ne.2 (by omega)
            have bk2 : (o.kind == 2) = false := beq_eq_false_iff_ne.2 (by omega)
            by_cases k3 : o.kind = 3
            · have e8 : Hid (wrR o 0 X0 = X0) := by show _ = _; unfold wrR; rw [if_pos hf, if_neg k12, if_neg (by omega)]
              have e9 : Hid (wrD o 0 X0 Y0 = X0) := by show _ = _; unfold wrD; rw [if_pos hf, if_pos k3]
              have bk3 : (o.kind == 3) = true := by simpa using k3
              have XX : Hid (RdB wr (.slice a0 X0.length c0) X0) := RR.x
              clear RR HD CP HP k12 hf
              go_wp2_with fail
              go_meet
              exact ⟨a0, c0, a0, c0, by rw [e8.out], by rw [e9.out], by rw [e8.out]; exact XX.out, by rw [e9.out]; exact XX.out, Below.refl _ _⟩
            · have k4 : o.kind = 4 := by omega
              have e8 : Hid (wrR o 0 X0 = X0.take o.a.toNat) := by show _ = _; unfold wrR; rw [if_pos hf, if_neg k12, if_pos k4]
              have e9 : Hid (wrD o 0 X0 Y0 = X0.take o.a.toNat) := by show _ = _; unfold wrD; rw [if_pos hf, if_neg k3, if_pos k4]
              have bk3 : (o.kind == 3) = false := beq_eq_false_iff_ne.2 k3
              have bk4 : (o.kind == 4) = true := by simpa using k4
              have TR := RR.tr k4 hf
              obtain ⟨m, hm⟩ : ∃ m : Nat, o.a = (m : Int) := ⟨o.a.toNat, by omega⟩
              rw [hm] at p3 e8 e9
              rw [Int.toNat_natCast] at e8 e9
              have hm1 : m ≤ X0.length := by omega
              have g1 : decide ((m : Int) < 0) = false := decide_eq_false (by omega)
              have g2 : decide ((X0.length : Int) < (m : Int)) = false := decide_eq_false (by omega)
              have hmc : m ≤ c0 := by omega
              have tl : Hid ((X0.take m).length = m) := by show _ = _; rw [List.length_take]; omega
              have XX : Hid (RdB wr (.slice a0 m c0) (X0.take m)) := by
                have := Rd.cut RR.x hm1
                rw [← List.map_take] at this; exact this
              clear RR HD CP HP k12 hf TR hm
              go_wp2_with fail
              go_meet
              exact ⟨a0, c0, a0, c0, by rw [e8.out, tl.out], by rw [e9.out, tl.out], by rw [e8.out, tl.out]; exact XX.out, by rw [e9.out, tl.out]; exact XX.out, Below.refl _ _⟩
        · have bf : ((0 : Int) == o.file) = false := beq_eq_false_iff_ne.2 hf
          have e8 : Hid (wrR o 0 X0 = X0) := by show _ = _; unfold wrR; rw [if_neg hf]
          have e9 : Hid (wrD o 0 X0 Y0 = Y0) := by show _ = _; unfold wrD; rw [if_neg hf]
          have XX : Hid (RdB wr (.slice a0 X0.length c0) X0 ∧ RdB wr (.slice a2 Y0.length c2) Y0) := ⟨RR.x, RR.y⟩
          clear RR HD CP HP hf
          go_wp2_with fail
          go_meet
          exact ⟨a0, c0, a2, c2, by rw [e8.out], by rw [e9.out], by rw [e8.out]; exact XX.out.1, by rw [e9.out]; exact XX.out.2, Below.refl _ _⟩
      case rest =>
        obtain ⟨a8, c8, a9, c9, rfl, rfl, R8, R9, bx⟩ := hcut
        have D4 := D3.below bx
        have qu := D4.cell 0 _ rfl
        have qv := D4.cell 2 _ rfl
        have L8 : (wrR o 0 X0).length ≤ 1000000000 := by
          have := RR.lx
          unfold wrR; split
          · split
            · rw [List.length_append]; omega
            · split
              · rw [List.length_take]; omega
              · omega
          · omega
        have L9 : (wrD o 0 X0 Y0).length ≤ 1000000000 := by
          have := RR.lx
          have := RR.ly
          unfold wrD; split
          · split
            · omega
            · split
              · rw [List.length_take]; omega
              · omega
          · omega
        have E1 : Hid (Calls _ _ _ _ _) := EQ.out wc _ _ _ L8 (Rd.later RR.u bx) R8
        have E2 : Hid (∀ n, Calls _ _ _ _ _) := fun n => EQ.out (wc.drewN n) _ _ _ L9 (Rd.drewN (Rd.later RR.v bx) n) (Rd.drewN R9 n)
        have WX : Hid (Below W3.heap.size W3 wc) := below_trans HB.out bx
        clear RR HD CP HP EQ D3 D4 bx R8 R9 L8 L9
        go_wp2_with fail
        refine E1.out.mono ?_
        rintro e w6 ⟨rfl, n6, rfl⟩
        go_wp2_with fail
        refine (E2.out _).mono ?_
        rintro e w7 ⟨rfl, n7, rfl⟩
        go_wp2_with fail
        go_roundw
        case rel => exact ⟨0 + 1, by go_num, by omega, below_drewN WX.out _⟩
        case measure => simp [intOf]
    · have qx := D2.cell 1 _ rfl
      have qy := D2.cell 3 _ rfl
      have qu := D3.cell 1 _ rfl
      have qv := D3.cell 3 _ rfl
      have RR := r1.later WR
      have cx := rd_cap RR.x
      clear r0 r1 D2
      go_upto_if 25 with fail
      go_cut [8, 9] from 10 to 71 (fun v8 v9 wx => RndIs wr o 1 X1 Y1 v8 v9 wx)
      case first =>
        clear EQ
        by_cases hf : (1 : Int) = o.file
        · have bf : ((1 : Int) == o.file) = true := by simpa using hf
          by_cases k12 : o.kind = 1 ∨ o.kind = 2
          · have e8 : Hid (wrR o 1 X1 = X1 ++ handedL o) := by show _ = _; unfold wrR; rw [if_pos hf, if_pos k12]
            have e9 : Hid (wrD o 1 X1 Y1 = Y1) := by show _ = _; unfold wrD; rw [if_pos hf, if_neg (by omega), if_neg (by omega)]
            have bk : (o.kind == 1) = true ∨ ((o.kind == 1) = false ∧ (o.kind == 2) = true) := by
              rcases k12 with e | e
              · left; rw [e]; rfl
              · right; rw [e]; exact ⟨rfl, rfl⟩
            have LX := RR.lx
            have XX : Hid (RdB wr (.slice a1 X1.length c1) X1) := RR.x
            have YY : Hid (RdB wr (.slice a3 Y1.length c3) Y1) := RR.y
            have FR : Below wr.heap.size wr wr := Below.refl _ _
            have one := one_bv (handedL o)
            have l1 : (X1.map bv).length + ((handedL o).map bv).length ≤ maxLen := by rw [List.length_map, List.length_map]; unfold maxLen; omega
            have l2 : ((X1.map bv).length + ((handedL o).map bv).length) * 1 ≤ 140737488355328 := by rw [List.length_map, List.length_map]; omega
            clear RR k12 hf
            rcases bk with bk1 | ⟨bk1, bk2⟩
            all_goals
              go_upto_region 10 with fail
              go_region_held3 (fun w' => w'.cell? ⟨Q, 0, none⟩ = some (.int .i64 o.kind) ∧ w'.cell? ⟨Q, 1, none⟩ = some (.bool o.other) ∧ w'.cell? ⟨Q, 2, none⟩ = some (.int .i64 o.file) ∧ w'.cell? ⟨Q, 3, none⟩ = some (.int .i64 o.a) ∧ w'.cell? ⟨Q, 4, none⟩ = some (.int .i64 o.b) ∧ w'.cell? ⟨Q, 5, none⟩ = some (.slice x o.data.length c)) (first | exact ⟨by assumption, by assumption, by assumption, by assumption, by assumption, by assumption⟩ | go_keep)
                ((first
                | (go_at_call 11; refine (CP.out _ _ X1 LX (by first | exact Rd.later XX.out FR | exact Rd.drewN (Rd.later XX.out FR) 1 | exact Rd.drewN (Rd.later XX.out FR) 2)).mono ?_; rintro e wn ⟨vn, rfl, rn, bn⟩; have GR : Below wr.heap.size wr wn := (by first | exact below_trans FR bn | exact below_trans (below_drewN FR 1) bn | exact below_trans (below_drewN FR 2) bn); have own : RowB 5 wr.heap.size wn vn X1 := rn.mono FR.size; have hd := Rd.later hd (by first | exact bn | exact below_drewN' (n := 1) bn | exact below_drewN' (n := 2) bn); clear rn bn FR p0 p1 p2 p3 p4 p5; have FR := GR; clear GR; obtain ⟨p0, p1, p2, p3, p4, p5⟩ := HP.out _ FR)
                | (go_at_call 11; refine (CP.out _ _ X1 LX (by first | exact Rd.later XX.out FR | exact Rd.drewN (Rd.later XX.out FR) 1 | exact Rd.drewN (Rd.later XX.out FR) 2)).mono ?_; rintro e wn ⟨vn, rfl, rn, bn⟩; have GR : Below wr.heap.size wr wn := (by first | exact below_trans FR bn | exact below_trans (below_drewN FR 1) bn | exact below_trans (below_drewN FR 2) bn); have own : RowB 5 wr.heap.size wn vn X1 := rn.mono FR.size; clear rn bn FR p0 p1 p2 p3 p4 p5; have FR := GR; clear GR; obtain ⟨p0, p1, p2, p3, p4, p5⟩ := HP.out _ FR)
                | (go_at_call 40; refine (HD.out _ (by first | exact below_trans WR FR | exact below_drewN (below_trans WR FR) 1 | exact below_drewN (below_trans WR FR) 2)).mono ?_; rintro e wm ⟨vm, rfl, rm, bm⟩; have GR : Below wr.heap.size wr wm := (by first | exact below_trans FR bm | exact below_trans (below_drewN FR 1) bm | exact below_trans (below_drewN FR 2) bm); have hd : RdB wm vm (handedL o) := rm.rd; have own := RowV.later own (by first | exact bm | exact below_drewN' (n := 1) bm | exact below_drewN' (n := 2) bm); clear rm bm FR p0 p1 p2 p3 p4 p5; have FR := GR; clear GR; obtain ⟨p0, p1, p2, p3, p4, p5⟩ := HP.out _ FR)
                | (go_at_call 40; refine (HD.out _ (by first | exact below_trans WR FR | exact below_drewN (below_trans WR FR) 1 | exact below_drewN (below_trans WR FR) 2)).mono ?_; rintro e wm ⟨vm, rfl, rm, bm⟩; have GR : Below wr.heap.size wr wm := (by first | exact below_trans FR bm | exact below_trans (below_drewN FR 1) bm | exact below_trans (below_drewN FR 2) bm); have hd : RdB wm vm (handedL o) := rm.rd; clear rm bm FR p0 p1 p2 p3 p4 p5; have FR := GR; clear GR; obtain ⟨p0, p1, p2, p3, p4, p5⟩ := HP.out _ FR)
                | (refine step_catV (by rfl) (.tmp 32) (.tmp 34) 22 (by rfl) 5 i0 (.int .u8 0) 1 underB hi hz0 hz1 hz2 rfl wr.heap.size _ _ _ _ one (by simp [Act.eval]) own FR.size (by simp [Act.eval]) hd l1 l2 ?_; intro v5 w5 r5 g5; have FR5 : Below wr.heap.size wr w5 := below_grown FR own (Nat.le_refl _) FR.size g5; obtain ⟨p0, p1, p2, p3, p4, p5⟩ := HP.out _ FR5)
                | fail))
              go_wp2_with fail
              obtain ⟨an, cn, en, _⟩ := row_shape r5
              have r6 : RdB w5 v5 (X1 ++ handedL o) := by rw [RdB, List.map_append]; exact r5.rd
              rw [List.length_append, List.length_map, List.length_map, ← List.length_append] at en
              subst en
              go_meet
              refine ⟨an, cn, a3, c3, by rw [e8.out], by rw [e9.out], by rw [e8.out]; exact r6, by rw [e9.out]; exact Rd.later YY.out FR5, FR5⟩
          · have bk1 : (o.kind == 1) = false := beq_eq_false_iff_ne.2 (by omega)
            have bk2 : (o.kind == 2) = false := beq_eq_false_iff_ne.2 (by omega)
            by_cases k3 : o.kind = 3
            · have e8 : Hid (wrR o 1 X1 = X1) := by show _ = _; unfold wrR; rw [if_pos hf, if_neg k12, if_neg (by omega)]
              have e9 : Hid (wrD o 1 X1 Y1 = X1) := by show _ = _; unfold wrD; rw [if_pos hf, if_pos k3]
              have bk3 : (o.kind == 3) = true := by simpa using k3
              have XX : Hid (RdB wr (.slice a1 X1.length c1) X1) := RR.x
              clear RR HD CP HP k12 hf
              go_wp2_with fail
              go_meet
              exact ⟨a1, c1, a1, c1, by rw [e8.out], by rw [e9.out], by rw [e8.out]; exact XX.out, by rw [e9.out]; exact XX.out, Below.refl _ _⟩
            · have k4 : o.kind = 4 := by omega
              have e8 : Hid (wrR o 1 X1 = X1.take o.a.toNat) := by show _ = _; unfold wrR; rw [if_pos hf, if_neg k12, if_pos k4]
              have e9 : Hid (wrD o 1 X1 Y1 = X1.take o.a.toNat) := by show _ = _; unfold wrD; rw [if_pos hf, if_neg k3, if_pos k4]
              have bk3 : (o.kind == 3) = false := beq_eq_false_iff_ne.2 k3
              have bk4 : (o.kind == 4) = true := by simpa using k4
              have TR := RR.tr k4 hf
              obtain ⟨m, hm⟩ : ∃ m : Nat, o.a = (m : Int) := ⟨o.a.toNat, by omega⟩
              rw [hm] at p3 e8 e9
              rw [Int.toNat_natCast] at e8 e9
              have hm1 : m ≤ X1.length := by omega
              have g1 : decide ((m : Int) < 0) = false := decide_eq_false (by omega)
              have g2 : decide ((X1.length : Int) < (m : Int)) = false := decide_eq_false (by omega)
              have hmc : m ≤ c1 := by omega
              have tl : Hid ((X1.take m).length = m) := by show _ = _; rw [List.length_take]; omega
              have XX : Hid (RdB wr (.slice a1 m c1) (X1.take m)) := by
                have := Rd.cut RR.x hm1
                rw [← List.map_take] at this; exact this
              clear RR HD CP HP k12 hf TR hm
              go_wp2_with fail
              go_meet
              exact ⟨a1, c1, a1, c1, by rw [e8.out, tl.out], by rw [e9.out, tl.out], by rw [e8.out, tl.out]; exact XX.out, by rw [e9.out, tl.out]; exact XX.out, Below.refl _ _⟩
        · have bf : ((1 : Int) == o.file) = false := beq_eq_false_iff_ne.2 hf
          have e8 : Hid (wrR o 1 X1 = X1) := by show _ = _; unfold wrR; rw [if_neg hf]
          have e9 : Hid (wrD o 1 X1 Y1 = Y1) := by show _ = _; unfold wrD; rw [if_neg hf]
          have XX : Hid (RdB wr (.slice a1 X1.length c1) X1 ∧ RdB wr (.slice a3 Y1.length c3) Y1) := ⟨RR.x, RR.y⟩
          clear RR HD CP HP hf
          go_wp2_with fail
          go_meet
          exact ⟨a1, c1, a3, c3, by rw [e8.out], by rw [e9.out], by rw [e8.out]; exact XX.out.1, by rw [e9.out]; exact XX.out.2, Below.refl _ _⟩
      case rest =>
        obtain ⟨a8, c8, a9, c9, rfl, rfl, R8, R9, bx⟩ := hcut
        have D4 := D3.below bx
        have qu := D4.cell 1 _ rfl
        have qv := D4.cell 3 _ rfl
        have L8 : (wrR o 1 X1).length ≤ 1000000000 := by
          have := RR.lx
          unfold wrR; split
          · split
            · rw [List.length_append]; omega
            · split
              · rw [List.length_take]; omega
              · omega
          · omega
        have L9 : (wrD o 1 X1 Y1).length ≤ 1000000000 := by
          have := RR.lx
          have := RR.ly
          unfold wrD; split
          · split
            · omega
            · split
              · rw [List.length_take]; omega
              · omega
          · omega
        have E1 : Hid (Calls _ _ _ _ _) := EQ.out wc _ _ _ L8 (Rd.later RR.u bx) R8
        have E2 : Hid (∀ n, Calls _ _ _ _ _) := fun n => EQ.out (wc.drewN n) _ _ _ L9 (Rd.drewN (Rd.later RR.v bx) n) (Rd.drewN R9 n)
        have WX : Hid (Below W3.heap.size W3 wc) := below_trans HB.out bx
        clear RR HD CP HP EQ D3 D4 bx R8 R9 L8 L9
        go_wp2_with fail
        refine E1.out.mono ?_
        rintro e w6 ⟨rfl, n6, rfl⟩
        go_wp2_with fail
        refine (E2.out _).mono ?_
        rintro e w7 ⟨rfl, n7, rfl⟩
        go_wp2_with fail
        go_roundw
        case rel => exact ⟨1 + 1, by go_num, by omega, below_drewN WX.out _⟩
        case measure => simp [intOf]
    · have FIN : Hid (Below w.heap.size w wr) := WR
      clear WR r0 r1 HD CP EQ
      go_wp2_with fail
      go_ret
      exact ⟨rfl, FIN.out⟩
end Go.Proofs.Ytabedehmlpfjaaa
