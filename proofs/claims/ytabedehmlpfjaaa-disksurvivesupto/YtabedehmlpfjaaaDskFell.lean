/-
  Ours: fell.
-/
import Derived.Test.YtabedehmlpfjaaaDskWrote
namespace Go.Proofs.Ytabedehmlpfjaaa
open Go.RowKit

def flR (o : OpD) (f : Int) (X : List Nat) : List Nat := if f = o.file ∧ (o.kind = 1 ∨ o.kind = 2) then X ++ handedL o else X
/-- What a round of fell looks at: all bytes that were, the durable ones that were, those that are. -/
structure Fel (w : World) (o : OpD) (f : Int) (aX : Option Addr) (cX : Nat) (aY : Option Addr) (cY : Nat) (aV : Option Addr) (nV cV : Nat) (X Y V : List Nat) : Prop where
  x : RdB w (.slice aX X.length cX) X
  y : RdB w (.slice aY Y.length cY) Y
  v : RdB w (.slice aV nV cV) V
  p1 : Y <+: V
  p2 : V <+: flR o f X
  lx : X.length ≤ 100000000
  ly : Y.length ≤ 100000000
  lv : V.length ≤ 100000000
theorem Fel.later {w w' : World} {o : OpD} {f : Int} {aX : Option Addr} {cX : Nat} {aY : Option Addr} {cY : Nat} {aV : Option Addr} {nV cV : Nat} {X Y V : List Nat} (h : Fel w o f aX cX aY cY aV nV cV X Y V) (hb : Below w.heap.size w w') : Fel w' o f aX cX aY cY aV nV cV X Y V :=
  ⟨Rd.later h.x hb, Rd.later h.y hb, Rd.later h.v hb, h.p1, h.p2, h.lx, h.ly, h.lv⟩
def FelIs (w : World) (o : OpD) (f : Int) (X : List Nat) (v8 : Value) (wx : World) : Prop :=
  ∃ a8 c8, v8 = .slice a8 (flR o f X).length c8 ∧ RdB wx (.slice a8 (flR o f X).length c8) (flR o f X) ∧ Below w.heap.size w wx

set_option maxRecDepth 100000 in
set_option maxHeartbeats 2000000 in
theorem fell_at (o : OpD) (x : Option Addr) (c : Nat) (w : World) (hl : o.data.length ≤ 1048576) (h : RdB w (.slice x o.data.length c) o.data) (hk : 1 ≤ o.kind ∧ o.kind ≤ 4)
    (a0 a1 a2 a3 b0 b1 b2 b3 : Option Addr) (c0 c1 c2 c3 m0 d0 m1 d1 m2 d2 m3 d3 : Nat) (dn dn' : Bool) (X0 X1 Y0 Y1 V0 V1 : List Nat)
    (r0 : Fel w o 0 a0 c0 a2 c2 b2 m2 d2 X0 Y0 V0) (r1 : Fel w o 1 a1 c1 a3 c3 b3 m3 d3 X1 Y1 V1) :
    Calls Try.prog 27 #[opd o x c, .agg (SD a0 X0.length c0 a1 X1.length c1 a2 Y0.length c2 a3 Y1.length c3 dn).toArray, .agg (SD b0 m0 d0 b1 m1 d1 b2 m2 d2 b3 m3 d3 dn').toArray] w fun e w' => e = .returned (.bool true) ∧ Below w.heap.size w w' := by
  obtain ⟨i0, hi, hz0, hz1, hz2⟩ := info_parts infoB
  have HL := handedL_len hl
  obtain ⟨ov, hov⟩ : ∃ ov, opd o x c = ov := ⟨_, rfl⟩
  have HD : Hid (∀ w', Below w.heap.size w w' → Calls Try.prog 40 #[.agg #[.int .i64 o.kind, .bool o.other, .int .i64 o.file, .int .i64 o.a, .int .i64 o.b, .slice x o.data.length c]] w' (NewB w' (handedL o))) := fun w' hb => handed_at o x c w' hl (Rd.later h hb)
  have CP : Hid (∀ w' (v : Value) (X : List Nat), X.length ≤ 100000000 → RdB w' v X → Calls Try.prog 11 #[v] w' (NewB w' X)) := fun w' v X hl h => lcopied_at X v w' (by omega) h
  have BG : Hid (∀ w' (a b : Option Addr) (n m c d : Nat) (X V : List Nat), X.length ≤ 1000000000 → RdB w' (.slice a n c) X → RdB w' (.slice b m d) V → X <+: V → Calls Try.prog 43 #[.slice a n c, .slice b m d] w' fun e w'' => e = .returned (.bool true) ∧ ∃ n, w'' = w'.drewN n) := fun w' a b n m c d X V hl h1 h2 hp => by
    have := begins_at X V a b n m c d w' (by omega) h1 h2
    rw [decide_eq_true hp] at this
    exact this
  have k1 : decide (o.kind < 1) = false := decide_eq_false (by omega)
  have k4 : decide (4 < o.kind) = false := decide_eq_false (by omega)
  have BA := below_alloc w (.cells (OD o.kind o.other o.file o.a o.b x o.data.length c).toArray 35)
  have B1 := Blk.new 35 (OD o.kind o.other o.file o.a o.b x o.data.length c) w
  have sz1 : (w.alloc (.cells (OD o.kind o.other o.file o.a o.b x o.data.length c).toArray 35)).heap.size = w.heap.size + 1 := by simp
  unfold opd
  clear hov
  generalize hW1 : w.alloc (.cells (OD o.kind o.other o.file o.a o.b x o.data.length c).toArray 35) = W1 at *
  have BB := below_alloc W1 (.cells (SD a0 X0.length c0 a1 X1.length c1 a2 Y0.length c2 a3 Y1.length c3 dn).toArray 30)
  have B2 := Blk.new 30 (SD a0 X0.length c0 a1 X1.length c1 a2 Y0.length c2 a3 Y1.length c3 dn) W1
  rw [sz1] at B2
  have sz2 : (W1.alloc (.cells (SD a0 X0.length c0 a1 X1.length c1 a2 Y0.length c2 a3 Y1.length c3 dn).toArray 30)).heap.size = w.heap.size + 2 := by simp [sz1]
  generalize hW2 : W1.alloc (.cells (SD a0 X0.length c0 a1 X1.length c1 a2 Y0.length c2 a3 Y1.length c3 dn).toArray 30) = W2 at *
  have BC := below_alloc W2 (.cells (SD b0 m0 d0 b1 m1 d1 b2 m2 d2 b3 m3 d3 dn').toArray 30)
  have B3 := Blk.new 30 (SD b0 m0 d0 b1 m1 d1 b2 m2 d2 b3 m3 d3 dn') W2
  rw [sz2] at B3
  have B1 := (B1.below BB).below BC
  have B2 := B2.below BC
  have WB := below_trans (below_trans BA BB) BC
  subst hW2 hW1
  go_enter Try.func27, Try.ntmps27
  go_upto_region 1 with fail
  generalize ((w.alloc (.cells (OD o.kind o.other o.file o.a o.b x o.data.length c).toArray 35)).alloc (.cells (SD a0 X0.length c0 a1 X1.length c1 a2 Y0.length c2 a3 Y1.length c3 dn).toArray 30)).alloc (.cells (SD b0 m0 d0 b1 m1 d1 b2 m2 d2 b3 m3 d3 dn').toArray 30) = W3 at *
  obtain ⟨Q, hQ⟩ : ∃ Q, w.heap.size = Q := ⟨_, rfl⟩
  rw [hQ] at B1 B2 B3 ⊢
  clear hQ BA BB BC sz1 sz2 h hl
  have z0 := B1.cell 0 _ rfl
  go_wp2_with fail
  clear z0
  go_loopw [7] (fun vf wr => ∃ f : Nat, vf = .int .i64 (f : Int) ∧ f ≤ 2 ∧ Below W3.heap.size W3 wr) (fun vf _ => 2 - (intOf vf).toNat)
  case atStart => exact ⟨0, rfl, by omega, Below.refl _ _⟩
  case round =>
    obtain ⟨f, rfl, hf, hb⟩ := hrel
    have D1 := B1.below hb
    have D2 := B2.below hb
    have D3 := B3.below hb
    have WR : Below w.heap.size w wr := below_trans WB hb
    have p0 := D1.cell 0 _ rfl
    have p1 := D1.cell 1 _ rfl
    have p2 := D1.cell 2 _ rfl
    have p3 := D1.cell 3 _ rfl
    have p4 := D1.cell 4 _ rfl
    have p5 := D1.cell 5 _ rfl
    have HP : Hid (∀ w', Below wr.heap.size wr w' → w'.cell? ⟨Q, 0, none⟩ = some (.int .i64 o.kind) ∧ w'.cell? ⟨Q, 1, none⟩ = some (.bool o.other) ∧ w'.cell? ⟨Q, 2, none⟩ = some (.int .i64 o.file) ∧ w'.cell? ⟨Q, 3, none⟩ = some (.int .i64 o.a) ∧ w'.cell? ⟨Q, 4, none⟩ = some (.int .i64 o.b) ∧ w'.cell? ⟨Q, 5, none⟩ = some (.slice x o.data.length c)) := fun w' hb' => by
      have D := D1.below hb'
      exact ⟨D.cell 0 _ rfl, D.cell 1 _ rfl, D.cell 2 _ rfl, D.cell 3 _ rfl, D.cell 4 _ rfl, D.cell 5 _ rfl⟩
    have HB : Hid (Below W3.heap.size W3 wr) := hb
    clear hb B1 B2 B3 D1 WB
    obtain rfl | rfl | rfl : f = 0 ∨ f = 1 ∨ f = 2 := by omega
    · have qx := D2.cell 0 _ rfl
      have qy := D2.cell 2 _ rfl
      have qu := D3.cell 0 _ rfl
      have qv := D3.cell 2 _ rfl
      have RR := r0.later WR
      have cx := rd_cap RR.x
      clear r0 r1
      go_upto_region 7 with fail
      go_cut [38] from 17 to 62 (fun v38 wx => v38 = .bool (decide ((0 : Int) = o.file ∧ (o.kind = 1 ∨ o.kind = 2))) ∧ wx = wr)
      case first =>
        clear BG CP HD RR HP
        by_cases hf : (0 : Int) = o.file
        · have bf : ((0 : Int) == o.file) = true := by simpa using hf
          by_cases h1 : o.kind = 1
          · have b1 : (o.kind == 1) = true := by simpa using h1
            have DD : Hid (decide ((0 : Int) = o.file ∧ (o.kind = 1 ∨ o.kind = 2)) = true) := decide_eq_true ⟨hf, .inl h1⟩
            clear hf h1
            go_wp2_with fail
            go_meet
            exact ⟨by rw [DD.out], rfl⟩
          · have b1 : (o.kind == 1) = false := beq_eq_false_iff_ne.2 h1
            by_cases h2 : o.kind = 2
            · have b2 : (o.kind == 2) = true := by simpa using h2
              have DD : Hid (decide ((0 : Int) = o.file ∧ (o.kind = 1 ∨ o.kind = 2)) = true) := decide_eq_true ⟨hf, .inr h2⟩
              clear hf h1 h2
              go_wp2_with fail
              go_meet
              exact ⟨by rw [DD.out], rfl⟩
            · have b2 : (o.kind == 2) = false := beq_eq_false_iff_ne.2 h2
              have DD : Hid (decide ((0 : Int) = o.file ∧ (o.kind = 1 ∨ o.kind = 2)) = false) := decide_eq_false (fun h => by rcases h.2 with h | h <;> contradiction)
              clear hf h1 h2
              go_wp2_with fail
              go_meet
              exact ⟨by rw [DD.out], rfl⟩
        · have bf : ((0 : Int) == o.file) = false := beq_eq_false_iff_ne.2 hf
          have DD : Hid (decide ((0 : Int) = o.file ∧ (o.kind = 1 ∨ o.kind = 2)) = false) := decide_eq_false (fun h => hf h.1)
          clear hf
          go_wp2_with fail
          go_meet
          exact ⟨by rw [DD.out], rfl⟩
      case rest =>
      obtain ⟨rfl, rfl⟩ := hcut
      obtain ⟨wq, hwq⟩ : ∃ y, y = wc := ⟨_, rfl⟩
      subst hwq
      have HW : Hid (Below W3.heap.size W3 wq) := HB
      go_upto_if 38 with fail
      go_cut [8] from 17 to 62 (fun v8 wx => FelIs wq o 0 X0 v8 wx)
      case first =>
        clear BG
        by_cases hc : ((0 : Int) = o.file ∧ (o.kind = 1 ∨ o.kind = 2))
        · have DD : decide ((0 : Int) = o.file ∧ (o.kind = 1 ∨ o.kind = 2)) = true := decide_eq_true hc
          have e8 : Hid (flR o 0 X0 = X0 ++ handedL o) := by show _ = _; unfold flR; rw [if_pos hc]
          have LX := RR.lx
          have XX : Hid (RdB wq (.slice a0 X0.length c0) X0) := RR.x
          have FR : Below wq.heap.size wq wq := Below.refl _ _
          have one := one_bv (handedL o)
          have l1 : (X0.map bv).length + ((handedL o).map bv).length ≤ maxLen := by rw [List.length_map, List.length_map]; unfold maxLen; omega
          have l2 : ((X0.map bv).length + ((handedL o).map bv).length) * 1 ≤ 140737488355328 := by rw [List.length_map, List.length_map]; omega
          rw [DD]
          clear RR hc DD
          go_upto_region 8 with fail
          go_region_held3 (fun w' => w'.cell? ⟨Q, 0, none⟩ = some (.int .i64 o.kind) ∧ w'.cell? ⟨Q, 1, none⟩ = some (.bool o.other) ∧ w'.cell? ⟨Q, 2, none⟩ = some (.int .i64 o.file) ∧ w'.cell? ⟨Q, 3, none⟩ = some (.int .i64 o.a) ∧ w'.cell? ⟨Q, 4, none⟩ = some (.int .i64 o.b) ∧ w'.cell? ⟨Q, 5, none⟩ = some (.slice x o.data.length c)) (first | exact ⟨by assumption, by assumption, by assumption, by assumption, by assumption, by assumption⟩ | go_keep)
                ((first
                | (go_at_call 11; refine (CP.out _ _ X0 LX (by first | exact Rd.later XX.out FR | exact Rd.drewN (Rd.later XX.out FR) 1 | exact Rd.drewN (Rd.later XX.out FR) 2)).mono ?_; rintro e wn ⟨vn, rfl, rn, bn⟩; have GR : Below wq.heap.size wq wn := (by first | exact below_trans FR bn | exact below_trans (below_drewN FR 1) bn | exact below_trans (below_drewN FR 2) bn); have own : RowB 5 wq.heap.size wn vn X0 := rn.mono FR.size; have hd := Rd.later hd (by first | exact bn | exact below_drewN' (n := 1) bn | exact below_drewN' (n := 2) bn); clear rn bn FR p0 p1 p2 p3 p4 p5; have FR := GR; clear GR; obtain ⟨p0, p1, p2, p3, p4, p5⟩ := HP.out _ FR)
                | (go_at_call 11; refine (CP.out _ _ X0 LX (by first | exact Rd.later XX.out FR | exact Rd.drewN (Rd.later XX.out FR) 1 | exact Rd.drewN (Rd.later XX.out FR) 2)).mono ?_; rintro e wn ⟨vn, rfl, rn, bn⟩; have GR : Below wq.heap.size wq wn := (by first | exact below_trans FR bn | exact below_trans (below_drewN FR 1) bn | exact below_trans (below_drewN FR 2) bn); have own : RowB 5 wq.heap.size wn vn X0 := rn.mono FR.size; clear rn bn FR p0 p1 p2 p3 p4 p5; have FR := GR; clear GR; obtain ⟨p0, p1, p2, p3, p4, p5⟩ := HP.out _ FR)
                | (go_at_call 40; refine (HD.out _ (by first | exact below_trans WR FR | exact below_drewN (below_trans WR FR) 1 | exact below_drewN (below_trans WR FR) 2)).mono ?_; rintro e wm ⟨vm, rfl, rm, bm⟩; have GR : Below wq.heap.size wq wm := (by first | exact below_trans FR bm | exact below_trans (below_drewN FR 1) bm | exact below_trans (below_drewN FR 2) bm); have hd : RdB wm vm (handedL o) := rm.rd; have own := RowV.later own (by first | exact bm | exact below_drewN' (n := 1) bm | exact below_drewN' (n := 2) bm); clear rm bm FR p0 p1 p2 p3 p4 p5; have FR := GR; clear GR; obtain ⟨p0, p1, p2, p3, p4, p5⟩ := HP.out _ FR)
                | (go_at_call 40; refine (HD.out _ (by first | exact below_trans WR FR | exact below_drewN (below_trans WR FR) 1 | exact below_drewN (below_trans WR FR) 2)).mono ?_; rintro e wm ⟨vm, rfl, rm, bm⟩; have GR : Below wq.heap.size wq wm := (by first | exact below_trans FR bm | exact below_trans (below_drewN FR 1) bm | exact below_trans (below_drewN FR 2) bm); have hd : RdB wm vm (handedL o) := rm.rd; clear rm bm FR p0 p1 p2 p3 p4 p5; have FR := GR; clear GR; obtain ⟨p0, p1, p2, p3, p4, p5⟩ := HP.out _ FR)
                | (refine step_catV (by rfl) (.tmp 40) (.tmp 42) 22 (by rfl) 5 i0 (.int .u8 0) 1 underB hi hz0 hz1 hz2 rfl wq.heap.size _ _ _ _ one (by simp [Act.eval]) own FR.size (by simp [Act.eval]) hd l1 l2 ?_; intro v5 w5 r5 g5; have FR5 : Below wq.heap.size wq w5 := below_grown FR own (Nat.le_refl _) FR.size g5; obtain ⟨p0, p1, p2, p3, p4, p5⟩ := HP.out _ FR5)
                | fail))
          go_wp2_with fail
          obtain ⟨an, cn, en, _⟩ := row_shape r5
          have r6 : RdB w5 v5 (X0 ++ handedL o) := by rw [RdB, List.map_append]; exact r5.rd
          rw [List.length_append, List.length_map, List.length_map, ← List.length_append] at en
          subst en
          go_meet
          refine ⟨an, cn, by rw [e8.out], by rw [e8.out]; exact r6, FR5⟩
        · have DD : decide ((0 : Int) = o.file ∧ (o.kind = 1 ∨ o.kind = 2)) = false := decide_eq_false hc
          have e8 : Hid (flR o 0 X0 = X0) := by show _ = _; unfold flR; rw [if_neg hc]
          have XX : Hid (RdB wq (.slice a0 X0.length c0) X0) := RR.x
          rw [DD]
          clear RR HD CP HP hc DD
          go_wp2_with fail
          go_meet
          exact ⟨a0, c0, by rw [e8.out], by rw [e8.out]; exact XX.out, Below.refl _ _⟩
      case rest =>
        obtain ⟨a8, c8, rfl, R8, bx⟩ := hcut
        have D4 := D3.below bx
        have E4 := D2.below bx
        have qv := D4.cell 2 _ rfl
        have qy := E4.cell 2 _ rfl
        have QB : Hid (∀ n (v1 v2 : Value), (v1 = .slice a2 Y0.length c2 ∧ v2 = .slice b2 m2 d2) ∨ (v1 = .slice b2 m2 d2 ∧ v2 = .slice a8 (flR o 0 X0).length c8) → Calls Try.prog 43 #[v1, v2] (wc.drewN n) fun e w'' => e = .returned (.bool true) ∧ ∃ m, w'' = (wc.drewN n).drewN m) := fun n v1 v2 h => by
          rcases h with ⟨rfl, rfl⟩ | ⟨rfl, rfl⟩
          · exact BG.out (wc.drewN n) _ _ _ _ _ _ Y0 V0 (by have := RR.ly; omega) (Rd.drewN (Rd.later RR.y bx) n) (Rd.drewN (Rd.later RR.v bx) n) RR.p1
          · exact BG.out (wc.drewN n) _ _ _ _ _ _ V0 (flR o 0 X0) (by have := RR.lv; omega) (Rd.drewN (Rd.later RR.v bx) n) (Rd.drewN R8 n) RR.p2
        have WX : Hid (Below W3.heap.size W3 wc) := below_trans HW.out bx
        clear RR HD CP HP BG D3 D2 D4 E4 bx R8
        go_upto_region 9 with fail
        go_quiet ((go_at_call 43; exact Calls.quiet_of (QB.out _ _ _ (by first | exact .inl ⟨rfl, rfl⟩ | exact .inr ⟨rfl, rfl⟩))))
        go_wp2_with fail
        go_roundw
        case rel => exact ⟨0 + 1, by go_num, by omega, below_drewN WX.out _⟩
        case measure => simp [intOf]
    · have qx := D2.cell 1 _ rfl
      have qy := D2.cell 3 _ rfl
      have qu := D3.cell 1 _ rfl
      have qv := D3.cell 3 _ rfl
      have RR := r1.later WR
      have cx := rd_cap RR.x
      clear r0 r1
      go_upto_region 7 with fail
      go_cut [38] from 17 to 62 (fun v38 wx => v38 = .bool (decide ((1 : Int) = o.file ∧ (o.kind = 1 ∨ o.kind = 2))) ∧ wx = wr)
      case first =>
        clear BG CP HD RR HP
        by_cases hf : (1 : Int) = o.file
        · have bf : ((1 : Int) == o.file) = true := by simpa using hf
          by_cases h1 : o.kind = 1
          · have b1 : (o.kind == 1) = true := by simpa using h1
            have DD : Hid (decide ((1 : Int) = o.file ∧ (o.kind = 1 ∨ o.kind = 2)) = true) := decide_eq_true ⟨hf, .inl h1⟩
            clear hf h1
            go_wp2_with fail
            go_meet
            exact ⟨by rw [DD.out], rfl⟩
          · have b1 : (o.kind == 1) = false := beq_eq_false_iff_ne.2 h1
            by_cases h2 : o.kind = 2
            · have b2 : (o.kind == 2) = true := by simpa using h2
              have DD : Hid (decide ((1 : Int) = o.file ∧ (o.kind = 1 ∨ o.kind = 2)) = true) := decide_eq_true ⟨hf, .inr h2⟩
              clear hf h1 h2
              go_wp2_with fail
              go_meet
              exact ⟨by rw [DD.out], rfl⟩
            · have b2 : (o.kind == 2) = false := beq_eq_false_iff_ne.2 h2
              have DD : Hid (decide ((1 : Int) = o.file ∧ (o.kind = 1 ∨ o.kind = 2)) = false) := decide_eq_false (fun h => by rcases h.2 with h | h <;> contradiction)
              clear hf h1 h2
              go_wp2_with fail
              go_meet
              exact ⟨by rw [DD.out], rfl⟩
        · have bf : ((1 : Int) == o.file) = false := beq_eq_false_iff_ne.2 hf
          have DD : Hid (decide ((1 : Int) = o.file ∧ (o.kind = 1 ∨ o.kind = 2)) = false) := decide_eq_false (fun h => hf h.1)
          clear hf
          go_wp2_with fail
          go_meet
          exact ⟨by rw [DD.out], rfl⟩
      case rest =>
      obtain ⟨rfl, rfl⟩ := hcut
      obtain ⟨wq, hwq⟩ : ∃ y, y = wc := ⟨_, rfl⟩
      subst hwq
      have HW : Hid (Below W3.heap.size W3 wq) := HB
      go_upto_if 38 with fail
      go_cut [8] from 17 to 62 (fun v8 wx => FelIs wq o 1 X1 v8 wx)
      case first =>
        clear BG
        by_cases hc : ((1 : Int) = o.file ∧ (o.kind = 1 ∨ o.kind = 2))
        · have DD : decide ((1 : Int) = o.file ∧ (o.kind = 1 ∨ o.kind = 2)) = true := decide_eq_true hc
          have e8 : Hid (flR o 1 X1 = X1 ++ handedL o) := by show _ = _; unfold flR; rw [if_pos hc]
          have LX := RR.lx
          have XX : Hid (RdB wq (.slice a1 X1.length c1) X1) := RR.x
          have FR : Below wq.heap.size wq wq := Below.refl _ _
          have one := one_bv (handedL o)
          have l1 : (X1.map bv).length + ((handedL o).map bv).length ≤ maxLen := by rw [List.length_map, List.length_map]; unfold maxLen; omega
          have l2 : ((X1.map bv).length + ((handedL o).map bv).length) * 1 ≤ 140737488355328 := by rw [List.length_map, List.length_map]; omega
          rw [DD]
          clear RR hc DD
          go_upto_region 8 with fail
          go_region_held3 (fun w' => w'.cell? ⟨Q, 0, none⟩ = some (.int .i64 o.kind) ∧ w'.cell? ⟨Q, 1, none⟩ = some (.bool o.other) ∧ w'.cell? ⟨Q, 2, none⟩ = some (.int .i64 o.file) ∧ w'.cell? ⟨Q, 3, none⟩ = some (.int .i64 o.a) ∧ w'.cell? ⟨Q, 4, none⟩ = some (.int .i64 o.b) ∧ w'.cell? ⟨Q, 5, none⟩ = some (.slice x o.data.length c)) (first | exact ⟨by assumption, by assumption, by assumption, by assumption, by assumption, by assumption⟩ | go_keep)
                ((first
                | (go_at_call 11; refine (CP.out _ _ X1 LX (by first | exact Rd.later XX.out FR | exact Rd.drewN (Rd.later XX.out FR) 1 | exact Rd.drewN (Rd.later XX.out FR) 2)).mono ?_; rintro e wn ⟨vn, rfl, rn, bn⟩; have GR : Below wq.heap.size wq wn := (by first | exact below_trans FR bn | exact below_trans (below_drewN FR 1) bn | exact below_trans (below_drewN FR 2) bn); have own : RowB 5 wq.heap.size wn vn X1 := rn.mono FR.size; have hd := Rd.later hd (by first | exact bn | exact below_drewN' (n := 1) bn | exact below_drewN' (n := 2) bn); clear rn bn FR p0 p1 p2 p3 p4 p5; have FR := GR; clear GR; obtain ⟨p0, p1, p2, p3, p4, p5⟩ := HP.out _ FR)
                | (go_at_call 11; refine (CP.out _ _ X1 LX (by first | exact Rd.later XX.out FR | exact Rd.drewN (Rd.later XX.out FR) 1 | exact Rd.drewN (Rd.later XX.out FR) 2)).mono ?_; rintro e wn ⟨vn, rfl, rn, bn⟩; have GR : Below wq.heap.size wq wn := (by first | exact below_trans FR bn | exact below_trans (below_drewN FR 1) bn | exact below_trans (below_drewN FR 2) bn); have own : RowB 5 wq.heap.size wn vn X1 := rn.mono FR.size; clear rn bn FR p0 p1 p2 p3 p4 p5; have FR := GR; clear GR; obtain ⟨p0, p1, p2, p3, p4, p5⟩ := HP.out _ FR)
                | (go_at_call 40; refine (HD.out _ (by first | exact below_trans WR FR | exact below_drewN (below_trans WR FR) 1 | exact below_drewN (below_trans WR FR) 2)).mono ?_; rintro e wm ⟨vm, rfl, rm, bm⟩; have GR : Below wq.heap.size wq wm := (by first | exact below_trans FR bm | exact below_trans (below_drewN FR 1) bm | exact below_trans (below_drewN FR 2) bm); have hd : RdB wm vm (handedL o) := rm.rd; have own := RowV.later own (by first | exact bm | exact below_drewN' (n := 1) bm | exact below_drewN' (n := 2) bm); clear rm bm FR p0 p1 p2 p3 p4 p5; have FR := GR; clear GR; obtain ⟨p0, p1, p2, p3, p4, p5⟩ := HP.out _ FR)
                | (go_at_call 40; refine (HD.out _ (by first | exact below_trans WR FR | exact below_drewN (below_trans WR FR) 1 | exact below_drewN (below_trans WR FR) 2)).mono ?_; rintro e wm ⟨vm, rfl, rm, bm⟩; have GR : Below wq.heap.size wq wm := (by first | exact below_trans FR bm | exact below_trans (below_drewN FR 1) bm | exact below_trans (below_drewN FR 2) bm); have hd : RdB wm vm (handedL o) := rm.rd; clear rm bm FR p0 p1 p2 p3 p4 p5; have FR := GR; clear GR; obtain ⟨p0, p1, p2, p3, p4, p5⟩ := HP.out _ FR)
                | (refine step_catV (by rfl) (.tmp 40) (.tmp 42) 22 (by rfl) 5 i0 (.int .u8 0) 1 underB hi hz0 hz1 hz2 rfl wq.heap.size _ _ _ _ one (by simp [Act.eval]) own FR.size (by simp [Act.eval]) hd l1 l2 ?_; intro v5 w5 r5 g5; have FR5 : Below wq.heap.size wq w5 := below_grown FR own (Nat.le_refl _) FR.size g5; obtain ⟨p0, p1, p2, p3, p4, p5⟩ := HP.out _ FR5)
                | fail))
          go_wp2_with fail
          obtain ⟨an, cn, en, _⟩ := row_shape r5
          have r6 : RdB w5 v5 (X1 ++ handedL o) := by rw [RdB, List.map_append]; exact r5.rd
          rw [List.length_append, List.length_map, List.length_map, ← List.length_append] at en
          subst en
          go_meet
          refine ⟨an, cn, by rw [e8.out], by rw [e8.out]; exact r6, FR5⟩
        · have DD : decide ((1 : Int) = o.file ∧ (o.kind = 1 ∨ o.kind = 2)) = false := decide_eq_false hc
          have e8 : Hid (flR o 1 X1 = X1) := by show _ = _; unfold flR; rw [if_neg hc]
          have XX : Hid (RdB wq (.slice a1 X1.length c1) X1) := RR.x
          rw [DD]
          clear RR HD CP HP hc DD
          go_wp2_with fail
          go_meet
          exact ⟨a1, c1, by rw [e8.out], by rw [e8.out]; exact XX.out, Below.refl _ _⟩
      case rest =>
        obtain ⟨a8, c8, rfl, R8, bx⟩ := hcut
        have D4 := D3.below bx
        have E4 := D2.below bx
        have qv := D4.cell 3 _ rfl
        have qy := E4.cell 3 _ rfl
        have QB : Hid (∀ n (v1 v2 : Value), (v1 = .slice a3 Y1.length c3 ∧ v2 = .slice b3 m3 d3) ∨ (v1 = .slice b3 m3 d3 ∧ v2 = .slice a8 (flR o 1 X1).length c8) → Calls Try.prog 43 #[v1, v2] (wc.drewN n) fun e w'' => e = .returned (.bool true) ∧ ∃ m, w'' = (wc.drewN n).drewN m) := fun n v1 v2 h => by
          rcases h with ⟨rfl, rfl⟩ | ⟨rfl, rfl⟩
          · exact BG.out (wc.drewN n) _ _ _ _ _ _ Y1 V1 (by have := RR.ly; omega) (Rd.drewN (Rd.later RR.y bx) n) (Rd.drewN (Rd.later RR.v bx) n) RR.p1
          · exact BG.out (wc.drewN n) _ _ _ _ _ _ V1 (flR o 1 X1) (by have := RR.lv; omega) (Rd.drewN (Rd.later RR.v bx) n) (Rd.drewN R8 n) RR.p2
        have WX : Hid (Below W3.heap.size W3 wc) := below_trans HW.out bx
        clear RR HD CP HP BG D3 D2 D4 E4 bx R8
        go_upto_region 9 with fail
        go_quiet ((go_at_call 43; exact Calls.quiet_of (QB.out _ _ _ (by first | exact .inl ⟨rfl, rfl⟩ | exact .inr ⟨rfl, rfl⟩))))
        go_wp2_with fail
        go_roundw
        case rel => exact ⟨1 + 1, by go_num, by omega, below_drewN WX.out _⟩
        case measure => simp [intOf]
    · have FIN : Hid (Below w.heap.size w wr) := WR
      clear WR r0 r1 HD CP BG
      go_wp2_with fail
      go_ret
      exact ⟨rfl, FIN.out⟩
end Go.Proofs.Ytabedehmlpfjaaa
