/-
  Ours: UpTo: the script is played on two pairs.
-/
import Derived.Test.YtiefnomldfhhnaaDskUp0
import Derived.Deep.CutBlock
import Derived.Deep.CutRange
namespace Go.Proofs.Ytiefnomldfhhnaa
open Go.RowKit

set_option maxRecDepth 100000 in
set_option maxHeartbeats 4000000 in
/-- UpTo's last part: the script. -/
theorem upTo_at (fs ss : List Nat) (os : List OpD) (vf vs vo : Value) (lo hi : Int) (w : World) (hf : fs.length ≤ 1048576) (hs : ss.length ≤ 1048576) (hl : ∀ o ∈ os, o.data.length ≤ 1048576) (hn : os.length ≤ 1048600) (h1 : RdB w vf fs) (h2 : RdB w vs ss) (h3 : RdO w vo os) :
    Calls Try.prog 8 #[vf, vs, vo, .int .i64 lo, .int .i64 hi] w fun e w' => e = .returned (.bool true) ∧ Below w.heap.size w w' := by
  obtain ⟨ao, cap, rfl, hrest⟩ := id h3
  clear hrest
  obtain ⟨fa, fc, rfl, hr1, hr2⟩ := h1.len
  obtain ⟨sa, sc, rfl, hr3, hr4⟩ := h2.len
  clear hr1 hr2 hr3 hr4
  rw [List.length_map] at h1 h2 ⊢
  rw [List.length_map]
  have OPS : Hid (∀ i, i < os.length → ∃ (o : OpD) (g off : Nat) (x : Option Addr) (c : Nat), ao = some ⟨g, off, none⟩ ∧ o.data.length ≤ 1048576 ∧ ∀ w', Below w.heap.size w w' → w'.cell? ⟨g, off + i * 6, none⟩ = some (.int .i64 o.kind) ∧ w'.cell? ⟨g, off + i * 6 + 1, none⟩ = some (.bool o.other) ∧ w'.cell? ⟨g, off + i * 6 + 2, none⟩ = some (.int .i64 o.file) ∧ w'.cell? ⟨g, off + i * 6 + 3, none⟩ = some (.int .i64 o.a) ∧ w'.cell? ⟨g, off + i * 6 + 4, none⟩ = some (.int .i64 o.b) ∧ w'.cell? ⟨g, off + i * 6 + 5, none⟩ = some (.slice x o.data.length c) ∧ RdB w' (.slice x o.data.length c) o.data) := fun i hi => RdO.op h3 hl i hi
  have CP : Hid (∀ (bs : List Nat) v w', bs.length ≤ 1048576 → RdB w' v bs → Calls Try.prog 10 #[v] w' (NewB w' bs)) := fun bs v w' hl hr => lcopied_at bs v w' (by omega) hr
  have LP : Hid (∀ (xs ys : List Nat) va vb w', xs.length ≤ 1048576 → ys.length ≤ 1048576 → RdB w' va xs → RdB w' vb ys → Calls Try.prog 11 #[va, vb] w' (NewD w' (Dk.load xs ys))) := fun xs ys va vb w' h1 h2 h3 h4 => load_at xs ys va vb w' (by omega) (by omega) h3 h4
  have LR : Hid (∀ (xs ys : List Nat) va vb w', xs.length ≤ 1048576 → ys.length ≤ 1048576 → RdB w' va xs → RdB w' vb ys → Calls Try.prog 12 #[va, vb] w' fun e w2 => ∃ y0 y1, e = .returned (.agg (RV y0 y1 Sl.z Sl.z Sl.z 0 false 0).toArray) ∧ RfNew (fun _ => False) w' (Dk.load xs ys) y0 y1 Sl.z Sl.z Sl.z 0 w2) := fun xs ys va vb w' h1 h2 h3 h4 => rload_at xs ys va vb w' (by omega) (by omega) h3 h4
  have NW : Hid (∀ w', Calls Try.prog 13 #[] w' (NewD w' (Dk.load [] []))) := fun w' => new_at w'
  have EQ : Hid (∀ (xs : List Nat) va vb w', xs.length ≤ 100000000 → RdB w' va xs → RdB w' vb xs → Calls Try.prog 14 #[va, vb] w' fun e w2 => e = .returned (.bool true) ∧ Below w'.heap.size w' w2) := fun xs va vb w' hl h1 h2 => (equal_at xs xs va vb w' (by omega) h1 h2).mono fun e w2 ⟨he, m, hw⟩ => ⟨by rw [he]; simp, by rw [hw]; exact below_drewN (Below.refl _ _) m⟩
  have WR : Hid (∀ (p : PD) (w' : World) (o : OpD) (x : Option Addr) (c : Nat), p.In w w' → (0 ≤ p.t.wr ∧ p.t.wr < 4611686018427387904) → (o.data.length ≤ 1048576 ∧ ∀ w', Below w.heap.size w w' → RdB w' (.slice x o.data.length c) o.data) → (1 ≤ o.kind ∧ o.kind ≤ 4) → Calls Try.prog 16 #[.agg p.V.toArray, .agg (OD o.kind o.other o.file o.a o.b x o.data.length c).toArray] w' fun e w2 => ∃ p', e = .returned (.tuple #[.agg (PD.V p').toArray, .bool true]) ∧ PD.Post w p w' p' w2) := fun p w' o x c h hw hd hk => step_write w p w' h hw o x c hd.1 hd.2 hk
  have OR : Hid (∀ (p : PD) (w' : World) (o : OpD) (x : Option Addr) (c : Nat), p.In w w' → (0 ≤ p.t.wr ∧ p.t.wr < 4611686018427387904) → ¬ (1 ≤ o.kind ∧ o.kind ≤ 4) → Calls Try.prog 17 #[.agg p.V.toArray, .agg (OD o.kind o.other o.file o.a o.b x o.data.length c).toArray] w' fun e w2 => ∃ p', e = .returned (.tuple #[.agg (PD.V p').toArray, .bool true]) ∧ PD.Post w p w' p' w2) := fun p w' o x c h hw hk => step_order w p w' h hw o x c hk
  have LK : Hid (∀ (p : PD) (w' : World) (o : OpD) (x : Option Addr) (c : Nat) (F : Nat → Prop) (l : List He) (va : Sl), p.In w w' → HeldV F l va w' → l.length ≤ 2000000 → Calls Try.prog 15 #[.agg p.V.toArray, .agg (OD o.kind o.other o.file o.a o.b x o.data.length c).toArray, .slice va.a va.n va.c] w' fun e w2 => ∃ (vb : Sl) (F' : Nat → Prop) (l' : List He), e = .returned (.tuple #[.slice vb.a vb.n vb.c, .bool true]) ∧ HeldV F' l' vb w2 ∧ l'.length ≤ l.length + 1 ∧ (∀ g, F' g → F g ∨ w'.heap.size ≤ g) ∧ (∀ g, vb.v.ownBlock = some g → va.v.ownBlock = some g ∨ w'.heap.size ≤ g) ∧ Kp (fun g => va.v.ownBlock = some g) w' w2) := fun p w' o x c F l va h hh hl => look_at w p.R p.S p.T p.t p.x0 p.x1 p.p0 p.p1 p.xa p.cn w' h o x c F l va hh hl
  have HC : Hid (∀ (F : Nat → Prop) (l : List He) (va : Sl) w', HeldV F l va w' → l.length ≤ 2000001 → Calls Try.prog 18 #[.slice va.a va.n va.c] w' fun e w2 => e = .returned (.bool true) ∧ Below w'.heap.size w' w2) := fun F l va w' h hl => held_at F l va w' h hl
  have R1 : Hid (RdB w (.slice fa fs.length fc) fs ∧ RdB w (.slice sa ss.length sc) ss ∧ fs.length ≤ 1048576 ∧ ss.length ≤ 1048576) := ⟨h1, h2, hf, hs⟩
  obtain ⟨n, hn'⟩ : ∃ n, os.length = n := ⟨_, rfl⟩
  obtain ⟨LA, hLA⟩ : ∃ n, fs.length = n := ⟨_, rfl⟩
  obtain ⟨LB, hLB⟩ : ∃ n, ss.length = n := ⟨_, rfl⟩
  rw [hn'] at OPS hn ⊢
  rw [hLA, hLB] at R1 ⊢
  have HLL : Hid (fs.length = LA ∧ ss.length = LB) := ⟨hLA, hLB⟩
  have bLA : LA ≤ 1048576 := R1.out.2.2.1
  have bLB : LB ≤ 1048576 := R1.out.2.2.2
  clear h1 h2 h3 hf hs hl hn' hLA hLB
  go_enter Try.func8, Try.ntmps8
  go_wp2_with fail
  refine (CP.out fs _ _ (by rw [HLL.out.1]; exact bLA) R1.out.1).mono ?_
  rintro e wa ⟨v1, rfl, ra, ba⟩
  obtain ⟨xa, ca, rfl, hq1, hq2⟩ := ra.rd.len
  clear hq1 hq2
  rw [List.length_map, HLL.out.1] at ra ⊢
  have S1 : Hid (RowB 5 w.heap.size wa (.slice xa LA ca) fs ∧ Below w.heap.size w wa) := ⟨ra, ba⟩
  clear ra ba
  go_wp2_with fail
  refine (CP.out ss _ _ (by rw [HLL.out.2]; exact bLB) (Rd.later R1.out.2.1 S1.out.2)).mono ?_
  rintro e wb ⟨v2, rfl, rb, bb⟩
  obtain ⟨xb, cb, rfl, hq1, hq2⟩ := rb.rd.len
  clear hq1 hq2
  rw [List.length_map, HLL.out.2] at rb ⊢
  have S2 : Hid (RowB 5 w.heap.size wb (.slice xa LA ca) fs ∧ RowB 5 w.heap.size wb (.slice xb LB cb) ss ∧ Below w.heap.size w wb) := ⟨S1.out.1.later bb, rb.mono S1.out.2.size, below_trans S1.out.2 bb⟩
  have OA : Hid (∀ g, xa = some ⟨g, 0, none⟩ → w.heap.size ≤ g ∧ g < wb.heap.size) := fun g e => World.ownsRow.lt S2.out.1 g (by rw [e]; rfl)
  have OB : Hid (∀ g, xb = some ⟨g, 0, none⟩ → w.heap.size ≤ g ∧ g < wb.heap.size) := fun g e => World.ownsRow.lt S2.out.2.1 g (by rw [e]; rfl)
  clear rb bb S1 CP
  go_wp2_with fail
  refine (LP.out fs ss _ _ _ (by rw [HLL.out.1]; exact bLA) (by rw [HLL.out.2]; exact bLB) S2.out.1.rd S2.out.2.1.rd).mono ?_
  rintro e w1 ⟨Ra, Sa, rfl, d1, n1, b1⟩
  have S3 : Hid (DkAt Ra Sa (Dk.load fs ss) w1 ∧ (∀ g, Sa g → wb.heap.size ≤ g) ∧ Below wb.heap.size wb w1 ∧ Below w.heap.size w w1) := ⟨d1, n1, b1, below_trans S2.out.2.2 b1⟩
  clear d1 n1 b1 LP
  go_wp2_with fail
  refine (LR.out fs ss _ _ _ (by rw [HLL.out.1]; exact bLA) (by rw [HLL.out.2]; exact bLB) (Rd.later R1.out.1 S3.out.2.2.2) (Rd.later R1.out.2.1 S3.out.2.2.2)).mono ?_
  rintro e w2 ⟨y0, y1, rfl, rn⟩
  have S4 : Hid (∃ T, NewP w wb w2.heap.size ⟨Ra, Sa, T, Dk.load fs ss, y0, y1, Sl.z, Sl.z, Sl.z, 0⟩ (w2.alloc (.cells (PV Ra y0 y1 Sl.z Sl.z Sl.z 0 false 0).toArray 37))) := NewP.mk S2.out.2.2 S3.out.1 S3.out.2.1 S3.out.2.2.1 rn rfl (below_alloc _ _) (Blk.new 37 _ w2)
  have S4s : Hid (Below wb.heap.size wb (w2.alloc (.cells (PV Ra y0 y1 Sl.z Sl.z Sl.z 0 false 0).toArray 37))) := by obtain ⟨_, _, _, b2⟩ := rn; exact below_trans (below_trans S3.out.2.2.1 b2) (below_alloc _ _)
  clear rn S3
  go_wp2_with fail
  generalize (w2.alloc (.cells (PV Ra y0 y1 Sl.z Sl.z Sl.z 0 false 0).toArray 37)) = w3 at *
  obtain ⟨Q1, hQ1⟩ : ∃ Q, w2.heap.size = Q := ⟨_, rfl⟩
  rw [hQ1] at S4 ⊢
  clear hQ1
  obtain ⟨T1, hT1⟩ := S4.out
  obtain ⟨p1, hp1⟩ : ∃ p, p = (⟨Ra, Sa, T1, Dk.load fs ss, y0, y1, Sl.z, Sl.z, Sl.z, 0⟩ : PD) := ⟨_, rfl⟩
  rw [← hp1] at hT1
  have P1 : Hid (NewP w wb Q1 p1 w3) := hT1
  clear hT1 S4 hp1
  refine (NW.out _).mono ?_
  rintro e w4 ⟨Rb, Sb, rfl, d4, n4, b4⟩
  have S5 : Hid (DkAt Rb Sb (Dk.load [] []) w4 ∧ (∀ g, Sb g → w3.heap.size ≤ g) ∧ Below w3.heap.size w3 w4) := ⟨d4, n4, b4⟩
  clear d4 n4 b4 NW
  go_wp2_with fail
  refine (LR.out [] [] _ _ _ (by simp) (by simp) (RowV.nil 5 0 _).rd (RowV.nil 5 0 _).rd).mono ?_
  rintro e w5 ⟨u0, u1, rfl, rn⟩
  have S6 : Hid (∃ T, NewP w w3 w5.heap.size ⟨Rb, Sb, T, Dk.load [] [], u0, u1, Sl.z, Sl.z, Sl.z, 0⟩ (w5.alloc (.cells (PV Rb u0 u1 Sl.z Sl.z Sl.z 0 false 0).toArray 37))) := NewP.mk (below_trans S2.out.2.2 S4s.out) S5.out.1 S5.out.2.1 S5.out.2.2 rn rfl (below_alloc _ _) (Blk.new 37 _ w5)
  have S6s : Hid (Below w3.heap.size w3 (w5.alloc (.cells (PV Rb u0 u1 Sl.z Sl.z Sl.z 0 false 0).toArray 37))) := by obtain ⟨_, _, _, b2⟩ := rn; exact below_trans (below_trans S5.out.2.2 b2) (below_alloc _ _)
  clear rn S5 LR
  go_upto_region 5 with fail
  generalize (w5.alloc (.cells (PV Rb u0 u1 Sl.z Sl.z Sl.z 0 false 0).toArray 37)) = w6 at *
  obtain ⟨Q2, hQ2⟩ : ∃ Q, w5.heap.size = Q := ⟨_, rfl⟩
  rw [hQ2] at S6 ⊢
  clear hQ2
  obtain ⟨T2, hT2⟩ := S6.out
  obtain ⟨p2, hp2⟩ : ∃ p, p = (⟨Rb, Sb, T2, Dk.load [] [], u0, u1, Sl.z, Sl.z, Sl.z, 0⟩ : PD) := ⟨_, rfl⟩
  rw [← hp2] at hT2
  have HW0 : Hid (p1.t.wr = 0 ∧ p2.t.wr = 0) := ⟨P1.out.2.2.2.2.2, hT2.2.2.2.2.2⟩
  have UX := U5.start S2.out.2.2 P1.out S6s.out hT2
  have HX : Hid (∀ g, g < wb.heap.size → ¬ p1.B g ∧ ¬ p2.B g ∧ g ≠ Q1 ∧ g ≠ Q2) := UX.2
  have HV : Hid (U5 w Q1 Q2 p1 p2 (fun _ => False) [] Sl.z w6 ∧ Below wb.heap.size wb w6) := ⟨UX.1, below_trans S4s.out S6s.out⟩
  clear UX hT2 S6 hp2 P1 S4s S6s
  have c1 := HV.out.1.q1.cell 0 _ rfl
  have c2 := HV.out.1.q2.cell 0 _ rfl
  go_wp2_with fail
  refine (EQ.out fs _ _ _ (by rw [HLL.out.1]; omega) (S2.out.1.later HV.out.2).rd (Rd.later R1.out.1 HV.out.1.bel)).mono ?_
  rintro e w7 ⟨rfl, b7⟩
  have HV7 : Hid (U5 w Q1 Q2 p1 p2 (fun _ => False) [] Sl.z w7 ∧ Below wb.heap.size wb w7) := ⟨HV.out.1.below b7, below_trans HV.out.2 b7⟩
  clear b7 HV c1 c2
  go_wp2_with fail
  refine (EQ.out ss _ _ _ (by rw [HLL.out.2]; omega) (S2.out.2.1.later HV7.out.2).rd (Rd.later R1.out.2.1 HV7.out.1.bel)).mono ?_
  rintro e w8 ⟨rfl, b8⟩
  have HU : Hid (U5 w Q1 Q2 p1 p2 (fun _ => False) [] Sl.z w8 ∧ HasRow w8 (.slice xa LA ca) LA ∧ HasRow w8 (.slice xb LB cb) LB) := ⟨HV7.out.1.below b8, ⟨_, by rw [List.length_map]; exact HLL.out.1, (S2.out.1.later (below_trans HV7.out.2 b8)).mono (Nat.zero_le _)⟩, ⟨_, by rw [List.length_map]; exact HLL.out.2, (S2.out.2.1.later (below_trans HV7.out.2 b8)).mono (Nat.zero_le _)⟩⟩
  clear b8 HV7 EQ S2 R1
  go_upto_block 0 with fail
  go_cut [15] from 56 to 68 (fun _ wx => Hid (U5 w Q1 Q2 p1 p2 (fun _ => False) [] Sl.z wx ∧ HasRow wx (.slice xa LA ca) LA ∧ HasRow wx (.slice xb LB cb) LB))
  case first =>
    go_wp2_with fail
    go_loopw [15] (fun vi wr => ∃ i : Nat, vi = .int .i64 (i : Int) ∧ i ≤ LA ∧ i ≤ 4096 ∧ Hid (U5 w Q1 Q2 p1 p2 (fun _ => False) [] Sl.z wr ∧ HasRow wr (.slice xa LA ca) LA ∧ HasRow wr (.slice xb LB cb) LB)) (fun vi _ => LA - (intOf vi).toNat)
    case atStart => exact ⟨0, rfl, by omega, by omega, HU.out⟩
    case round =>
      obtain ⟨i, rfl, hi1, hi2, B⟩ := hrel
      clear HU
      by_cases hlt : (i : Int) < (LA : Int)
      · by_cases h4 : (i : Int) < 4096
        · obtain ⟨g, u, e, hcu, hfu⟩ := B.out.2.1.at (i := i) (by omega)
          subst e
          have B2 : Hid (U5 w Q1 Q2 p1 p2 (fun _ => False) [] Sl.z (wr.setCell ⟨g, i, none⟩ (.int .u8 99)) ∧ HasRow (wr.setCell ⟨g, i, none⟩ (.int .u8 99)) (.slice (some ⟨g, 0, none⟩) LA ca) LA ∧ HasRow (wr.setCell ⟨g, i, none⟩ (.int .u8 99)) (.slice xb LB cb) LB) := ⟨B.out.1.kpA (Kp.of_grown (setCell_grown wr g i (.int .u8 99))) (fun q hq => by injection hq with hq; subst hq; have h9 := OA.out g rfl; exact ⟨h9.1, HX.out g h9.2, fun h => by rcases h with h | h; exact h; cases h⟩), B.out.2.1.set g i (.int .u8 99), B.out.2.2.set g i (.int .u8 99)⟩
          clear B
          go_wp2_with fail
          go_roundw
          case rel => exact ⟨i + 1, by go_num, by omega, by omega, B2.out⟩
          case measure => simp [intOf]; omega
        · go_wp2_with fail
          go_meet
          exact B.out
      · go_wp2_with fail
        go_meet
        exact B.out
  case rest =>
  clear HU
  have HU : Hid (U5 w Q1 Q2 p1 p2 (fun _ => False) [] Sl.z wc ∧ HasRow wc (.slice xa LA ca) LA ∧ HasRow wc (.slice xb LB cb) LB) := hcut.out
  clear hcut
  obtain ⟨wd, hwd⟩ : ∃ y, y = wc := ⟨_, rfl⟩
  subst hwd
  go_upto_block 2 with fail
  go_cut [16] from 69 to 81 (fun _ wx => Hid (U5 w Q1 Q2 p1 p2 (fun _ => False) [] Sl.z wx ∧ HasRow wx (.slice xa LA ca) LA ∧ HasRow wx (.slice xb LB cb) LB))
  case first =>
    go_wp2_with fail
    go_loopw [16] (fun vi wr => ∃ i : Nat, vi = .int .i64 (i : Int) ∧ i ≤ LB ∧ i ≤ 4096 ∧ Hid (U5 w Q1 Q2 p1 p2 (fun _ => False) [] Sl.z wr ∧ HasRow wr (.slice xa LA ca) LA ∧ HasRow wr (.slice xb LB cb) LB)) (fun vi _ => LB - (intOf vi).toNat)
    case atStart => exact ⟨0, rfl, by omega, by omega, HU.out⟩
    case round =>
      obtain ⟨i, rfl, hi1, hi2, B⟩ := hrel
      clear HU
      by_cases hlt : (i : Int) < (LB : Int)
      · by_cases h4 : (i : Int) < 4096
        · obtain ⟨g, u, e, hcu, hfu⟩ := B.out.2.2.at (i := i) (by omega)
          subst e
          have B2 : Hid (U5 w Q1 Q2 p1 p2 (fun _ => False) [] Sl.z (wr.setCell ⟨g, i, none⟩ (.int .u8 98)) ∧ HasRow (wr.setCell ⟨g, i, none⟩ (.int .u8 98)) (.slice xa LA ca) LA ∧ HasRow (wr.setCell ⟨g, i, none⟩ (.int .u8 98)) (.slice (some ⟨g, 0, none⟩) LB cb) LB) := ⟨B.out.1.kpA (Kp.of_grown (setCell_grown wr g i (.int .u8 98))) (fun q hq => by injection hq with hq; subst hq; have h9 := OB.out g rfl; exact ⟨h9.1, HX.out g h9.2, fun h => by rcases h with h | h; exact h; cases h⟩), B.out.2.1.set g i (.int .u8 98), B.out.2.2.set g i (.int .u8 98)⟩
          clear B
          go_wp2_with fail
          go_roundw
          case rel => exact ⟨i + 1, by go_num, by omega, by omega, B2.out⟩
          case measure => simp [intOf]; omega
        · go_wp2_with fail
          go_meet
          exact B.out
      · go_wp2_with fail
        go_meet
        exact B.out
  case rest =>
  clear HU
  have HU : Hid (U5 w Q1 Q2 p1 p2 (fun _ => False) [] Sl.z wc) := hcut.out.1
  clear hcut
  clear HX OA OB
  go_wp2_with fail
  go_loopw [17, 18, 19, 20, 21] (fun vl vi _ _ _ wr => ∃ (i : Nat) (p1 p2 : PD) (F : Nat → Prop) (l : List He) (va : Sl), vl = .slice va.a va.n va.c ∧ vi = .int .i64 (i : Int) ∧ i ≤ n ∧ Hid (l.length ≤ i ∧ (0 ≤ p1.t.wr ∧ p1.t.wr ≤ i) ∧ (0 ≤ p2.t.wr ∧ p2.t.wr ≤ i) ∧ U5 w Q1 Q2 p1 p2 F l va wr)) (fun _ vi _ _ _ _ => n - (intOf vi).toNat)
  case atStart => exact ⟨0, p1, p2, _, [], Sl.z, rfl, rfl, by omega, by simp, by rw [HW0.out.1]; simp, by rw [HW0.out.2]; simp, HU.out⟩
  case round =>
    clear HU HW0

    obtain ⟨i, p1, p2, F, l, va, rfl, rfl, hi, SX⟩ := hrel
    by_cases hlt : (i : Int) < (n : Int)
    · obtain ⟨o, g, off, x, c, rfl, hdl, oc⟩ := OPS.out i (by omega)
      obtain ⟨kind, other, file, oa, ob, ds⟩ := o
      obtain ⟨z0, z1, z2, z3, z4, z5, z6⟩ := oc wr SX.out.2.2.2.bel
      have OKD : Hid (ds.length ≤ 1048576 ∧ ∀ w', Below w.heap.size w w' → RdB w' (.slice x ds.length c) ds) := ⟨hdl, fun w' hb => (oc w' hb).2.2.2.2.2.2⟩
      clear oc hdl
      cases other
      · have RG : Hid (wr.rangeAt g (off + i * 6) (OD kind false file oa ob x ds.length c)) := range6 z0 z1 z2 z3 z4 z5
        clear z0 z1 z2 z3 z4 z5 z6 OPS
        have NB : Hid (Blk wr.heap.size 28 [.int .i64 0, .bool false, .int .i64 0, .int .i64 0, .int .i64 0, .slice none 0 0] (wr.alloc (.cells #[.int .i64 0, .bool false, .int .i64 0, .int .i64 0, .int .i64 0, .slice none 0 0] 28))) := Blk.new 28 [.int .i64 0, .bool false, .int .i64 0, .int .i64 0, .int .i64 0, .slice none 0 0] wr
        go_upto_region 20 with (first
          | (refine step_load rfl 28 _ rfl g (off + i * 6) rfl (OD kind false file oa ob x ds.length c) _ RG.out Try.underlying28 rfl (infoOd _ _ _ _ _ _ _ _) ?_)
          | (refine step_store rfl 28 _ _ rfl wr.heap.size 0 28 [.int .i64 0, .bool false, .int .i64 0, .int .i64 0, .int .i64 0, .slice none 0 0] (OD kind false file oa ob x ds.length c) rfl rfl NB.out (Nat.le_refl _) (infoOd _ _ _ _ _ _ _ _) (oneOd _ _ _ _ _ _ _ _) ?_; intro w5 b5 g5))
        have B5 : Hid (Blk wr.heap.size 28 (OD kind false file oa ob x ds.length c) w5 ∧ Below wr.heap.size wr w5) := ⟨b5, (below_alloc wr _).grown g5 (below_alloc wr _).size (fun k e => by cases e; exact Nat.le_refl _)⟩
        clear b5 g5 NB RG
        obtain ⟨Q, hQ⟩ : ∃ Q, wr.heap.size = Q := ⟨_, rfl⟩
        have HQ : Hid (wr.heap.size = Q) := hQ
        have B5' : Hid (Blk Q 28 (OD kind false file oa ob x ds.length c) w5) := by rw [← hQ]; exact B5.out.1
        have NP : Hid (Blk w5.heap.size 37 PZ (w5.alloc (.cells PZ.toArray 37)) ∧ Blk Q1 37 p1.V (w5.alloc (.cells PZ.toArray 37)) ∧ Blk Q1 37 p1.V w5) := ⟨Blk.new 37 _ w5, (SX.out.2.2.2.q1.below B5.out.2).below (below_alloc _ _), SX.out.2.2.2.q1.below B5.out.2⟩
        rw [hQ]
        clear hQ
        go_upto_region 21 with (first
          | (refine step_load rfl 37 _ rfl Q1 0 rfl p1.V _ (NP.out.2.2.range 0 9) Try.underlying37 rfl (infoPr _ _ _ _ _ _ _ _ _) ?_)
          | (refine step_store rfl 37 _ _ rfl w5.heap.size 0 37 PZ p1.V rfl rfl NP.out.1 (Nat.le_refl _) (infoPr _ _ _ _ _ _ _ _ _) (onePv _ _ _ _ _ _ _ _ _) ?_; intro w7 b6 g6))
        have BX : Hid (Blk Q 28 (OD kind false file oa ob x ds.length c) w7 ∧ Blk w5.heap.size 37 p1.V w7 ∧ Below wr.heap.size wr w7 ∧ Q < w5.heap.size) := ⟨((B5'.out.below (below_alloc _ _)).grown g6 (by have := B5'.out.lt; omega)), b6, (below_trans B5.out.2 (below_alloc w5 (.cells PZ.toArray 37))).grown g6 (below_trans B5.out.2 (below_alloc w5 (.cells PZ.toArray 37))).size (fun k e => by cases e; exact B5.out.2.size), B5'.out.lt⟩
        clear b6 g6 NP
        obtain ⟨P, hP⟩ : ∃ P, w5.heap.size = P := ⟨_, rfl⟩
        rw [hP] at BX ⊢
        clear hP B5 B5'
        have k1 := BX.out.1.cell 1 _ rfl
        have BW : Hid (Below wr.heap.size wr w7) := BX.out.2.2.1
        have B2 : Hid (Blk Q 28 (OD kind false file oa ob x ds.length c) w7 ∧ Blk P 37 p1.V w7 ∧ Q < P) := ⟨BX.out.1, BX.out.2.1, BX.out.2.2.2⟩
        go_upto_region 23 with fail
        clear BX k1
        have U9 : Hid (U5 w Q1 Q2 p1 p2 F l va w7) := SX.out.2.2.2.below BW.out
        have k0 := B2.out.1.cell 0 _ rfl
        have k1 := B2.out.1.cell 1 _ rfl
        by_cases h5 : kind = 5
        · have e5 : (kind == 5) = true := by simp [h5]
          clear h5
          go_wp2_with (first
            | (refine step_load rfl 37 _ rfl P 0 rfl p1.V _ (B2.out.2.1.range 0 9) Try.underlying37 rfl (infoPr _ _ _ _ _ _ _ _ _) ?_)
            | (refine step_load rfl 28 _ rfl Q 0 rfl (OD kind false file oa ob x ds.length c) _ (B2.out.1.range 0 6) Try.underlying28 rfl (infoOd _ _ _ _ _ _ _ _) ?_))
          refine (LK.out p1 _ ⟨kind, false, file, oa, ob, ds⟩ x c F l va (U9.out.a) U9.out.h (by have := SX.out.1; omega)).mono ?_
          rintro e w8 ⟨vb, F', l', rfl, hh, ll, nF, nv, k8⟩
          have A8 : Hid (Blk Q 28 (OD kind false file oa ob x ds.length c) w8 ∧ Blk P 37 p1.V w8 ∧ Blk Q1 37 p1.V w8 ∧ l'.length ≤ i + 1) := by
            have hv : ∀ g, va.v.ownBlock = some g → g < Q := fun g e => by have := (SX.out.2.2.2.fw g (.inr e)).2; rw [HQ.out] at this; exact this
            exact ⟨B2.out.1.kp k8 (fun e => by have := hv _ e; omega), B2.out.2.1.kp k8 (fun e => by have := hv _ e; have := B2.out.2.2; omega), U9.out.q1.kp k8 (fun e => by have h9 := SX.out.2.2.2.fa _ (.inr e); exact h9.2.1 rfl), by have := SX.out.1; omega⟩
          have PO : Hid (HeldV F' l' vb w8 ∧ (∀ g, F' g → F g ∨ w7.heap.size ≤ g) ∧ (∀ g, vb.v.ownBlock = some g → va.v.ownBlock = some g ∨ w7.heap.size ≤ g) ∧ Kp (fun g => va.v.ownBlock = some g) w7 w8) := ⟨hh, nF, nv, k8⟩
          clear hh ll nF nv k8 k0 k1
          have k1 := A8.out.1.cell 1 _ rfl
          go_wp2_with (first
            | (refine step_load rfl 37 _ rfl P 0 rfl p1.V _ (A8.out.2.1.range 0 9) Try.underlying37 rfl (infoPr _ _ _ _ _ _ _ _ _) ?_)
            | (refine step_store rfl 37 _ _ rfl Q1 0 37 p1.V p1.V rfl rfl A8.out.2.2.1 (Nat.le_refl _) (infoPr _ _ _ _ _ _ _ _ _) (onePv _ _ _ _ _ _ _ _ _) ?_; intro w10 b10 g10; have N9 : Hid (U5 w Q1 Q2 p1 p2 F' l' vb w10) := (U5.look SX.out.2.2.2 BW.out PO.out.1 PO.out.2.1 PO.out.2.2.1 PO.out.2.2.2 b10 g10); clear b10 g10 k1))
          go_roundw
          case rel => exact ⟨i + 1, p1, p2, F', l', vb, rfl, by go_num, by omega, A8.out.2.2.2, by have := SX.out.2.1; omega, by have := SX.out.2.2.1; omega, N9.out⟩
          case measure => simp [intOf]; omega
        by_cases h6 : kind = 6
        · have e5 : (kind == 5) = false := by simp [h6]
          have e6 : (kind == 6) = true := by simp [h6]
          clear h5 h6
          go_wp2_with (first
            | (refine step_load rfl 37 _ rfl P 0 rfl p1.V _ (B2.out.2.1.range 0 9) Try.underlying37 rfl (infoPr _ _ _ _ _ _ _ _ _) ?_)
            | (refine step_load rfl 28 _ rfl Q 0 rfl (OD kind false file oa ob x ds.length c) _ (B2.out.1.range 0 6) Try.underlying28 rfl (infoOd _ _ _ _ _ _ _ _) ?_))
          refine (LK.out p1 _ ⟨kind, false, file, oa, ob, ds⟩ x c F l va (U9.out.a) U9.out.h (by have := SX.out.1; omega)).mono ?_
          rintro e w8 ⟨vb, F', l', rfl, hh, ll, nF, nv, k8⟩
          have A8 : Hid (Blk Q 28 (OD kind false file oa ob x ds.length c) w8 ∧ Blk P 37 p1.V w8 ∧ Blk Q1 37 p1.V w8 ∧ l'.length ≤ i + 1) := by
            have hv : ∀ g, va.v.ownBlock = some g → g < Q := fun g e => by have := (SX.out.2.2.2.fw g (.inr e)).2; rw [HQ.out] at this; exact this
            exact ⟨B2.out.1.kp k8 (fun e => by have := hv _ e; omega), B2.out.2.1.kp k8 (fun e => by have := hv _ e; have := B2.out.2.2; omega), U9.out.q1.kp k8 (fun e => by have h9 := SX.out.2.2.2.fa _ (.inr e); exact h9.2.1 rfl), by have := SX.out.1; omega⟩
          have PO : Hid (HeldV F' l' vb w8 ∧ (∀ g, F' g → F g ∨ w7.heap.size ≤ g) ∧ (∀ g, vb.v.ownBlock = some g → va.v.ownBlock = some g ∨ w7.heap.size ≤ g) ∧ Kp (fun g => va.v.ownBlock = some g) w7 w8) := ⟨hh, nF, nv, k8⟩
          clear hh ll nF nv k8 k0 k1
          have k1 := A8.out.1.cell 1 _ rfl
          go_wp2_with (first
            | (refine step_load rfl 37 _ rfl P 0 rfl p1.V _ (A8.out.2.1.range 0 9) Try.underlying37 rfl (infoPr _ _ _ _ _ _ _ _ _) ?_)
            | (refine step_store rfl 37 _ _ rfl Q1 0 37 p1.V p1.V rfl rfl A8.out.2.2.1 (Nat.le_refl _) (infoPr _ _ _ _ _ _ _ _ _) (onePv _ _ _ _ _ _ _ _ _) ?_; intro w10 b10 g10; have N9 : Hid (U5 w Q1 Q2 p1 p2 F' l' vb w10) := (U5.look SX.out.2.2.2 BW.out PO.out.1 PO.out.2.1 PO.out.2.2.1 PO.out.2.2.2 b10 g10); clear b10 g10 k1))
          go_roundw
          case rel => exact ⟨i + 1, p1, p2, F', l', vb, rfl, by go_num, by omega, A8.out.2.2.2, by have := SX.out.2.1; omega, by have := SX.out.2.2.1; omega, N9.out⟩
          case measure => simp [intOf]; omega
        by_cases h14 : 1 ≤ kind ∧ kind ≤ 4
        · have e5 : (kind == 5) = false := by simp; omega
          have e6 : (kind == 6) = false := by simp; omega
          have e1 : (1 : Int) ≤ kind := h14.1
          have e4 : kind ≤ 4 := h14.2
          go_wp2_with (first
            | (refine step_load rfl 37 _ rfl P 0 rfl p1.V _ (B2.out.2.1.range 0 9) Try.underlying37 rfl (infoPr _ _ _ _ _ _ _ _ _) ?_)
            | (refine step_load rfl 28 _ rfl Q 0 rfl (OD kind false file oa ob x ds.length c) _ (B2.out.1.range 0 6) Try.underlying28 rfl (infoOd _ _ _ _ _ _ _ _) ?_))
          refine (WR.out p1 _ ⟨kind, false, file, oa, ob, ds⟩ x c (U9.out.a) (by have := SX.out.2.1; omega) OKD.out ⟨by omega, by omega⟩).mono ?_
          rintro e w8 ⟨p', rfl, po⟩
          have A8 : Hid (Blk Q 28 (OD kind false file oa ob x ds.length c) w8 ∧ Blk P 37 p1.V w8 ∧ Blk Q1 37 p1.V w8) := by
            have hv : ∀ g, p1.B g → g < Q := fun g e => by have := PD.lt SX.out.2.2.2.a e; rw [HQ.out] at this; exact this
            exact ⟨B2.out.1.kp po.2.2.1 (fun e => by have := hv _ e; omega), B2.out.2.1.kp po.2.2.1 (fun e => by have := hv _ e; have := B2.out.2.2; omega), U9.out.q1.kp po.2.2.1 SX.out.2.2.2.na.1⟩
          have PO : Hid (PD.Post w p1 w7 p' w8) := po
          clear po k0 k1
          go_upto_region 29 with (refine step_store rfl 37 _ _ rfl P 0 37 p1.V p'.V rfl rfl A8.out.2.1 (Nat.le_refl _) (infoPr _ _ _ _ _ _ _ _ _) (onePv _ _ _ _ _ _ _ _ _) ?_; intro w9 b9 g9)
          have A9 : Hid (Blk Q 28 (OD kind false file oa ob x ds.length c) w9 ∧ Blk P 37 p'.V w9 ∧ Blk Q1 37 p1.V w9 ∧ w8.grownBy w9 (some P)) := ⟨A8.out.1.grown g9 (by have := B2.out.2.2; omega), b9, A8.out.2.2.grown g9 (by have h9 := SX.out.2.2.2.q1.lt; have h8 := B2.out.2.2; rw [HQ.out] at h9; omega), g9⟩
          clear b9 g9
          have k1 := A9.out.1.cell 1 _ rfl
          go_wp2_with (first
            | (refine step_load rfl 37 _ rfl P 0 rfl p'.V _ (A9.out.2.1.range 0 9) Try.underlying37 rfl (infoPr _ _ _ _ _ _ _ _ _) ?_)
            | (refine step_store rfl 37 _ _ rfl Q1 0 37 p1.V p'.V rfl rfl A9.out.2.2.1 (Nat.le_refl _) (infoPr _ _ _ _ _ _ _ _ _) (onePv _ _ _ _ _ _ _ _ _) ?_; intro w10 b10 g10; have N9 : Hid (U5 w Q1 Q2 p' p2 F l va w10) := (U5.one (M := fun g => some P = some g) SX.out.2.2.2 BW.out PO.out (Kp.of_grown A9.out.2.2.2) (fun g hg => by injection hg with hg; have h9 := HQ.out; have h8 := B2.out.2.1.lt; have h7 := B2.out.2.2; omega) b10 g10); clear b10 g10 k1))
          go_roundw
          case rel => exact ⟨i + 1, p', p2, F, l, va, rfl, by go_num, by omega, by have := SX.out.1; omega, by have := SX.out.2.1; have := PO.out.2.2.2; omega, by have := SX.out.2.2.1; have := PO.out.2.2.2; omega, N9.out⟩
          case measure => simp [intOf]; omega
        by_cases h1 : (1 : Int) ≤ kind
        · have e5 : (kind == 5) = false := by simp; omega
          have e6 : (kind == 6) = false := by simp; omega
          have e4 : ¬ kind ≤ 4 := by omega
          go_wp2_with (first
            | (refine step_load rfl 37 _ rfl P 0 rfl p1.V _ (B2.out.2.1.range 0 9) Try.underlying37 rfl (infoPr _ _ _ _ _ _ _ _ _) ?_)
            | (refine step_load rfl 28 _ rfl Q 0 rfl (OD kind false file oa ob x ds.length c) _ (B2.out.1.range 0 6) Try.underlying28 rfl (infoOd _ _ _ _ _ _ _ _) ?_))
          refine (OR.out p1 _ ⟨kind, false, file, oa, ob, ds⟩ x c (U9.out.a) (by have := SX.out.2.1; omega) (by show ¬ (1 ≤ kind ∧ kind ≤ 4); omega)).mono ?_
          rintro e w8 ⟨p', rfl, po⟩
          have A8 : Hid (Blk Q 28 (OD kind false file oa ob x ds.length c) w8 ∧ Blk P 37 p1.V w8 ∧ Blk Q1 37 p1.V w8) := by
            have hv : ∀ g, p1.B g → g < Q := fun g e => by have := PD.lt SX.out.2.2.2.a e; rw [HQ.out] at this; exact this
            exact ⟨B2.out.1.kp po.2.2.1 (fun e => by have := hv _ e; omega), B2.out.2.1.kp po.2.2.1 (fun e => by have := hv _ e; have := B2.out.2.2; omega), U9.out.q1.kp po.2.2.1 SX.out.2.2.2.na.1⟩
          have PO : Hid (PD.Post w p1 w7 p' w8) := po
          clear po k0 k1
          go_upto_region 29 with (refine step_store rfl 37 _ _ rfl P 0 37 p1.V p'.V rfl rfl A8.out.2.1 (Nat.le_refl _) (infoPr _ _ _ _ _ _ _ _ _) (onePv _ _ _ _ _ _ _ _ _) ?_; intro w9 b9 g9)
          have A9 : Hid (Blk Q 28 (OD kind false file oa ob x ds.length c) w9 ∧ Blk P 37 p'.V w9 ∧ Blk Q1 37 p1.V w9 ∧ w8.grownBy w9 (some P)) := ⟨A8.out.1.grown g9 (by have := B2.out.2.2; omega), b9, A8.out.2.2.grown g9 (by have h9 := SX.out.2.2.2.q1.lt; have h8 := B2.out.2.2; rw [HQ.out] at h9; omega), g9⟩
          clear b9 g9
          have k1 := A9.out.1.cell 1 _ rfl
          go_wp2_with (first
            | (refine step_load rfl 37 _ rfl P 0 rfl p'.V _ (A9.out.2.1.range 0 9) Try.underlying37 rfl (infoPr _ _ _ _ _ _ _ _ _) ?_)
            | (refine step_store rfl 37 _ _ rfl Q1 0 37 p1.V p'.V rfl rfl A9.out.2.2.1 (Nat.le_refl _) (infoPr _ _ _ _ _ _ _ _ _) (onePv _ _ _ _ _ _ _ _ _) ?_; intro w10 b10 g10; have N9 : Hid (U5 w Q1 Q2 p' p2 F l va w10) := (U5.one (M := fun g => some P = some g) SX.out.2.2.2 BW.out PO.out (Kp.of_grown A9.out.2.2.2) (fun g hg => by injection hg with hg; have h9 := HQ.out; have h8 := B2.out.2.1.lt; have h7 := B2.out.2.2; omega) b10 g10); clear b10 g10 k1))
          go_roundw
          case rel => exact ⟨i + 1, p', p2, F, l, va, rfl, by go_num, by omega, by have := SX.out.1; omega, by have := SX.out.2.1; have := PO.out.2.2.2; omega, by have := SX.out.2.2.1; have := PO.out.2.2.2; omega, N9.out⟩
          case measure => simp [intOf]; omega
        · have e5 : (kind == 5) = false := by simp; omega
          have e6 : (kind == 6) = false := by simp; omega
          go_wp2_with (first
            | (refine step_load rfl 37 _ rfl P 0 rfl p1.V _ (B2.out.2.1.range 0 9) Try.underlying37 rfl (infoPr _ _ _ _ _ _ _ _ _) ?_)
            | (refine step_load rfl 28 _ rfl Q 0 rfl (OD kind false file oa ob x ds.length c) _ (B2.out.1.range 0 6) Try.underlying28 rfl (infoOd _ _ _ _ _ _ _ _) ?_))
          refine (OR.out p1 _ ⟨kind, false, file, oa, ob, ds⟩ x c (U9.out.a) (by have := SX.out.2.1; omega) (by show ¬ (1 ≤ kind ∧ kind ≤ 4); omega)).mono ?_
          rintro e w8 ⟨p', rfl, po⟩
          have A8 : Hid (Blk Q 28 (OD kind false file oa ob x ds.length c) w8 ∧ Blk P 37 p1.V w8 ∧ Blk Q1 37 p1.V w8) := by
            have hv : ∀ g, p1.B g → g < Q := fun g e => by have := PD.lt SX.out.2.2.2.a e; rw [HQ.out] at this; exact this
            exact ⟨B2.out.1.kp po.2.2.1 (fun e => by have := hv _ e; omega), B2.out.2.1.kp po.2.2.1 (fun e => by have := hv _ e; have := B2.out.2.2; omega), U9.out.q1.kp po.2.2.1 SX.out.2.2.2.na.1⟩
          have PO : Hid (PD.Post w p1 w7 p' w8) := po
          clear po k0 k1
          go_upto_region 29 with (refine step_store rfl 37 _ _ rfl P 0 37 p1.V p'.V rfl rfl A8.out.2.1 (Nat.le_refl _) (infoPr _ _ _ _ _ _ _ _ _) (onePv _ _ _ _ _ _ _ _ _) ?_; intro w9 b9 g9)
          have A9 : Hid (Blk Q 28 (OD kind false file oa ob x ds.length c) w9 ∧ Blk P 37 p'.V w9 ∧ Blk Q1 37 p1.V w9 ∧ w8.grownBy w9 (some P)) := ⟨A8.out.1.grown g9 (by have := B2.out.2.2; omega), b9, A8.out.2.2.grown g9 (by have h9 := SX.out.2.2.2.q1.lt; have h8 := B2.out.2.2; rw [HQ.out] at h9; omega), g9⟩
          clear b9 g9
          have k1 := A9.out.1.cell 1 _ rfl
          go_wp2_with (first
            | (refine step_load rfl 37 _ rfl P 0 rfl p'.V _ (A9.out.2.1.range 0 9) Try.underlying37 rfl (infoPr _ _ _ _ _ _ _ _ _) ?_)
            | (refine step_store rfl 37 _ _ rfl Q1 0 37 p1.V p'.V rfl rfl A9.out.2.2.1 (Nat.le_refl _) (infoPr _ _ _ _ _ _ _ _ _) (onePv _ _ _ _ _ _ _ _ _) ?_; intro w10 b10 g10; have N9 : Hid (U5 w Q1 Q2 p' p2 F l va w10) := (U5.one (M := fun g => some P = some g) SX.out.2.2.2 BW.out PO.out (Kp.of_grown A9.out.2.2.2) (fun g hg => by injection hg with hg; have h9 := HQ.out; have h8 := B2.out.2.1.lt; have h7 := B2.out.2.2; omega) b10 g10); clear b10 g10 k1))
          go_roundw
          case rel => exact ⟨i + 1, p', p2, F, l, va, rfl, by go_num, by omega, by have := SX.out.1; omega, by have := SX.out.2.1; have := PO.out.2.2.2; omega, by have := SX.out.2.2.1; have := PO.out.2.2.2; omega, N9.out⟩
          case measure => simp [intOf]; omega
      · have RG : Hid (wr.rangeAt g (off + i * 6) (OD kind true file oa ob x ds.length c)) := range6 z0 z1 z2 z3 z4 z5
        clear z0 z1 z2 z3 z4 z5 z6 OPS
        have NB : Hid (Blk wr.heap.size 28 [.int .i64 0, .bool false, .int .i64 0, .int .i64 0, .int .i64 0, .slice none 0 0] (wr.alloc (.cells #[.int .i64 0, .bool false, .int .i64 0, .int .i64 0, .int .i64 0, .slice none 0 0] 28))) := Blk.new 28 [.int .i64 0, .bool false, .int .i64 0, .int .i64 0, .int .i64 0, .slice none 0 0] wr
        go_upto_region 20 with (first
          | (refine step_load rfl 28 _ rfl g (off + i * 6) rfl (OD kind true file oa ob x ds.length c) _ RG.out Try.underlying28 rfl (infoOd _ _ _ _ _ _ _ _) ?_)
          | (refine step_store rfl 28 _ _ rfl wr.heap.size 0 28 [.int .i64 0, .bool false, .int .i64 0, .int .i64 0, .int .i64 0, .slice none 0 0] (OD kind true file oa ob x ds.length c) rfl rfl NB.out (Nat.le_refl _) (infoOd _ _ _ _ _ _ _ _) (oneOd _ _ _ _ _ _ _ _) ?_; intro w5 b5 g5))
        have B5 : Hid (Blk wr.heap.size 28 (OD kind true file oa ob x ds.length c) w5 ∧ Below wr.heap.size wr w5) := ⟨b5, (below_alloc wr _).grown g5 (below_alloc wr _).size (fun k e => by cases e; exact Nat.le_refl _)⟩
        clear b5 g5 NB RG
        obtain ⟨Q, hQ⟩ : ∃ Q, wr.heap.size = Q := ⟨_, rfl⟩
        have HQ : Hid (wr.heap.size = Q) := hQ
        have B5' : Hid (Blk Q 28 (OD kind true file oa ob x ds.length c) w5) := by rw [← hQ]; exact B5.out.1
        have NP : Hid (Blk w5.heap.size 37 PZ (w5.alloc (.cells PZ.toArray 37)) ∧ Blk Q1 37 p1.V (w5.alloc (.cells PZ.toArray 37)) ∧ Blk Q1 37 p1.V w5) := ⟨Blk.new 37 _ w5, (SX.out.2.2.2.q1.below B5.out.2).below (below_alloc _ _), SX.out.2.2.2.q1.below B5.out.2⟩
        rw [hQ]
        clear hQ
        go_upto_region 21 with (first
          | (refine step_load rfl 37 _ rfl Q1 0 rfl p1.V _ (NP.out.2.2.range 0 9) Try.underlying37 rfl (infoPr _ _ _ _ _ _ _ _ _) ?_)
          | (refine step_store rfl 37 _ _ rfl w5.heap.size 0 37 PZ p1.V rfl rfl NP.out.1 (Nat.le_refl _) (infoPr _ _ _ _ _ _ _ _ _) (onePv _ _ _ _ _ _ _ _ _) ?_; intro w6 b6 g6))
        have BX : Hid (Blk Q 28 (OD kind true file oa ob x ds.length c) w6 ∧ Blk w5.heap.size 37 p1.V w6 ∧ Below wr.heap.size wr w6 ∧ Q < w5.heap.size) := ⟨((B5'.out.below (below_alloc _ _)).grown g6 (by have := B5'.out.lt; omega)), b6, (below_trans B5.out.2 (below_alloc w5 (.cells PZ.toArray 37))).grown g6 (below_trans B5.out.2 (below_alloc w5 (.cells PZ.toArray 37))).size (fun k e => by cases e; exact B5.out.2.size), B5'.out.lt⟩
        clear b6 g6 NP
        obtain ⟨P, hP⟩ : ∃ P, w5.heap.size = P := ⟨_, rfl⟩
        rw [hP] at BX ⊢
        clear hP B5 B5'
        have k1 := BX.out.1.cell 1 _ rfl
        have Y2 : Hid (Blk Q2 37 p2.V w6) := SX.out.2.2.2.q2.below BX.out.2.2.1
        go_upto_region 23 with (first
          | (refine step_load rfl 37 _ rfl Q2 0 rfl p2.V _ (Y2.out.range 0 9) Try.underlying37 rfl (infoPr _ _ _ _ _ _ _ _ _) ?_)
          | (refine step_store rfl 37 _ _ rfl P 0 37 p1.V p2.V rfl rfl BX.out.2.1 (Nat.le_refl _) (infoPr _ _ _ _ _ _ _ _ _) (onePv _ _ _ _ _ _ _ _ _) ?_; intro w7 b7 g7))
        have BW : Hid (Below wr.heap.size wr w7) := BX.out.2.2.1.grown g7 BX.out.2.2.1.size (fun k e => by cases e; have := BX.out.2.2.2; have := HQ.out; omega)
        have B2 : Hid (Blk Q 28 (OD kind true file oa ob x ds.length c) w7 ∧ Blk P 37 p2.V w7 ∧ Q < P) := ⟨BX.out.1.grown g7 (by have := BX.out.2.2.2; omega), b7, BX.out.2.2.2⟩
        clear b7 g7 Y2 BX k1
        have U9 : Hid (U5 w Q1 Q2 p1 p2 F l va w7) := SX.out.2.2.2.below BW.out
        have k0 := B2.out.1.cell 0 _ rfl
        have k1 := B2.out.1.cell 1 _ rfl
        by_cases h5 : kind = 5
        · have e5 : (kind == 5) = true := by simp [h5]
          clear h5
          go_wp2_with (first
            | (refine step_load rfl 37 _ rfl P 0 rfl p2.V _ (B2.out.2.1.range 0 9) Try.underlying37 rfl (infoPr _ _ _ _ _ _ _ _ _) ?_)
            | (refine step_load rfl 28 _ rfl Q 0 rfl (OD kind true file oa ob x ds.length c) _ (B2.out.1.range 0 6) Try.underlying28 rfl (infoOd _ _ _ _ _ _ _ _) ?_))
          refine (LK.out p2 _ ⟨kind, true, file, oa, ob, ds⟩ x c F l va (U9.out.b) U9.out.h (by have := SX.out.1; omega)).mono ?_
          rintro e w8 ⟨vb, F', l', rfl, hh, ll, nF, nv, k8⟩
          have A8 : Hid (Blk Q 28 (OD kind true file oa ob x ds.length c) w8 ∧ Blk P 37 p2.V w8 ∧ Blk Q2 37 p2.V w8 ∧ l'.length ≤ i + 1) := by
            have hv : ∀ g, va.v.ownBlock = some g → g < Q := fun g e => by have := (SX.out.2.2.2.fw g (.inr e)).2; rw [HQ.out] at this; exact this
            exact ⟨B2.out.1.kp k8 (fun e => by have := hv _ e; omega), B2.out.2.1.kp k8 (fun e => by have := hv _ e; have := B2.out.2.2; omega), U9.out.q2.kp k8 (fun e => by have h9 := SX.out.2.2.2.fa _ (.inr e); exact h9.2.2 rfl), by have := SX.out.1; omega⟩
          have PO : Hid (HeldV F' l' vb w8 ∧ (∀ g, F' g → F g ∨ w7.heap.size ≤ g) ∧ (∀ g, vb.v.ownBlock = some g → va.v.ownBlock = some g ∨ w7.heap.size ≤ g) ∧ Kp (fun g => va.v.ownBlock = some g) w7 w8) := ⟨hh, nF, nv, k8⟩
          clear hh ll nF nv k8 k0 k1
          have k1 := A8.out.1.cell 1 _ rfl
          go_wp2_with (first
            | (refine step_load rfl 37 _ rfl P 0 rfl p2.V _ (A8.out.2.1.range 0 9) Try.underlying37 rfl (infoPr _ _ _ _ _ _ _ _ _) ?_)
            | (refine step_store rfl 37 _ _ rfl Q2 0 37 p2.V p2.V rfl rfl A8.out.2.2.1 (Nat.le_refl _) (infoPr _ _ _ _ _ _ _ _ _) (onePv _ _ _ _ _ _ _ _ _) ?_; intro w10 b10 g10; have N9 : Hid (U5 w Q1 Q2 p1 p2 F' l' vb w10) := (U5.look SX.out.2.2.2.swap BW.out PO.out.1 PO.out.2.1 PO.out.2.2.1 PO.out.2.2.2 b10 g10).swap; clear b10 g10 k1))
          go_roundw
          case rel => exact ⟨i + 1, p1, p2, F', l', vb, rfl, by go_num, by omega, A8.out.2.2.2, by have := SX.out.2.1; omega, by have := SX.out.2.2.1; omega, N9.out⟩
          case measure => simp [intOf]; omega
        by_cases h6 : kind = 6
        · have e5 : (kind == 5) = false := by simp [h6]
          have e6 : (kind == 6) = true := by simp [h6]
          clear h5 h6
          go_wp2_with (first
            | (refine step_load rfl 37 _ rfl P 0 rfl p2.V _ (B2.out.2.1.range 0 9) Try.underlying37 rfl (infoPr _ _ _ _ _ _ _ _ _) ?_)
            | (refine step_load rfl 28 _ rfl Q 0 rfl (OD kind true file oa ob x ds.length c) _ (B2.out.1.range 0 6) Try.underlying28 rfl (infoOd _ _ _ _ _ _ _ _) ?_))
          refine (LK.out p2 _ ⟨kind, true, file, oa, ob, ds⟩ x c F l va (U9.out.b) U9.out.h (by have := SX.out.1; omega)).mono ?_
          rintro e w8 ⟨vb, F', l', rfl, hh, ll, nF, nv, k8⟩
          have A8 : Hid (Blk Q 28 (OD kind true file oa ob x ds.length c) w8 ∧ Blk P 37 p2.V w8 ∧ Blk Q2 37 p2.V w8 ∧ l'.length ≤ i + 1) := by
            have hv : ∀ g, va.v.ownBlock = some g → g < Q := fun g e => by have := (SX.out.2.2.2.fw g (.inr e)).2; rw [HQ.out] at this; exact this
            exact ⟨B2.out.1.kp k8 (fun e => by have := hv _ e; omega), B2.out.2.1.kp k8 (fun e => by have := hv _ e; have := B2.out.2.2; omega), U9.out.q2.kp k8 (fun e => by have h9 := SX.out.2.2.2.fa _ (.inr e); exact h9.2.2 rfl), by have := SX.out.1; omega⟩
          have PO : Hid (HeldV F' l' vb w8 ∧ (∀ g, F' g → F g ∨ w7.heap.size ≤ g) ∧ (∀ g, vb.v.ownBlock = some g → va.v.ownBlock = some g ∨ w7.heap.size ≤ g) ∧ Kp (fun g => va.v.ownBlock = some g) w7 w8) := ⟨hh, nF, nv, k8⟩
          clear hh ll nF nv k8 k0 k1
          have k1 := A8.out.1.cell 1 _ rfl
          go_wp2_with (first
            | (refine step_load rfl 37 _ rfl P 0 rfl p2.V _ (A8.out.2.1.range 0 9) Try.underlying37 rfl (infoPr _ _ _ _ _ _ _ _ _) ?_)
            | (refine step_store rfl 37 _ _ rfl Q2 0 37 p2.V p2.V rfl rfl A8.out.2.2.1 (Nat.le_refl _) (infoPr _ _ _ _ _ _ _ _ _) (onePv _ _ _ _ _ _ _ _ _) ?_; intro w10 b10 g10; have N9 : Hid (U5 w Q1 Q2 p1 p2 F' l' vb w10) := (U5.look SX.out.2.2.2.swap BW.out PO.out.1 PO.out.2.1 PO.out.2.2.1 PO.out.2.2.2 b10 g10).swap; clear b10 g10 k1))
          go_roundw
          case rel => exact ⟨i + 1, p1, p2, F', l', vb, rfl, by go_num, by omega, A8.out.2.2.2, by have := SX.out.2.1; omega, by have := SX.out.2.2.1; omega, N9.out⟩
          case measure => simp [intOf]; omega
        by_cases h14 : 1 ≤ kind ∧ kind ≤ 4
        · have e5 : (kind == 5) = false := by simp; omega
          have e6 : (kind == 6) = false := by simp; omega
          have e1 : (1 : Int) ≤ kind := h14.1
          have e4 : kind ≤ 4 := h14.2
          go_wp2_with (first
            | (refine step_load rfl 37 _ rfl P 0 rfl p2.V _ (B2.out.2.1.range 0 9) Try.underlying37 rfl (infoPr _ _ _ _ _ _ _ _ _) ?_)
            | (refine step_load rfl 28 _ rfl Q 0 rfl (OD kind true file oa ob x ds.length c) _ (B2.out.1.range 0 6) Try.underlying28 rfl (infoOd _ _ _ _ _ _ _ _) ?_))
          refine (WR.out p2 _ ⟨kind, true, file, oa, ob, ds⟩ x c (U9.out.b) (by have := SX.out.2.2.1; omega) OKD.out ⟨by omega, by omega⟩).mono ?_
          rintro e w8 ⟨p', rfl, po⟩
          have A8 : Hid (Blk Q 28 (OD kind true file oa ob x ds.length c) w8 ∧ Blk P 37 p2.V w8 ∧ Blk Q2 37 p2.V w8) := by
            have hv : ∀ g, p2.B g → g < Q := fun g e => by have := PD.lt SX.out.2.2.2.b e; rw [HQ.out] at this; exact this
            exact ⟨B2.out.1.kp po.2.2.1 (fun e => by have := hv _ e; omega), B2.out.2.1.kp po.2.2.1 (fun e => by have := hv _ e; have := B2.out.2.2; omega), U9.out.q2.kp po.2.2.1 SX.out.2.2.2.nb.2⟩
          have PO : Hid (PD.Post w p2 w7 p' w8) := po
          clear po k0 k1
          go_upto_region 29 with (refine step_store rfl 37 _ _ rfl P 0 37 p2.V p'.V rfl rfl A8.out.2.1 (Nat.le_refl _) (infoPr _ _ _ _ _ _ _ _ _) (onePv _ _ _ _ _ _ _ _ _) ?_; intro w9 b9 g9)
          have A9 : Hid (Blk Q 28 (OD kind true file oa ob x ds.length c) w9 ∧ Blk P 37 p'.V w9 ∧ Blk Q2 37 p2.V w9 ∧ w8.grownBy w9 (some P)) := ⟨A8.out.1.grown g9 (by have := B2.out.2.2; omega), b9, A8.out.2.2.grown g9 (by have h9 := SX.out.2.2.2.q2.lt; have h8 := B2.out.2.2; rw [HQ.out] at h9; omega), g9⟩
          clear b9 g9
          have k1 := A9.out.1.cell 1 _ rfl
          go_wp2_with (first
            | (refine step_load rfl 37 _ rfl P 0 rfl p'.V _ (A9.out.2.1.range 0 9) Try.underlying37 rfl (infoPr _ _ _ _ _ _ _ _ _) ?_)
            | (refine step_store rfl 37 _ _ rfl Q2 0 37 p2.V p'.V rfl rfl A9.out.2.2.1 (Nat.le_refl _) (infoPr _ _ _ _ _ _ _ _ _) (onePv _ _ _ _ _ _ _ _ _) ?_; intro w10 b10 g10; have N9 : Hid (U5 w Q1 Q2 p1 p' F l va w10) := (U5.one (M := fun g => some P = some g) SX.out.2.2.2.swap BW.out PO.out (Kp.of_grown A9.out.2.2.2) (fun g hg => by injection hg with hg; have h9 := HQ.out; have h8 := B2.out.2.1.lt; have h7 := B2.out.2.2; omega) b10 g10).swap; clear b10 g10 k1))
          go_roundw
          case rel => exact ⟨i + 1, p1, p', F, l, va, rfl, by go_num, by omega, by have := SX.out.1; omega, by have := SX.out.2.1; have := PO.out.2.2.2; omega, by have := SX.out.2.2.1; have := PO.out.2.2.2; omega, N9.out⟩
          case measure => simp [intOf]; omega
        by_cases h1 : (1 : Int) ≤ kind
        · have e5 : (kind == 5) = false := by simp; omega
          have e6 : (kind == 6) = false := by simp; omega
          have e4 : ¬ kind ≤ 4 := by omega
          go_wp2_with (first
            | (refine step_load rfl 37 _ rfl P 0 rfl p2.V _ (B2.out.2.1.range 0 9) Try.underlying37 rfl (infoPr _ _ _ _ _ _ _ _ _) ?_)
            | (refine step_load rfl 28 _ rfl Q 0 rfl (OD kind true file oa ob x ds.length c) _ (B2.out.1.range 0 6) Try.underlying28 rfl (infoOd _ _ _ _ _ _ _ _) ?_))
          refine (OR.out p2 _ ⟨kind, true, file, oa, ob, ds⟩ x c (U9.out.b) (by have := SX.out.2.2.1; omega) (by show ¬ (1 ≤ kind ∧ kind ≤ 4); omega)).mono ?_
          rintro e w8 ⟨p', rfl, po⟩
          have A8 : Hid (Blk Q 28 (OD kind true file oa ob x ds.length c) w8 ∧ Blk P 37 p2.V w8 ∧ Blk Q2 37 p2.V w8) := by
            have hv : ∀ g, p2.B g → g < Q := fun g e => by have := PD.lt SX.out.2.2.2.b e; rw [HQ.out] at this; exact this
            exact ⟨B2.out.1.kp po.2.2.1 (fun e => by have := hv _ e; omega), B2.out.2.1.kp po.2.2.1 (fun e => by have := hv _ e; have := B2.out.2.2; omega), U9.out.q2.kp po.2.2.1 SX.out.2.2.2.nb.2⟩
          have PO : Hid (PD.Post w p2 w7 p' w8) := po
          clear po k0 k1
          go_upto_region 29 with (refine step_store rfl 37 _ _ rfl P 0 37 p2.V p'.V rfl rfl A8.out.2.1 (Nat.le_refl _) (infoPr _ _ _ _ _ _ _ _ _) (onePv _ _ _ _ _ _ _ _ _) ?_; intro w9 b9 g9)
          have A9 : Hid (Blk Q 28 (OD kind true file oa ob x ds.length c) w9 ∧ Blk P 37 p'.V w9 ∧ Blk Q2 37 p2.V w9 ∧ w8.grownBy w9 (some P)) := ⟨A8.out.1.grown g9 (by have := B2.out.2.2; omega), b9, A8.out.2.2.grown g9 (by have h9 := SX.out.2.2.2.q2.lt; have h8 := B2.out.2.2; rw [HQ.out] at h9; omega), g9⟩
          clear b9 g9
          have k1 := A9.out.1.cell 1 _ rfl
          go_wp2_with (first
            | (refine step_load rfl 37 _ rfl P 0 rfl p'.V _ (A9.out.2.1.range 0 9) Try.underlying37 rfl (infoPr _ _ _ _ _ _ _ _ _) ?_)
            | (refine step_store rfl 37 _ _ rfl Q2 0 37 p2.V p'.V rfl rfl A9.out.2.2.1 (Nat.le_refl _) (infoPr _ _ _ _ _ _ _ _ _) (onePv _ _ _ _ _ _ _ _ _) ?_; intro w10 b10 g10; have N9 : Hid (U5 w Q1 Q2 p1 p' F l va w10) := (U5.one (M := fun g => some P = some g) SX.out.2.2.2.swap BW.out PO.out (Kp.of_grown A9.out.2.2.2) (fun g hg => by injection hg with hg; have h9 := HQ.out; have h8 := B2.out.2.1.lt; have h7 := B2.out.2.2; omega) b10 g10).swap; clear b10 g10 k1))
          go_roundw
          case rel => exact ⟨i + 1, p1, p', F, l, va, rfl, by go_num, by omega, by have := SX.out.1; omega, by have := SX.out.2.1; have := PO.out.2.2.2; omega, by have := SX.out.2.2.1; have := PO.out.2.2.2; omega, N9.out⟩
          case measure => simp [intOf]; omega
        · have e5 : (kind == 5) = false := by simp; omega
          have e6 : (kind == 6) = false := by simp; omega
          go_wp2_with (first
            | (refine step_load rfl 37 _ rfl P 0 rfl p2.V _ (B2.out.2.1.range 0 9) Try.underlying37 rfl (infoPr _ _ _ _ _ _ _ _ _) ?_)
            | (refine step_load rfl 28 _ rfl Q 0 rfl (OD kind true file oa ob x ds.length c) _ (B2.out.1.range 0 6) Try.underlying28 rfl (infoOd _ _ _ _ _ _ _ _) ?_))
          refine (OR.out p2 _ ⟨kind, true, file, oa, ob, ds⟩ x c (U9.out.b) (by have := SX.out.2.2.1; omega) (by show ¬ (1 ≤ kind ∧ kind ≤ 4); omega)).mono ?_
          rintro e w8 ⟨p', rfl, po⟩
          have A8 : Hid (Blk Q 28 (OD kind true file oa ob x ds.length c) w8 ∧ Blk P 37 p2.V w8 ∧ Blk Q2 37 p2.V w8) := by
            have hv : ∀ g, p2.B g → g < Q := fun g e => by have := PD.lt SX.out.2.2.2.b e; rw [HQ.out] at this; exact this
            exact ⟨B2.out.1.kp po.2.2.1 (fun e => by have := hv _ e; omega), B2.out.2.1.kp po.2.2.1 (fun e => by have := hv _ e; have := B2.out.2.2; omega), U9.out.q2.kp po.2.2.1 SX.out.2.2.2.nb.2⟩
          have PO : Hid (PD.Post w p2 w7 p' w8) := po
          clear po k0 k1
          go_upto_region 29 with (refine step_store rfl 37 _ _ rfl P 0 37 p2.V p'.V rfl rfl A8.out.2.1 (Nat.le_refl _) (infoPr _ _ _ _ _ _ _ _ _) (onePv _ _ _ _ _ _ _ _ _) ?_; intro w9 b9 g9)
          have A9 : Hid (Blk Q 28 (OD kind true file oa ob x ds.length c) w9 ∧ Blk P 37 p'.V w9 ∧ Blk Q2 37 p2.V w9 ∧ w8.grownBy w9 (some P)) := ⟨A8.out.1.grown g9 (by have := B2.out.2.2; omega), b9, A8.out.2.2.grown g9 (by have h9 := SX.out.2.2.2.q2.lt; have h8 := B2.out.2.2; rw [HQ.out] at h9; omega), g9⟩
          clear b9 g9
          have k1 := A9.out.1.cell 1 _ rfl
          go_wp2_with (first
            | (refine step_load rfl 37 _ rfl P 0 rfl p'.V _ (A9.out.2.1.range 0 9) Try.underlying37 rfl (infoPr _ _ _ _ _ _ _ _ _) ?_)
            | (refine step_store rfl 37 _ _ rfl Q2 0 37 p2.V p'.V rfl rfl A9.out.2.2.1 (Nat.le_refl _) (infoPr _ _ _ _ _ _ _ _ _) (onePv _ _ _ _ _ _ _ _ _) ?_; intro w10 b10 g10; have N9 : Hid (U5 w Q1 Q2 p1 p' F l va w10) := (U5.one (M := fun g => some P = some g) SX.out.2.2.2.swap BW.out PO.out (Kp.of_grown A9.out.2.2.2) (fun g hg => by injection hg with hg; have h9 := HQ.out; have h8 := B2.out.2.1.lt; have h7 := B2.out.2.2; omega) b10 g10).swap; clear b10 g10 k1))
          go_roundw
          case rel => exact ⟨i + 1, p1, p', F, l, va, rfl, by go_num, by omega, by have := SX.out.1; omega, by have := SX.out.2.1; have := PO.out.2.2.2; omega, by have := SX.out.2.2.1; have := PO.out.2.2.2; omega, N9.out⟩
          case measure => simp [intOf]; omega
    · obtain rfl : i = n := by omega
      have HE : Hid (HeldV F l va wr ∧ l.length ≤ i ∧ Below w.heap.size w wr) := ⟨SX.out.2.2.2.h, SX.out.1, SX.out.2.2.2.bel⟩
      clear SX WR OR LK OPS
      go_wp2_with fail
      refine (HC.out F l va wr HE.out.1 (by have := HE.out.2.1; omega)).mono ?_
      rintro e w9 ⟨rfl, b9⟩
      have B9 : Hid (Below w.heap.size w w9) := below_trans HE.out.2.2 b9
      clear b9 HE HC
      go_wp2_with fail
      go_ret
      exact ⟨rfl, B9.out⟩
end Go.Proofs.Ytiefnomldfhhnaa
