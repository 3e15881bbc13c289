/-
  Ours: write's Fill.
-/
import Derived.Test.YtiefnomldfhhnaaDskPr4
namespace Go.Proofs.Ytiefnomldfhhnaa
open Go.RowKit

set_option maxRecDepth 100000 in
set_option maxHeartbeats 2000000 in
theorem write_fill (w0 : World) (R : Nat) (S T : Nat → Prop) (t : Dk) (x0 x1 p0 p1 xa : Sl) (cn : Int) (w : World) (h : PrIn w0 R S T t x0 x1 p0 p1 xa cn w) (hw : 0 ≤ t.wr ∧ t.wr < 4611686018427387904) (o : OpD) (x : Option Addr) (c : Nat) (hl : o.data.length ≤ 1048576) (hd : ∀ w', Below w0.heap.size w0 w' → RdB w' (.slice x o.data.length c) o.data) (hk : o.kind = 2) :
    Calls Try.prog 16 #[.agg (PV R x0 x1 p0 p1 xa cn t.dn t.wr).toArray, opd o x c] w fun e w' => ∃ y0 y1 q0 q1 ya cm, e = .returned (.tuple #[.agg (PV R y0 y1 q0 q1 ya cm ((t.append o.file (handedL o)).1).dn ((t.append o.file (handedL o)).1).wr).toArray, .bool true]) ∧ PrPost w0 R S T w ((t.append o.file (handedL o)).1) y0 y1 q0 q1 ya cm w' := by
  have W3 := below3 w (PV R x0 x1 p0 p1 xa cn t.dn t.wr) (OD o.kind o.other o.file o.a o.b x o.data.length c) PZ 37 28 37
  obtain ⟨D3, O3, Z3⟩ := blk3 w (PV R x0 x1 p0 p1 xa cn t.dn t.wr) (OD o.kind o.other o.file o.a o.b x o.data.length c) PZ 37 28 37
  unfold opd
  have H : Hid (PrIn w0 R S T t x0 x1 p0 p1 xa cn w) := h
  have ok := h.d.at_.1
  have WQ : Hid (w0.heap.size ≤ w.heap.size) := h.d.bel.size
  clear h
  have HW : Hid (0 ≤ t.wr ∧ t.wr < 4611686018427387904) := hw
  have OK : Hid t.Ok := ok
  obtain ⟨i0, hi, hz0, hz1, hz2⟩ := info_parts infoB
  have HL0 := handedL_len hl
  have B0 : Hid (Below w0.heap.size w0 w) := H.out.d.bel
  have HDD : Hid (∀ w', Below w0.heap.size w0 w' → RdB w' (.slice x o.data.length c) o.data) := hd
  have HDC : Hid (∀ w', Below w0.heap.size w0 w' → Calls Try.prog 26 #[.agg (OD o.kind o.other o.file o.a o.b x o.data.length c).toArray] w' (NewB w' (handedL o))) := fun w' hb => handed_at o x c w' hl (hd w' hb)
  have EQ : Hid (∀ (xs : List Nat) va vb w', xs.length ≤ 100000000 → RdB w' va xs → RdB w' vb xs → Calls Try.prog 14 #[va, vb] w' fun e w2 => e = .returned (.bool true) ∧ Below w'.heap.size w' w2) := fun xs va vb w' hl h1 h2 => (equal_at xs xs va vb w' (by omega) h1 h2).mono fun e w2 ⟨he, m, hw⟩ => ⟨by rw [he]; simp, by rw [hw]; exact below_drewN (Below.refl _ _) m⟩
  obtain ⟨hs, hhs⟩ : ∃ hs, handedL o = hs := ⟨_, rfl⟩
  obtain ⟨res, hres⟩ : ∃ r, t.append o.file (handedL o) = r := ⟨_, rfl⟩
  rw [hres]
  have HRES : Hid (t.append o.file hs = res) := by show _ = _; rw [← hhs]; exact hres
  rw [hhs] at HL0 HDC
  have HL : Hid (hs.length ≤ 100000000) := HL0
  have one : ∀ u ∈ ([.int .u8 201, .int .u8 202, .int .u8 203] : List Value), u.oneCell' = true := fun u hu => by simp at hu; rcases hu with rfl | rfl | rfl <;> rfl
  have l1 : (hs.map bv).length + ([.int .u8 201, .int .u8 202, .int .u8 203] : List Value).length ≤ maxLen := by rw [List.length_map]; unfold maxLen; simp; omega
  have l2 : ((hs.map bv).length + ([.int .u8 201, .int .u8 202, .int .u8 203] : List Value).length) * 1 ≤ 140737488355328 := by rw [List.length_map]; simp; omega
  clear hw hd hres hhs hl HL0 ok
  have kb1 : (o.kind == 1) = false := by rw [hk]; rfl
  have kb2 : (o.kind == 2) = true := by rw [hk]; rfl
  clear hk
  go_enter Try.func16, Try.ntmps16
  go_upto_region 1 with fail
  generalize ((w.alloc (.cells (PV R x0 x1 p0 p1 xa cn t.dn t.wr).toArray 37)).alloc (.cells (OD o.kind o.other o.file o.a o.b x o.data.length c).toArray 28)).alloc (.cells PZ.toArray 37) = w3 at *
  obtain ⟨Q, hQ⟩ : ∃ Q, w.heap.size = Q := ⟨_, rfl⟩
  rw [hQ] at D3 O3 Z3 ⊢
  have HQ : Hid (w.heap.size = Q) := hQ
  clear hQ
  have NS : Hid (∀ g, Q ≤ g → ¬ S g ∧ ¬ T g) := fun g hg => ⟨fun hs => by have := H.out.d.at_.size g hs; have := HQ.out; omega, fun hs => by have := H.out.r.s g hs; have := HQ.out; omega⟩
  have A3 : Hid (WB Q (PV R x0 x1 p0 p1 xa cn t.dn t.wr) (OD o.kind o.other o.file o.a o.b x o.data.length c) w3 ∧ Below w.heap.size w w3 ∧ Q + 3 ≤ w3.heap.size) := ⟨⟨D3, O3, Z3⟩, W3, Z3.lt⟩
  have a0 := O3.cell 0 _ rfl
  clear D3 O3 Z3 W3
  go_wp2_with (refine step_load rfl 28 _ rfl (Q + 1) 0 rfl (OD o.kind o.other o.file o.a o.b x o.data.length c) _ A3.out.1.o.all Try.underlying28 rfl (infoOd _ _ _ _ _ _ _ _) ?_)
  refine (HDC.out _ (below_trans B0.out A3.out.2.1)).mono ?_
  rintro e w4 ⟨vh, rfl, rh, b4⟩
  have A4 : Hid (WB Q (PV R x0 x1 p0 p1 xa cn t.dn t.wr) (OD o.kind o.other o.file o.a o.b x o.data.length c) (w4.alloc (.cells #[.int .u8 201, .int .u8 202, .int .u8 203] 5)) ∧ RowV 5 w3.heap.size (w4.alloc (.cells #[.int .u8 201, .int .u8 202, .int .u8 203] 5)) vh (hs.map bv) ∧ Rd (w4.alloc (.cells #[.int .u8 201, .int .u8 202, .int .u8 203] 5)) (.slice (some ⟨w4.heap.size, 0, none⟩) 3 3) [.int .u8 201, .int .u8 202, .int .u8 203] ∧ w3.heap.size ≤ (w4.alloc (.cells #[.int .u8 201, .int .u8 202, .int .u8 203] 5)).heap.size ∧ Below w3.heap.size w3 (w4.alloc (.cells #[.int .u8 201, .int .u8 202, .int .u8 203] 5))) := ⟨(A3.out.1.below b4).below (below_alloc _ _), rh.later (below_alloc _ _), rd3 w4, (below_trans b4 (below_alloc _ _)).size, below_trans b4 (below_alloc _ _)⟩
  clear rh b4 a0 HDC
  go_upto_region 7 with (at_builtin; refine wpList_catV rfl _ _ 22 rfl 5 i0 (.int .u8 0) 1 underB hi hz0 hz1 hz2 rfl w3.heap.size vh (.slice (some ⟨w4.heap.size, 0, none⟩) 3 3) (hs.map bv) [.int .u8 201, .int .u8 202, .int .u8 203] one rfl A4.out.2.1 A4.out.2.2.2.1 rfl A4.out.2.2.1 l1 l2 ?_; intro v5 w5 r5 g5)
  have B5 : Below w3.heap.size w3 w5 := A4.out.2.2.2.2.grown g5 A4.out.2.2.2.2.size (fun q e => (World.ownsRow.lt A4.out.2.1 q e).1)
  obtain ⟨g, cap, rfl, gle, glt, hcap0⟩ := RowV.lies r5 (by simp)
  obtain ⟨L, hL⟩ : ∃ L, hs.length = L := ⟨_, rfl⟩
  have HLL : Hid (hs.length = L) := hL
  have hL4 : L ≤ 100000000 := by rw [← hL]; exact HL.out
  have R5 : Hid (Rd w5 (.slice (some ⟨g, 0, none⟩) (L + 3) cap) (hs.map bv ++ [.int .u8 201, .int .u8 202, .int .u8 203]) ∧ RowV 5 w3.heap.size w5 (.slice (some ⟨g, 0, none⟩) (L + 3) cap) (hs.map bv ++ [.int .u8 201, .int .u8 202, .int .u8 203])) := by
    have e : (hs.map bv ++ [.int .u8 201, .int .u8 202, .int .u8 203] : List Value).length = L + 3 := by simp [hL]
    rw [e] at r5
    exact ⟨r5.rd, r5⟩
  have eL : (hs.map bv ++ [.int .u8 201, .int .u8 202, .int .u8 203] : List Value).length = L + 3 := by simp [hL]
  rw [eL]
  rw [eL] at hcap0
  have A5 : Hid (WB Q (PV R x0 x1 p0 p1 xa cn t.dn t.wr) (OD o.kind o.other o.file o.a o.b x o.data.length c) w5 ∧ Below w.heap.size w w5 ∧ w3.heap.size ≤ g ∧ g < w5.heap.size ∧ Q + 3 ≤ g ∧ RdB w5 (.slice (some ⟨g, 0, none⟩) L cap) hs) := ⟨A3.out.1.below B5, below_trans A3.out.2.1 B5, gle, glt, Nat.le_trans A3.out.2.2 gle, by
    have := R5.out.1.cut (k := L) (by omega)
    rw [List.take_left' (by simp [hL])] at this
    exact this⟩
  clear r5 g5 B5 gle glt eL hL A4 l1 l2
  have RC : Hid (Calls _ _ _ _ _) := rappend_at T t x0 x1 p0 p1 xa cn w5 (H.out.r.below A5.out.2.1) OK.out HW.out o.file hs ⟨some ⟨g, 0, none⟩, L, cap⟩ A5.out.2.2.2.2.2 (by have := HLL.out; omega)
  rw [HRES.out] at RC
  have a2 := A5.out.1.o.cell 2 _ rfl
  have e3 : (((L + 3 : Nat) : Int) - 3) = (L : Int) := by omega
  go_wp2_with (refine step_load rfl 34 _ rfl Q 1 rfl (RV x0 x1 p0 p1 xa cn t.dn t.wr) _ (A5.out.1.d.range 1 8) Try.underlying34 rfl (infoRv _ _ _ _ _ _ _ _) ?_)
  refine RC.out.mono ?_
  rintro e w6 ⟨y0, y1, q0, q1, ya, cm, rfl, rn⟩
  have A6 : Hid (WB Q (PV R x0 x1 p0 p1 xa cn t.dn t.wr) (OD o.kind o.other o.file o.a o.b x o.data.length c) w6 ∧ RfNew T w5 res.1 y0 y1 q0 q1 ya cm w6 ∧ Rd w6 (.slice (some ⟨g, 0, none⟩) (L + 3) cap) (hs.map bv ++ [.int .u8 201, .int .u8 202, .int .u8 203]) ∧ RowV 5 w3.heap.size w6 (.slice (some ⟨g, 0, none⟩) (L + 3) cap) (hs.map bv ++ [.int .u8 201, .int .u8 202, .int .u8 203])) := by
    have b6 : Below w5.heap.size w5 w6 := by obtain ⟨_, _, _, hb⟩ := rn; exact hb
    exact ⟨A5.out.1.below b6, rn, R5.out.1.later b6, R5.out.2.later b6⟩
  clear rn a2 RC R5
  go_upto_region 10 with (refine step_store rfl 34 _ _ rfl Q 1 37 (PV R x0 x1 p0 p1 xa cn t.dn t.wr) (RV y0 y1 q0 q1 ya cm res.1.dn res.1.wr) rfl rfl A6.out.1.d (Nat.le_refl _) (infoRv _ _ _ _ _ _ _ _) (oneRv _ _ _ _ _ _ _ _) ?_; intro w7 nb7 g7)
  have A7 : Hid (WB Q (PV R y0 y1 q0 q1 ya cm res.1.dn res.1.wr) (OD o.kind o.other o.file o.a o.b x o.data.length c) w7 ∧ w6.grownBy w7 (some Q) ∧ DkIn w0 R S t w7 ∧ Rd w7 (.slice (some ⟨g, 0, none⟩) (L + 3) cap) (hs.map bv ++ [.int .u8 201, .int .u8 202, .int .u8 203]) ∧ RowV 5 w3.heap.size w7 (.slice (some ⟨g, 0, none⟩) (L + 3) cap) (hs.map bv ++ [.int .u8 201, .int .u8 202, .int .u8 203]) ∧ RdB w7 (.slice (some ⟨g, 0, none⟩) L cap) hs) := by
    have kk := Kp.of_grown g7
    have rr := A6.out.2.2.2.kp kk (fun q hq e => by have hq : g = q := (by injection hq); subst hq; have := A5.out.2.2.2.2.1; injection e with e; omega)
    have cc := rr.rd.cut (k := L) (by omega)
    rw [List.take_left' (by simp [HLL.out])] at cc
    exact ⟨⟨nb7, A6.out.1.o.grown g7 (by omega), A6.out.1.z.grown g7 (by omega)⟩, g7, pr_mid H.out A5.out.2.1 A6.out.2.1 g7 (Nat.le_of_eq HQ.out), rr.rd, rr, cc⟩
  clear nb7 g7
  have PC : Hid (Calls _ _ _ _ _) := append_at R S t w7 o.file hs (some ⟨g, 0, none⟩) L cap HW.out A7.out.2.2.1.at_ A7.out.2.2.2.2.2 (by have := HLL.out; omega) (fun _ q hq => by have hq : g = q := (by injection hq); subst hq; exact (NS.out _ (by have := A5.out.2.2.2.2.1; omega)).1)
  rw [HRES.out] at PC
  have d0 := A7.out.1.d.cell 0 _ rfl
  have a2 := A7.out.1.o.cell 2 _ rfl
  go_wp2_with fail
  refine PC.out.mono ?_
  rintro e w8 ⟨rfl, p8⟩
  have A8 : Hid (WB Q (PV R y0 y1 q0 q1 ya cm res.1.dn res.1.wr) (OD o.kind o.other o.file o.a o.b x o.data.length c) w8 ∧ DkPost R S w7 res.1 w8 ∧ Rd w8 (.slice (some ⟨g, 0, none⟩) (L + 3) cap) (hs.map bv ++ [.int .u8 201, .int .u8 202, .int .u8 203]) ∧ RowV 5 w3.heap.size w8 (.slice (some ⟨g, 0, none⟩) (L + 3) cap) (hs.map bv ++ [.int .u8 201, .int .u8 202, .int .u8 203]) ∧ RdB w8 (.slice (some ⟨g, 0, none⟩) L cap) hs ∧ Below w0.heap.size w0 w8) := by
    have k8 : Kp S w7 w8 := p8.elim fun _ h => h.2.2
    have rr := A7.out.2.2.2.2.1.kp k8 (fun q hq => by have hq : g = q := (by injection hq); subst hq; exact (NS.out _ (by have := A5.out.2.2.2.2.1; omega)).1)
    have cc := rr.rd.cut (k := L) (by omega)
    rw [List.take_left' (by simp [HLL.out])] at cc
    exact ⟨A7.out.1.kp k8 (fun q hq => .inl (by rcases Nat.lt_or_ge q Q with h | h; exact h; exact absurd hq (NS.out q h).1)), p8, rr.rd, rr, cc, Below.of_kp A7.out.2.2.1.bel k8 A7.out.2.2.1.new⟩
  clear p8 d0 a2 PC
  have a0 := A8.out.1.o.cell 0 _ rfl
  have a5 := A8.out.1.o.cell 5 _ rfl
  have RT : Hid (∀ w', Below w8.heap.size w8 w' → RdB w' (.slice (some ⟨g, L, none⟩) 3 (cap - L)) [201, 202, 203]) := fun w' hb => (Rd.tail (L := L) (us := [.int .u8 201, .int .u8 202, .int .u8 203]) A8.out.2.2.1 (by simp [HLL.out])).later hb
  go_wp2_with fail
  have A9 : Hid (Below w8.heap.size w8 w8) := Below.refl _ _
  clear a0 a5
  refine (EQ.out [201, 202, 203] _ _ _ (by simp) (RT.out _ (below_trans A9.out (below_alloc _ _))) (rd3 w8)).mono ?_
  rintro e w10 ⟨rfl, b10⟩
  have A10 : Hid (WB Q (PV R y0 y1 q0 q1 ya cm res.1.dn res.1.wr) (OD o.kind o.other o.file o.a o.b x o.data.length c) w10 ∧ Below w8.heap.size w8 w10) := ⟨((A8.out.1.below A9.out).below (below_alloc _ _)).below b10, below_trans (below_trans A9.out (below_alloc _ _)) b10⟩
  have HR : Hid (HasRow w10 (.slice (some ⟨g, 0, none⟩) L cap) L) := by
    have rr := ((A8.out.2.2.2.1.later A10.out.2).mono (Nat.zero_le _)).cut (k := L) (by omega)
    exact ⟨_, by rw [List.length_take]; simp [HLL.out], rr⟩
  have eb : (res.2 == res.2) = true := by simp
  clear b10 A9 RT EQ
  go_wp2_with fail
  go_loopw [11] (fun vi wr => ∃ i : Nat, vi = .int .i64 (i : Int) ∧ i ≤ L ∧ i ≤ 4096 ∧ Hid (Kp (fun q => q = g) w10 wr ∧ HasRow wr (.slice (some ⟨g, 0, none⟩) L cap) L)) (fun vi _ => L - (intOf vi).toNat)
  case atStart => exact ⟨0, rfl, by omega, by omega, Kp.refl _ _, HR.out⟩
  case round =>
    obtain ⟨i, rfl, hi1, hi2, B⟩ := hrel
    clear HR
    by_cases hlt : (i : Int) < (L : Int)
    · by_cases h4 : (i : Int) < 4096
      · obtain ⟨g', u, e, hcu, hfu⟩ := B.out.2.at (i := i) (by omega)
        obtain rfl : g = g' := by injection e with e; injection e
        have B2 : Hid (Kp (fun q => q = g) w10 (wr.setCell ⟨g, i, none⟩ (.int .u8 211)) ∧ HasRow (wr.setCell ⟨g, i, none⟩ (.int .u8 211)) (.slice (some ⟨g, 0, none⟩) L cap) L) := ⟨B.out.1.trans (Kp.of_grown (setCell_grown wr g i (.int .u8 211))) (fun q _ e => by injection e with e; exact e.symm), B.out.2.set g i (.int .u8 211)⟩
        clear B e
        go_wp2_with fail
        go_roundw
        case rel => exact ⟨i + 1, by go_num, by omega, by omega, B2.out⟩
        case measure => simp [intOf]; omega
      · have K9 : Hid (WB Q (PV R y0 y1 q0 q1 ya cm res.1.dn res.1.wr) (OD o.kind o.other o.file o.a o.b x o.data.length c) wr ∧ Kp (fun q => q = g) w8 wr) := ⟨A10.out.1.kp B.out.1 (fun q e => .inr (by have := A5.out.2.2.2.2.1; omega)), (Kp.of_below A10.out.2 _).trans B.out.1 (fun _ _ h => h)⟩
        clear B
        go_wp2_with (first
          | (refine step_load rfl 37 _ rfl Q 0 rfl (PV R y0 y1 q0 q1 ya cm res.1.dn res.1.wr) _ (K9.out.1.d.range 0 9) Try.underlying37 rfl (infoPr _ _ _ _ _ _ _ _ _) ?_)
          | (refine step_store rfl 37 _ _ rfl (Q + 2) 0 37 PZ (PV R y0 y1 q0 q1 ya cm res.1.dn res.1.wr) rfl rfl K9.out.1.z (Nat.le_refl _) (infoPr _ _ _ _ _ _ _ _ _) (onePv _ _ _ _ _ _ _ _ _) ?_; intro w11 b11 g11))
        have N9 : Hid (Blk (Q + 2) 37 (PV R y0 y1 q0 q1 ya cm res.1.dn res.1.wr) w11 ∧ PrPost w0 R S T w res.1 y0 y1 q0 q1 ya cm w11) := ⟨b11, pr_endM (M := fun q => q = g ∨ q = Q + 2) H.out A5.out.2.1 A6.out.2.1 A7.out.2.1 (Nat.le_of_eq HQ.out) (by have := A5.out.2.2.2.1; have := A5.out.2.2.2.2.1; omega) A8.out.2.1 ((K9.out.2.mono (fun _ _ h => .inl h)).trans (Kp.of_grown g11) (fun q _ e => .inr (by injection e with e; exact e.symm))) (fun q hq => by have h1 := A5.out.2.2.2.1; have h2 := A5.out.2.2.2.2.1; have h3 := HQ.out; rcases hq with e | e <;> omega)⟩
        exact bodyPost_cell_tmp rfl rfl (Q + 2) _ _ _ _ rfl N9.out.1 Try.underlying37 rfl (by kernel_rfl) ⟨y0, y1, q0, q1, ya, cm, rfl, N9.out.2⟩
    · have K9 : Hid (WB Q (PV R y0 y1 q0 q1 ya cm res.1.dn res.1.wr) (OD o.kind o.other o.file o.a o.b x o.data.length c) wr ∧ Kp (fun q => q = g) w8 wr) := ⟨A10.out.1.kp B.out.1 (fun q e => .inr (by have := A5.out.2.2.2.2.1; omega)), (Kp.of_below A10.out.2 _).trans B.out.1 (fun _ _ h => h)⟩
      clear B
      go_wp2_with (first
        | (refine step_load rfl 37 _ rfl Q 0 rfl (PV R y0 y1 q0 q1 ya cm res.1.dn res.1.wr) _ (K9.out.1.d.range 0 9) Try.underlying37 rfl (infoPr _ _ _ _ _ _ _ _ _) ?_)
        | (refine step_store rfl 37 _ _ rfl (Q + 2) 0 37 PZ (PV R y0 y1 q0 q1 ya cm res.1.dn res.1.wr) rfl rfl K9.out.1.z (Nat.le_refl _) (infoPr _ _ _ _ _ _ _ _ _) (onePv _ _ _ _ _ _ _ _ _) ?_; intro w11 b11 g11))
      have N9 : Hid (Blk (Q + 2) 37 (PV R y0 y1 q0 q1 ya cm res.1.dn res.1.wr) w11 ∧ PrPost w0 R S T w res.1 y0 y1 q0 q1 ya cm w11) := ⟨b11, pr_endM (M := fun q => q = g ∨ q = Q + 2) H.out A5.out.2.1 A6.out.2.1 A7.out.2.1 (Nat.le_of_eq HQ.out) (by have := A5.out.2.2.2.1; have := A5.out.2.2.2.2.1; omega) A8.out.2.1 ((K9.out.2.mono (fun _ _ h => .inl h)).trans (Kp.of_grown g11) (fun q _ e => .inr (by injection e with e; exact e.symm))) (fun q hq => by have h1 := A5.out.2.2.2.1; have h2 := A5.out.2.2.2.2.1; have h3 := HQ.out; rcases hq with e | e <;> omega)⟩
      exact bodyPost_cell_tmp rfl rfl (Q + 2) _ _ _ _ rfl N9.out.1 Try.underlying37 rfl (by kernel_rfl) ⟨y0, y1, q0, q1, ya, cm, rfl, N9.out.2⟩
end Go.Proofs.Ytiefnomldfhhnaa
