/-
  Ours: the reference's In.record.
-/
import Derived.Test.YtbghoogkmdnmpaaWirRecM
import Derived.Test.YtbghoogkmdnmpaaWirInOp
import Derived.Test.YtbghoogkmdnmpaaWirInC
import Derived.Test.YtbghoogkmdnmpaaWirNear
import Derived.Deep.Cut
namespace Go.Proofs.Ytbghoogkmdnmpaa
open Go.RowKit

theorem tkU_first {r : List Nat} {c : Nat} (hb : Bytes (c :: r)) (hc : c < 128) : tkU (c :: r) (some 0) = (c, some 1) := by
  have := tkU_told hb (p := 0) (Nat.zero_le _) (u := c) (by omega) (r := r) (by rw [put_small hc]; rfl)
  rw [this, put_small hc]; rfl
theorem recR_one {r : List Nat} (hb : Bytes (1 :: r)) : recR (1 :: r) = ((1, (opR (1 :: r) (some 1)).1, []), (opR (1 :: r) (some 1)).2) := by
  unfold recR; rw [tkU_first hb (by omega)]; unfold recW; rw [if_pos rfl]
theorem recR_two {r : List Nat} (hb : Bytes (2 :: r)) : recR (2 :: r) = ((2, opZ, (tkL (2 :: r) (some 1)).1), (tkL (2 :: r) (some 1)).2) := by
  unfold recR; rw [tkU_first hb (by omega)]; unfold recW; rw [if_neg (by omega), if_pos rfl]
theorem recR_other {r : List Nat} {c : Nat} (hb : Bytes (c :: r)) (h1 : c ≠ 1) (h2 : c ≠ 2) : recR (c :: r) = ((0, opZ, []), none) := by
  have hn : (tkU (c :: r) (some 0)).1 ≠ 1 ∧ (tkU (c :: r) (some 0)).1 ≠ 2 := by
    unfold tkU
    simp only
    cases hr : Go.Proofs.Ytbghoogkmdnmpaa.rd (c :: r) ((0 : Nat) : Int) with
    | none => simp
    | some q =>
      obtain ⟨u, n⟩ := q
      obtain ⟨s, e, _, _⟩ := (rd_iff (c :: r) 0 u n hb (Nat.zero_le _)).1 hr
      simp only
      constructor
      · rintro rfl; rw [put_one] at e; simp at e; omega
      · rintro rfl; rw [put_two] at e; simp at e; omega
  unfold recR recW
  rw [if_neg hn.1, if_neg hn.2]
theorem recR_empty : recR [] = ((0, opZ, []), none) := by
  have : Go.Proofs.Ytbghoogkmdnmpaa.rd [] ((0 : Nat) : Int) = none := by unfold Go.Proofs.Ytbghoogkmdnmpaa.rd; simp [rdL]
  unfold recR recW tkU
  simp only [this]
  rfl
theorem RdB.first {w : World} {v : Value} {c : Nat} {r : List Nat} (h : RdB w v (c :: r)) : ∃ g o cap, v = .slice (some ⟨g, o, none⟩) (r.length + 1) cap ∧ g < w.heap.size ∧ w.cell? ⟨g, o, none⟩ = some (.int .u8 (c : Int)) := by
  obtain ⟨ao, cap, e, _, _, H⟩ := h
  obtain ⟨g, o, rfl, lt, e2⟩ := H 0 (by simp)
  exact ⟨g, o, cap, by simpa using e, lt, by simpa [bv] using e2⟩

/-- What In.record leaves. -/
def InRec (bs : List Nat) (R : Nat) (v : Value) (w : World) (rr : (Int × OpV × List Int) × Option Nat) (e : Ending) (w' : World) : Prop :=
  ∃ k o va xs, e = .returned (recV k o va) ∧ RowN w.heap.size w' va xs ∧ IS bs R v rr.2 w' ∧ (rr.2.isSome = true → (k, o, xs) = rr.1) ∧ w.grownBy w' (some R)

set_option maxRecDepth 20000 in
set_option maxHeartbeats 4000000 in
theorem inRec_nil (R : Nat) (v : Value) (w : World) (_hb : Bytes (([] : List Nat))) (_hl : (([] : List Nat)).length ≤ 1000000000000) (h : IS (([] : List Nat)) R v (some 0) w) : Calls Try.prog 70 #[.pointer (some ⟨R, 0, none⟩)] w (InRec (([] : List Nat)) R v w (recR [])) := by
  have BA := below_alloc w (.cells #[.int .i64 0, .int .i64 0, .int .i64 0, .int .i64 0, .int .i64 0, .int .i64 0, .int .i64 0, .string ⟨#[]⟩, .slice none 0 0] 26)
  have BB := below_alloc (w.alloc (.cells #[.int .i64 0, .int .i64 0, .int .i64 0, .int .i64 0, .int .i64 0, .int .i64 0, .int .i64 0, .string ⟨#[]⟩, .slice none 0 0] 26)) (.cells #[.int .i64 0, .int .i64 0, .int .i64 0, .int .i64 0, .int .i64 0, .int .i64 0, .int .i64 0, .string ⟨#[]⟩, .slice none 0 0] 26)
  have D1 := (Blk.new 26 [.int .i64 0, .int .i64 0, .int .i64 0, .int .i64 0, .int .i64 0, .int .i64 0, .int .i64 0, .string ⟨#[]⟩, .slice none 0 0] w).below BB
  have X1 := Blk.new 26 [.int .i64 0, .int .i64 0, .int .i64 0, .int .i64 0, .int .i64 0, .int .i64 0, .int .i64 0, .string ⟨#[]⟩, .slice none 0 0] (w.alloc (.cells #[.int .i64 0, .int .i64 0, .int .i64 0, .int .i64 0, .int .i64 0, .int .i64 0, .int .i64 0, .string ⟨#[]⟩, .slice none 0 0] 26))
  rw [show (w.alloc (.cells #[.int .i64 0, .int .i64 0, .int .i64 0, .int .i64 0, .int .i64 0, .int .i64 0, .int .i64 0, .string ⟨#[]⟩, .slice none 0 0] 26)).heap.size = w.heap.size + 1 by simp] at X1
  have W1 := below_trans BA BB
  have I1 := h.below W1
  have hR := h.rs.lt
  have VB : ∀ g, w.heap.size ≤ g → 0 < (([] : List Nat)).length → v.ownBlock ≠ some g := fun g hg h0 e => by have := Rd.block h.rs.rd (by rw [List.length_map]; exact h0) e; omega
  have VB : Hid (∀ g, w.heap.size ≤ g → 0 < (([] : List Nat)).length → v.ownBlock ≠ some g) := VB
  have G1 := grownBy_below W1 (some R)
  clear BA BB W1 h
  rw [recR_empty]
  have c0 := I1.rs.c0
  have c2 := I1.rs.c2
  have f2 := I1.rs.fz 2
  obtain ⟨ao, cap, ev, _, _⟩ := I1.rs.rd.len
  rw [show (([] : List Nat).map bv).length = 0 from rfl] at ev
  have e0 : (((0 : Nat) : Int) == 0) = true := rfl
  rw [ev] at c0
  have I2 := I1.bad
  have g2 := setCell_grown ((w.alloc (.cells #[.int .i64 0, .int .i64 0, .int .i64 0, .int .i64 0, .int .i64 0, .int .i64 0, .int .i64 0, .string ⟨#[]⟩, .slice none 0 0] 26)).alloc (.cells #[.int .i64 0, .int .i64 0, .int .i64 0, .int .i64 0, .int .i64 0, .int .i64 0, .int .i64 0, .string ⟨#[]⟩, .slice none 0 0] 26)) R 2 (.bool true)
  have D2 := D1.grown g2 (by omega)
  have X2 := X1.grown g2 (by omega)
  have G2 := grownBy_trans G1 g2
  clear I1 D1 X1 G1 g2
  go_enter Try.func70, Try.ntmps70
  go_upto_region 3 with fail
  obtain ⟨W1, hW⟩ : ∃ W1, (w.alloc (.cells #[.int .i64 0, .int .i64 0, .int .i64 0, .int .i64 0, .int .i64 0, .int .i64 0, .int .i64 0, .string ⟨#[]⟩, .slice none 0 0] 26)).alloc (.cells #[.int .i64 0, .int .i64 0, .int .i64 0, .int .i64 0, .int .i64 0, .int .i64 0, .int .i64 0, .string ⟨#[]⟩, .slice none 0 0] 26) = W1 := ⟨_, rfl⟩
  rw [hW] at c0 c2 f2 I2 D2 X2 G2 ⊢
  clear hW
  go_upto_region 4 with fail
  generalize W1.setCell ⟨R, 2, none⟩ (.bool true) = W2 at *
  obtain ⟨Q, hQ0⟩ : ∃ Q, w.heap.size = Q := ⟨_, rfl⟩
  have hQ : Hid (w.heap.size = Q) := hQ0
  rw [hQ0] at D2 X2 hR ⊢
  clear hQ0 c0 c2 f2
  have lx0 := X2.cell 0 _ rfl
  have ld0 := D2.cell 0 _ rfl
  have lf0 := D2.fz 0
  have lx1 := X2.cell 1 _ rfl
  have ld1 := D2.cell 1 _ rfl
  have lf1 := D2.fz 1
  have lx2 := X2.cell 2 _ rfl
  have ld2 := D2.cell 2 _ rfl
  have lf2 := D2.fz 2
  have lx3 := X2.cell 3 _ rfl
  have ld3 := D2.cell 3 _ rfl
  have lf3 := D2.fz 3
  have lx4 := X2.cell 4 _ rfl
  have ld4 := D2.cell 4 _ rfl
  have lf4 := D2.fz 4
  have lx5 := X2.cell 5 _ rfl
  have ld5 := D2.cell 5 _ rfl
  have lf5 := D2.fz 5
  have lx6 := X2.cell 6 _ rfl
  have ld6 := D2.cell 6 _ rfl
  have lf6 := D2.fz 6
  have lx7 := X2.cell 7 _ rfl
  have ld7 := D2.cell 7 _ rfl
  have lf7 := D2.fz 7
  have lx8 := X2.cell 8 _ rfl
  have ld8 := D2.cell 8 _ rfl
  have lf8 := D2.fz 8
  obtain ⟨b9, g9⟩ := Blk.nine D2 (.int .i64 0) (.int .i64 0) (.int .i64 0) (.int .i64 0) (.int .i64 0) (.int .i64 0) (.int .i64 0) (.string ⟨#[]⟩) (.slice none 0 0)
  have B9 : Hid (Blk _ _ _ _) := b9
  have GF : Hid (World.grownBy _ _ _) := grown_more G2 g9 (Nat.le_of_eq hQ.out)
  have IF : Hid (IS _ _ _ _ _) := I2.other g9 (by omega) (VB.out Q (Nat.le_of_eq hQ.out))
  clear b9 g9 I2 X2 D2 G2
  repeat (first | go_guarded | go_step)
  generalize (((((((((W2).setCell ⟨Q, 0, none⟩ (.int .i64 0)).setCell ⟨Q, 1, none⟩ (.int .i64 0)).setCell ⟨Q, 2, none⟩ (.int .i64 0)).setCell ⟨Q, 3, none⟩ (.int .i64 0)).setCell ⟨Q, 4, none⟩ (.int .i64 0)).setCell ⟨Q, 5, none⟩ (.int .i64 0)).setCell ⟨Q, 6, none⟩ (.int .i64 0)).setCell ⟨Q, 7, none⟩ (.string ⟨#[]⟩)).setCell ⟨Q, 8, none⟩ (.slice none 0 0) = V9 at *
  exact bodyPost_cell rfl rfl Q _ _ _ _ rfl B9.out Try.underlying26 rfl (by kernel_rfl) ⟨_, ⟨_, _, _, _, _, _, _⟩, _, [], rfl, RowV.nil _ _ _, IF.out, (fun h => by cases h), GF.out⟩
set_option maxRecDepth 20000 in
set_option maxHeartbeats 4000000 in
theorem inRec_1 (r : List Nat) (R : Nat) (v : Value) (w : World) (hb : Bytes (1 :: r)) (hl : (1 :: r).length ≤ 1000000000000) (h : IS (1 :: r) R v (some 0) w) : Calls Try.prog 70 #[.pointer (some ⟨R, 0, none⟩)] w (InRec (1 :: r) R v w (recR (1 :: r))) := by
  have BA := below_alloc w (.cells #[.int .i64 0, .int .i64 0, .int .i64 0, .int .i64 0, .int .i64 0, .int .i64 0, .int .i64 0, .string ⟨#[]⟩, .slice none 0 0] 26)
  have BB := below_alloc (w.alloc (.cells #[.int .i64 0, .int .i64 0, .int .i64 0, .int .i64 0, .int .i64 0, .int .i64 0, .int .i64 0, .string ⟨#[]⟩, .slice none 0 0] 26)) (.cells #[.int .i64 0, .int .i64 0, .int .i64 0, .int .i64 0, .int .i64 0, .int .i64 0, .int .i64 0, .string ⟨#[]⟩, .slice none 0 0] 26)
  have D1 := (Blk.new 26 [.int .i64 0, .int .i64 0, .int .i64 0, .int .i64 0, .int .i64 0, .int .i64 0, .int .i64 0, .string ⟨#[]⟩, .slice none 0 0] w).below BB
  have X1 := Blk.new 26 [.int .i64 0, .int .i64 0, .int .i64 0, .int .i64 0, .int .i64 0, .int .i64 0, .int .i64 0, .string ⟨#[]⟩, .slice none 0 0] (w.alloc (.cells #[.int .i64 0, .int .i64 0, .int .i64 0, .int .i64 0, .int .i64 0, .int .i64 0, .int .i64 0, .string ⟨#[]⟩, .slice none 0 0] 26))
  rw [show (w.alloc (.cells #[.int .i64 0, .int .i64 0, .int .i64 0, .int .i64 0, .int .i64 0, .int .i64 0, .int .i64 0, .string ⟨#[]⟩, .slice none 0 0] 26)).heap.size = w.heap.size + 1 by simp] at X1
  have W1 := below_trans BA BB
  have I1 := h.below W1
  have hR := h.rs.lt
  have VB : ∀ g, w.heap.size ≤ g → 0 < (1 :: r).length → v.ownBlock ≠ some g := fun g hg h0 e => by have := Rd.block h.rs.rd (by rw [List.length_map]; exact h0) e; omega
  have VB : Hid (∀ g, w.heap.size ≤ g → 0 < (1 :: r).length → v.ownBlock ≠ some g) := VB
  have G1 := grownBy_below W1 (some R)
  clear BA BB W1 h
  rw [recR_one hb]
  have OP : Hid (∀ v w, IS (1 :: r) R v (some 1) w → Calls Try.prog 96 #[.pointer (some ⟨R, 0, none⟩)] w fun e w' => e = .returned (opV (opR (1 :: r) (some 1)).1) ∧ IS (1 :: r) R v (opR (1 :: r) (some 1)).2 w' ∧ w.grownBy w' (some R)) := fun v w h => inOp_at (1 :: r) hb hl R v (some 1) w h
  generalize opR (1 :: r) (some 1) = oo at *
  obtain ⟨⟨f0, f1', f2', f3, f4, f5, f6⟩, so⟩ := oo
  unfold opV at OP
  simp only at OP ⊢
  obtain ⟨gv, ov, cv, ev, vlt, vc⟩ := RdB.first I1.rs.rd
  have c0 := I1.rs.c0
  have f1 := I1.rs.fz 1
  have f2 := I1.rs.fz 2
  have VG : Hid (0 < (1 :: r).length → (Value.slice (some ⟨gv, ov, none⟩) (r.length + 1) cv).ownBlock = some gv) := fun _ => rfl
  subst ev
  have nX : gv ≠ w.heap.size + 1 := fun e => VB.out gv (by omega) (by simp) rfl
  have nD : gv ≠ w.heap.size := fun e => VB.out gv (by omega) (by simp) rfl
  have nR : gv ≠ R := fun e => I1.rs.ap (by simp) (by rw [e]; rfl)
  obtain ⟨L, hL⟩ : ∃ L, r.length + 1 = L := ⟨_, rfl⟩
  have e0 : (((L : Nat) : Int) == 0) = false := by rw [← hL]; simp; omega
  have hL0 : 0 < L := by omega
  obtain ⟨p1, cp1, _⟩ := I1.rs.c1
  have cp2 := I1.rs.c2
  rw [show (some (0 : Nat)).isNone = false from rfl] at cp2
  have gx := setCell_grown ((w.alloc (.cells #[.int .i64 0, .int .i64 0, .int .i64 0, .int .i64 0, .int .i64 0, .int .i64 0, .int .i64 0, .string ⟨#[]⟩, .slice none 0 0] 26)).alloc (.cells #[.int .i64 0, .int .i64 0, .int .i64 0, .int .i64 0, .int .i64 0, .int .i64 0, .int .i64 0, .string ⟨#[]⟩, .slice none 0 0] 26)) (w.heap.size + 1) 0 (.int .i64 1)
  have I2 := I1.other gx (by omega) (VB.out _ (by omega))
  have X2 : Blk (w.heap.size + 1) 26 [.int .i64 1, .int .i64 0, .int .i64 0, .int .i64 0, .int .i64 0, .int .i64 0, .int .i64 0, .string ⟨#[]⟩, .slice none 0 0] (((w.alloc (.cells #[.int .i64 0, .int .i64 0, .int .i64 0, .int .i64 0, .int .i64 0, .int .i64 0, .int .i64 0, .string ⟨#[]⟩, .slice none 0 0] 26)).alloc (.cells #[.int .i64 0, .int .i64 0, .int .i64 0, .int .i64 0, .int .i64 0, .int .i64 0, .int .i64 0, .string ⟨#[]⟩, .slice none 0 0] 26)).setCell ⟨w.heap.size + 1, 0, none⟩ (.int .i64 1)) := Blk.set (i := 0) X1 (.int .i64 1)
  have D2 := D1.grown gx (by omega)
  have G2 := grown_more G1 gx (by omega)
  have I3 := I2.move (n := 1) (by simp)
  have gr := setCell_grown (((w.alloc (.cells #[.int .i64 0, .int .i64 0, .int .i64 0, .int .i64 0, .int .i64 0, .int .i64 0, .int .i64 0, .string ⟨#[]⟩, .slice none 0 0] 26)).alloc (.cells #[.int .i64 0, .int .i64 0, .int .i64 0, .int .i64 0, .int .i64 0, .int .i64 0, .int .i64 0, .string ⟨#[]⟩, .slice none 0 0] 26)).setCell ⟨w.heap.size + 1, 0, none⟩ (.int .i64 1)) R 1 (.int .i64 ((1 : Nat) : Int))
  have X3 := X2.grown gr (by omega)
  have D3 := D2.grown gr (by omega)
  have G3 := grownBy_trans G2 gr
  have lx0 := X1.cell 0 _ rfl
  have lg0 := X1.fz 0
  have I3 : Hid (IS _ _ _ _ _) := I3
  rw [hL] at c0 I3
  have VB' : Hid (∀ g, w.heap.size ≤ g → 0 < (1 :: r).length → (Value.slice (some ⟨gv, ov, none⟩) L cv).ownBlock ≠ some g) := hL ▸ VB
  rw [hL]
  clear I1 I2 X1 X2 D1 D2 G1 G2 gx gr VB VG hL
  go_enter Try.func70, Try.ntmps70
  go_upto_region 2 with fail
  obtain ⟨W1, hW⟩ : ∃ W1, (w.alloc (.cells #[.int .i64 0, .int .i64 0, .int .i64 0, .int .i64 0, .int .i64 0, .int .i64 0, .int .i64 0, .string ⟨#[]⟩, .slice none 0 0] 26)).alloc (.cells #[.int .i64 0, .int .i64 0, .int .i64 0, .int .i64 0, .int .i64 0, .int .i64 0, .int .i64 0, .string ⟨#[]⟩, .slice none 0 0] 26) = W1 := ⟨_, rfl⟩
  obtain ⟨Q, hQ0⟩ : ∃ Q, w.heap.size = Q := ⟨_, rfl⟩
  have hQ : Hid (w.heap.size = Q) := hQ0
  rw [hW] at c0 f1 f2 vlt vc cp1 cp2 I3 D3 X3 G3 lx0 lg0 ⊢
  rw [hQ0] at I3 X3 D3 G3 lx0 lg0 nX nD hR ⊢
  clear hW
  rw [hQ0] at VB'
  clear hQ0
  clear hb hl
  go_upto_region 7 with fail
  generalize (W1.setCell ⟨Q + 1, 0, none⟩ (.int .i64 1)).setCell ⟨R, 1, none⟩ (.int .i64 ((1 : Nat) : Int)) = W3 at *
  have lk0 := X3.cell 0 _ rfl
  go_wp2_with fail
  refine (OP.out _ _ I3.out).mono ?_
  rintro e W4 ⟨rfl, i4, g4⟩
  have X4 := X3.grown g4 (by omega)
  have D4 := D3.grown g4 (by omega)
  have G4 := grownBy_trans G3 g4
  obtain ⟨X5, g5⟩ := Blk.mid X4 (.int .i64 f0) (.int .i64 f1') (.int .i64 f2') (.int .i64 f3) (.int .i64 f4) (.int .i64 f5) (.string f6)
  have D5 := D4.grown g5 (by omega)
  have G5 := grown_more G4 g5 (by have := hQ.out; omega)
  have I5 := i4.other g5 (by omega) (VB'.out _ (by omega))
  have lm1 := X4.cell 1 _ rfl
  have ln1 := X4.fz 1
  have lm2 := X4.cell 2 _ rfl
  have ln2 := X4.fz 2
  have lm3 := X4.cell 3 _ rfl
  have ln3 := X4.fz 3
  have lm4 := X4.cell 4 _ rfl
  have ln4 := X4.fz 4
  have lm5 := X4.cell 5 _ rfl
  have ln5 := X4.fz 5
  have lm6 := X4.cell 6 _ rfl
  have ln6 := X4.fz 6
  have lm7 := X4.cell 7 _ rfl
  have ln7 := X4.fz 7
  clear OP I3 X3 D3 G3 g4 i4 X4 D4 G4 g5 lk0 lx0 lg0 cp1 cp2 c0 f1 f2 vlt vc
  go_upto_region 10 with fail
  generalize (((((((W4).setCell ⟨Q + 1, 1, none⟩ (.int .i64 f0)).setCell ⟨Q + 1, 2, none⟩ (.int .i64 f1')).setCell ⟨Q + 1, 3, none⟩ (.int .i64 f2')).setCell ⟨Q + 1, 4, none⟩ (.int .i64 f3)).setCell ⟨Q + 1, 5, none⟩ (.int .i64 f4)).setCell ⟨Q + 1, 6, none⟩ (.int .i64 f5)).setCell ⟨Q + 1, 7, none⟩ (.string f6) = W5 at *
  clear lm1 ln1 lm2 ln2 lm3 ln3 lm4 ln4 lm5 ln5 lm6 ln6 lm7 ln7
  have lx0 := X5.cell 0 _ rfl
  have ld0 := D5.cell 0 _ rfl
  have lf0 := D5.fz 0
  have lx1 := X5.cell 1 _ rfl
  have ld1 := D5.cell 1 _ rfl
  have lf1 := D5.fz 1
  have lx2 := X5.cell 2 _ rfl
  have ld2 := D5.cell 2 _ rfl
  have lf2 := D5.fz 2
  have lx3 := X5.cell 3 _ rfl
  have ld3 := D5.cell 3 _ rfl
  have lf3 := D5.fz 3
  have lx4 := X5.cell 4 _ rfl
  have ld4 := D5.cell 4 _ rfl
  have lf4 := D5.fz 4
  have lx5 := X5.cell 5 _ rfl
  have ld5 := D5.cell 5 _ rfl
  have lf5 := D5.fz 5
  have lx6 := X5.cell 6 _ rfl
  have ld6 := D5.cell 6 _ rfl
  have lf6 := D5.fz 6
  have lx7 := X5.cell 7 _ rfl
  have ld7 := D5.cell 7 _ rfl
  have lf7 := D5.fz 7
  have lx8 := X5.cell 8 _ rfl
  have ld8 := D5.cell 8 _ rfl
  have lf8 := D5.fz 8
  obtain ⟨b9, g9⟩ := Blk.nine D5 (.int .i64 1) (.int .i64 f0) (.int .i64 f1') (.int .i64 f2') (.int .i64 f3) (.int .i64 f4) (.int .i64 f5) (.string f6) (.slice none 0 0)
  have B9 : Hid (Blk _ _ _ _) := b9
  have GF : Hid (World.grownBy _ _ _) := grown_more G5 g9 (Nat.le_of_eq hQ.out)
  have IF : Hid (IS _ _ _ _ _) := I5.other g9 (by omega) (VB'.out Q (Nat.le_refl _))
  clear b9 g9 I5 X5 D5 G5
  repeat (first | go_guarded | go_step)
  generalize (((((((((W5).setCell ⟨Q, 0, none⟩ (.int .i64 1)).setCell ⟨Q, 1, none⟩ (.int .i64 f0)).setCell ⟨Q, 2, none⟩ (.int .i64 f1')).setCell ⟨Q, 3, none⟩ (.int .i64 f2')).setCell ⟨Q, 4, none⟩ (.int .i64 f3)).setCell ⟨Q, 5, none⟩ (.int .i64 f4)).setCell ⟨Q, 6, none⟩ (.int .i64 f5)).setCell ⟨Q, 7, none⟩ (.string f6)).setCell ⟨Q, 8, none⟩ (.slice none 0 0) = V9 at *
  exact bodyPost_cell rfl rfl Q _ _ _ _ rfl B9.out Try.underlying26 rfl (by kernel_rfl) ⟨_, ⟨_, _, _, _, _, _, _⟩, _, [], rfl, RowV.nil _ _ _, IF.out, (fun _ => rfl), GF.out⟩
set_option maxRecDepth 20000 in
set_option maxHeartbeats 4000000 in
theorem inRec_no (c : Nat) (h1 : c ≠ 1) (h2 : c ≠ 2) (r : List Nat) (R : Nat) (v : Value) (w : World) (hb : Bytes (c :: r)) (_hl : (c :: r).length ≤ 1000000000000) (h : IS (c :: r) R v (some 0) w) : Calls Try.prog 70 #[.pointer (some ⟨R, 0, none⟩)] w (InRec (c :: r) R v w (recR (c :: r))) := by
  have BA := below_alloc w (.cells #[.int .i64 0, .int .i64 0, .int .i64 0, .int .i64 0, .int .i64 0, .int .i64 0, .int .i64 0, .string ⟨#[]⟩, .slice none 0 0] 26)
  have BB := below_alloc (w.alloc (.cells #[.int .i64 0, .int .i64 0, .int .i64 0, .int .i64 0, .int .i64 0, .int .i64 0, .int .i64 0, .string ⟨#[]⟩, .slice none 0 0] 26)) (.cells #[.int .i64 0, .int .i64 0, .int .i64 0, .int .i64 0, .int .i64 0, .int .i64 0, .int .i64 0, .string ⟨#[]⟩, .slice none 0 0] 26)
  have D1 := (Blk.new 26 [.int .i64 0, .int .i64 0, .int .i64 0, .int .i64 0, .int .i64 0, .int .i64 0, .int .i64 0, .string ⟨#[]⟩, .slice none 0 0] w).below BB
  have X1 := Blk.new 26 [.int .i64 0, .int .i64 0, .int .i64 0, .int .i64 0, .int .i64 0, .int .i64 0, .int .i64 0, .string ⟨#[]⟩, .slice none 0 0] (w.alloc (.cells #[.int .i64 0, .int .i64 0, .int .i64 0, .int .i64 0, .int .i64 0, .int .i64 0, .int .i64 0, .string ⟨#[]⟩, .slice none 0 0] 26))
  rw [show (w.alloc (.cells #[.int .i64 0, .int .i64 0, .int .i64 0, .int .i64 0, .int .i64 0, .int .i64 0, .int .i64 0, .string ⟨#[]⟩, .slice none 0 0] 26)).heap.size = w.heap.size + 1 by simp] at X1
  have W1 := below_trans BA BB
  have I1 := h.below W1
  have hR := h.rs.lt
  have VB : ∀ g, w.heap.size ≤ g → 0 < (c :: r).length → v.ownBlock ≠ some g := fun g hg h0 e => by have := Rd.block h.rs.rd (by rw [List.length_map]; exact h0) e; omega
  have VB : Hid (∀ g, w.heap.size ≤ g → 0 < (c :: r).length → v.ownBlock ≠ some g) := VB
  have G1 := grownBy_below W1 (some R)
  clear BA BB W1 h
  rw [recR_other hb h1 h2]
  have hc : c < 256 := hb c (by simp)
  have q1 : (((c : Nat) : Int) == 1) = false := by simp; omega
  have q2 : (((c : Nat) : Int) == 2) = false := by simp; omega
  obtain ⟨gv, ov, cv, ev, vlt, vc⟩ := RdB.first I1.rs.rd
  have c0 := I1.rs.c0
  have f1 := I1.rs.fz 1
  have f2 := I1.rs.fz 2
  have VG : Hid (0 < (c :: r).length → (Value.slice (some ⟨gv, ov, none⟩) (r.length + 1) cv).ownBlock = some gv) := fun _ => rfl
  subst ev
  have nX : gv ≠ w.heap.size + 1 := fun e => VB.out gv (by omega) (by simp) rfl
  have nD : gv ≠ w.heap.size := fun e => VB.out gv (by omega) (by simp) rfl
  have nR : gv ≠ R := fun e => I1.rs.ap (by simp) (by rw [e]; rfl)
  obtain ⟨L, hL⟩ : ∃ L, r.length + 1 = L := ⟨_, rfl⟩
  have e0 : (((L : Nat) : Int) == 0) = false := by rw [← hL]; simp; omega
  have hL0 : 0 < L := by omega
  obtain ⟨p1, cp1, _⟩ := I1.rs.c1
  have cp2 := I1.rs.c2
  rw [show (some (0 : Nat)).isNone = false from rfl] at cp2
  have gx := setCell_grown ((w.alloc (.cells #[.int .i64 0, .int .i64 0, .int .i64 0, .int .i64 0, .int .i64 0, .int .i64 0, .int .i64 0, .string ⟨#[]⟩, .slice none 0 0] 26)).alloc (.cells #[.int .i64 0, .int .i64 0, .int .i64 0, .int .i64 0, .int .i64 0, .int .i64 0, .int .i64 0, .string ⟨#[]⟩, .slice none 0 0] 26)) (w.heap.size + 1) 0 (.int .i64 (c : Int))
  have I2 := I1.other gx (by omega) (VB.out _ (by omega))
  have X2 : Blk (w.heap.size + 1) 26 [.int .i64 (c : Int), .int .i64 0, .int .i64 0, .int .i64 0, .int .i64 0, .int .i64 0, .int .i64 0, .string ⟨#[]⟩, .slice none 0 0] (((w.alloc (.cells #[.int .i64 0, .int .i64 0, .int .i64 0, .int .i64 0, .int .i64 0, .int .i64 0, .int .i64 0, .string ⟨#[]⟩, .slice none 0 0] 26)).alloc (.cells #[.int .i64 0, .int .i64 0, .int .i64 0, .int .i64 0, .int .i64 0, .int .i64 0, .int .i64 0, .string ⟨#[]⟩, .slice none 0 0] 26)).setCell ⟨w.heap.size + 1, 0, none⟩ (.int .i64 (c : Int))) := Blk.set (i := 0) X1 (.int .i64 (c : Int))
  have D2 := D1.grown gx (by omega)
  have G2 := grown_more G1 gx (by omega)
  have I3 := I2.move (n := 1) (by simp)
  have gr := setCell_grown (((w.alloc (.cells #[.int .i64 0, .int .i64 0, .int .i64 0, .int .i64 0, .int .i64 0, .int .i64 0, .int .i64 0, .string ⟨#[]⟩, .slice none 0 0] 26)).alloc (.cells #[.int .i64 0, .int .i64 0, .int .i64 0, .int .i64 0, .int .i64 0, .int .i64 0, .int .i64 0, .string ⟨#[]⟩, .slice none 0 0] 26)).setCell ⟨w.heap.size + 1, 0, none⟩ (.int .i64 (c : Int))) R 1 (.int .i64 ((1 : Nat) : Int))
  have X3 := X2.grown gr (by omega)
  have D3 := D2.grown gr (by omega)
  have G3 := grownBy_trans G2 gr
  have lx0 := X1.cell 0 _ rfl
  have lg0 := X1.fz 0
  have I3 : Hid (IS _ _ _ _ _) := I3
  rw [hL] at c0 I3
  have VB' : Hid (∀ g, w.heap.size ≤ g → 0 < (c :: r).length → (Value.slice (some ⟨gv, ov, none⟩) L cv).ownBlock ≠ some g) := hL ▸ VB
  rw [hL]
  clear I1 I2 X1 X2 D1 D2 G1 G2 gx gr VB VG hL
  go_enter Try.func70, Try.ntmps70
  go_upto_region 2 with fail
  obtain ⟨W1, hW⟩ : ∃ W1, (w.alloc (.cells #[.int .i64 0, .int .i64 0, .int .i64 0, .int .i64 0, .int .i64 0, .int .i64 0, .int .i64 0, .string ⟨#[]⟩, .slice none 0 0] 26)).alloc (.cells #[.int .i64 0, .int .i64 0, .int .i64 0, .int .i64 0, .int .i64 0, .int .i64 0, .int .i64 0, .string ⟨#[]⟩, .slice none 0 0] 26) = W1 := ⟨_, rfl⟩
  obtain ⟨Q, hQ0⟩ : ∃ Q, w.heap.size = Q := ⟨_, rfl⟩
  have hQ : Hid (w.heap.size = Q) := hQ0
  rw [hW] at c0 f1 f2 vlt vc cp1 cp2 I3 D3 X3 G3 lx0 lg0 ⊢
  rw [hQ0] at I3 X3 D3 G3 lx0 lg0 nX nD hR ⊢
  clear hW
  rw [hQ0] at VB'
  clear hQ0
  have I4 := I3.out.bad
  have gb := setCell_grown ((W1.setCell ⟨Q + 1, 0, none⟩ (.int .i64 (c : Int))).setCell ⟨R, 1, none⟩ (.int .i64 ((1 : Nat) : Int))) R 2 (.bool true)
  have X4 := X3.grown gb (by omega)
  have D4 := D3.grown gb (by omega)
  have G4 := grownBy_trans G3 gb
  have cb2 := I3.out.rs.c2
  have fb2 := I3.out.rs.fz 2
  have lk0 := X3.cell 0 _ rfl
  clear hb I3 X3 D3 G3 gb h1 h2
  go_upto_region 7 with fail
  generalize (W1.setCell ⟨Q + 1, 0, none⟩ (.int .i64 (c : Int))).setCell ⟨R, 1, none⟩ (.int .i64 ((1 : Nat) : Int)) = W3 at *
  go_upto_region 20 with fail
  generalize W3.setCell ⟨R, 2, none⟩ (.bool true) = W4 at *
  clear lk0 cb2 fb2 lx0 lg0 cp1 cp2 c0 f1 f2 vlt vc
  have lx0 := X4.cell 0 _ rfl
  have ld0 := D4.cell 0 _ rfl
  have lf0 := D4.fz 0
  have lx1 := X4.cell 1 _ rfl
  have ld1 := D4.cell 1 _ rfl
  have lf1 := D4.fz 1
  have lx2 := X4.cell 2 _ rfl
  have ld2 := D4.cell 2 _ rfl
  have lf2 := D4.fz 2
  have lx3 := X4.cell 3 _ rfl
  have ld3 := D4.cell 3 _ rfl
  have lf3 := D4.fz 3
  have lx4 := X4.cell 4 _ rfl
  have ld4 := D4.cell 4 _ rfl
  have lf4 := D4.fz 4
  have lx5 := X4.cell 5 _ rfl
  have ld5 := D4.cell 5 _ rfl
  have lf5 := D4.fz 5
  have lx6 := X4.cell 6 _ rfl
  have ld6 := D4.cell 6 _ rfl
  have lf6 := D4.fz 6
  have lx7 := X4.cell 7 _ rfl
  have ld7 := D4.cell 7 _ rfl
  have lf7 := D4.fz 7
  have lx8 := X4.cell 8 _ rfl
  have ld8 := D4.cell 8 _ rfl
  have lf8 := D4.fz 8
  obtain ⟨b9, g9⟩ := Blk.nine D4 (.int .i64 (c : Int)) (.int .i64 0) (.int .i64 0) (.int .i64 0) (.int .i64 0) (.int .i64 0) (.int .i64 0) (.string ⟨#[]⟩) (.slice none 0 0)
  have B9 : Hid (Blk _ _ _ _) := b9
  have GF : Hid (World.grownBy _ _ _) := grown_more G4 g9 (Nat.le_of_eq hQ.out)
  have IF : Hid (IS _ _ _ _ _) := I4.other g9 (by omega) (VB'.out Q (Nat.le_refl _))
  clear b9 g9 I4 X4 D4 G4
  repeat (first | go_guarded | go_step)
  generalize (((((((((W4).setCell ⟨Q, 0, none⟩ (.int .i64 (c : Int))).setCell ⟨Q, 1, none⟩ (.int .i64 0)).setCell ⟨Q, 2, none⟩ (.int .i64 0)).setCell ⟨Q, 3, none⟩ (.int .i64 0)).setCell ⟨Q, 4, none⟩ (.int .i64 0)).setCell ⟨Q, 5, none⟩ (.int .i64 0)).setCell ⟨Q, 6, none⟩ (.int .i64 0)).setCell ⟨Q, 7, none⟩ (.string ⟨#[]⟩)).setCell ⟨Q, 8, none⟩ (.slice none 0 0) = V9 at *
  exact bodyPost_cell rfl rfl Q _ _ _ _ rfl B9.out Try.underlying26 rfl (by kernel_rfl) ⟨_, ⟨_, _, _, _, _, _, _⟩, _, [], rfl, RowV.nil _ _ _, IF.out, (fun h => by cases h), GF.out⟩

theorem IS.past {bs : List Nat} {R : Nat} {v : Value} {st : Option Nat} {w w' : World} {row : Option Nat} (h : IS bs R v st w) (hb : w.grownBy w' row) (hr : ∀ g, row = some g → g ≠ R ∧ (0 < bs.length → v.ownBlock ≠ some g)) : IS bs R v st w' := by
  cases row with
  | none => exact h.below (below_none hb)
  | some g => exact h.other hb (hr g rfl).1 (hr g rfl).2
theorem Blk.past {G : Nat} {ty : TypeId} {cs : List Value} {w w' : World} {row : Option Nat} (h : Blk G ty cs w) (hb : w.grownBy w' row) (hr : ∀ g, row = some g → g ≠ G) : Blk G ty cs w' := by
  cases row with
  | none => exact h.below (below_none hb)
  | some g => exact h.grown hb (hr g rfl)
theorem grown_rowP {a b c : World} {R : Option Nat} {row : Option Nat} (h : a.grownBy b R) (k : b.grownBy c row) (hr : ∀ g, row = some g → a.heap.size ≤ g) : a.grownBy c R :=
  ⟨k.os.trans h.os, k.tape.trans h.tape, k.output.trans h.output, Nat.le_trans h.size k.size, fun i hi hn => (k.block i (Nat.lt_of_lt_of_le hi h.size) (fun e => by have := hr i e.symm; omega)).trans (h.block i hi hn)⟩
/-- How far a list has been read. -/
def LSpec (bs : List Nat) (m : Nat) (st : Option Nat) (ys : List Int) : Prop :=
  (st = none → (tkL bs (some 1)).2 = none) ∧ ∀ p, st = some p → listI bs 1 = (elemsI bs m p).map fun r => (ys ++ r.1, r.2)
theorem LSpec.start (bs : List Nat) : LSpec bs (tkC bs (some 1)).1 (tkC bs (some 1)).2 [] := by
  unfold LSpec tkC tkL listI
  simp only
  cases lenR bs ((1 : Nat) : Int) with
  | none => simp
  | some q =>
    obtain ⟨n, f⟩ := q
    refine ⟨fun h => (by cases h), fun p hp => ?_⟩
    cases hp
    simp only [List.nil_append]
    cases elemsI bs n f <;> rfl
theorem LSpec.step {bs : List Nat} {m p : Nat} {ys : List Int} (h : LSpec bs (m + 1) (some p) ys) : LSpec bs m (tkI bs (some p)).2 (ys ++ [(tkI bs (some p)).1]) := by
  have h2 := h.2 p rfl
  unfold elemsI at h2
  unfold LSpec tkI
  simp only
  cases hr : Go.Proofs.Ytbghoogkmdnmpaa.rd bs (p : Int) with
  | none =>
    rw [hr] at h2
    refine ⟨fun _ => ?_, fun q hq => by cases hq⟩
    unfold tkL; simp only; rw [h2]; rfl
  | some q =>
    obtain ⟨u, q⟩ := q
    rw [hr] at h2
    refine ⟨fun e => (by cases e), fun x hx => ?_⟩
    cases hx
    rw [h2]
    simp only [Option.map_map, List.append_assoc]
    congr 1
theorem LSpec.stop {bs : List Nat} {m : Nat} {st : Option Nat} {ys : List Int} (h : LSpec bs m st ys) (hm : st = none ∨ m = 0) : st = (tkL bs (some 1)).2 ∧ ((tkL bs (some 1)).2.isSome = true → ys = (tkL bs (some 1)).1) := by
  cases st with
  | none => have := h.1 rfl; rw [this]; exact ⟨rfl, fun e => by cases e⟩
  | some p =>
    rcases hm with hm | hm
    · cases hm
    · subst hm
      have := h.2 p rfl
      simp only [elemsI, Option.map_some, List.append_nil] at this
      unfold tkL; simp only; rw [this]; exact ⟨rfl, fun _ => rfl⟩

set_option maxRecDepth 20000 in
set_option maxHeartbeats 4000000 in
theorem inRec_2 (r : List Nat) (R : Nat) (v : Value) (w : World) (hb : Bytes (2 :: r)) (hl : (2 :: r).length ≤ 1000000000000) (h : IS (2 :: r) R v (some 0) w) : Calls Try.prog 70 #[.pointer (some ⟨R, 0, none⟩)] w (InRec (2 :: r) R v w (recR (2 :: r))) := by
  have BA := below_alloc w (.cells #[.int .i64 0, .int .i64 0, .int .i64 0, .int .i64 0, .int .i64 0, .int .i64 0, .int .i64 0, .string ⟨#[]⟩, .slice none 0 0] 26)
  have BB := below_alloc (w.alloc (.cells #[.int .i64 0, .int .i64 0, .int .i64 0, .int .i64 0, .int .i64 0, .int .i64 0, .int .i64 0, .string ⟨#[]⟩, .slice none 0 0] 26)) (.cells #[.int .i64 0, .int .i64 0, .int .i64 0, .int .i64 0, .int .i64 0, .int .i64 0, .int .i64 0, .string ⟨#[]⟩, .slice none 0 0] 26)
  have D1 := (Blk.new 26 [.int .i64 0, .int .i64 0, .int .i64 0, .int .i64 0, .int .i64 0, .int .i64 0, .int .i64 0, .string ⟨#[]⟩, .slice none 0 0] w).below BB
  have X1 := Blk.new 26 [.int .i64 0, .int .i64 0, .int .i64 0, .int .i64 0, .int .i64 0, .int .i64 0, .int .i64 0, .string ⟨#[]⟩, .slice none 0 0] (w.alloc (.cells #[.int .i64 0, .int .i64 0, .int .i64 0, .int .i64 0, .int .i64 0, .int .i64 0, .int .i64 0, .string ⟨#[]⟩, .slice none 0 0] 26))
  rw [show (w.alloc (.cells #[.int .i64 0, .int .i64 0, .int .i64 0, .int .i64 0, .int .i64 0, .int .i64 0, .int .i64 0, .string ⟨#[]⟩, .slice none 0 0] 26)).heap.size = w.heap.size + 1 by simp] at X1
  have W1 := below_trans BA BB
  have I1 := h.below W1
  have hR := h.rs.lt
  have VB : ∀ g, w.heap.size ≤ g → 0 < (2 :: r).length → v.ownBlock ≠ some g := fun g hg h0 e => by have := Rd.block h.rs.rd (by rw [List.length_map]; exact h0) e; omega
  have VB : Hid (∀ g, w.heap.size ≤ g → 0 < (2 :: r).length → v.ownBlock ≠ some g) := VB
  have G1 := grownBy_below W1 (some R)
  clear BA BB W1 h
  rw [recR_two hb]
  have CN : Hid (∀ v w, IS (2 :: r) R v (some 1) w → Calls Try.prog 97 #[.pointer (some ⟨R, 0, none⟩)] w fun e w' => e = .returned (.int .i64 ((tkC (2 :: r) (some 1)).1 : Int)) ∧ IS (2 :: r) R v (tkC (2 :: r) (some 1)).2 w' ∧ w.grownBy w' (some R)) := fun v w h => inCount_at (2 :: r) hb hl R v (some 1) w h
  have NN : Hid (∀ v st w, IS (2 :: r) R v st w → Calls Try.prog 98 #[.pointer (some ⟨R, 0, none⟩)] w fun e w' => e = .returned (.int .i64 (tkI (2 :: r) st).1) ∧ IS (2 :: r) R v (tkI (2 :: r) st).2 w' ∧ w.grownBy w' (some R)) := fun v st w h => inN_at (2 :: r) hb hl R v st w h
  have LS : Hid (LSpec (2 :: r) (tkC (2 :: r) (some 1)).1 (tkC (2 :: r) (some 1)).2 []) := LSpec.start _
  have hn : (tkC (2 :: r) (some 1)).1 ≤ 1000000000000 := by
    unfold tkC
    simp only
    cases hr : lenR (2 :: r) ((1 : Nat) : Int) with
    | none => simp
    | some q => obtain ⟨u, f⟩ := q; have := (lenR_le hb hr).2.2.2; simp only; omega
  obtain ⟨i0, hi, hz0, hz1, hz2⟩ := info_parts infoN
  obtain ⟨gv, ov, cv, ev, vlt, vc⟩ := RdB.first I1.rs.rd
  have c0 := I1.rs.c0
  have f1 := I1.rs.fz 1
  have f2 := I1.rs.fz 2
  have VG : Hid (0 < (2 :: r).length → (Value.slice (some ⟨gv, ov, none⟩) (r.length + 1) cv).ownBlock = some gv) := fun _ => rfl
  subst ev
  have nX : gv ≠ w.heap.size + 1 := fun e => VB.out gv (by omega) (by simp) rfl
  have nD : gv ≠ w.heap.size := fun e => VB.out gv (by omega) (by simp) rfl
  have nR : gv ≠ R := fun e => I1.rs.ap (by simp) (by rw [e]; rfl)
  obtain ⟨L, hL⟩ : ∃ L, r.length + 1 = L := ⟨_, rfl⟩
  have e0 : (((L : Nat) : Int) == 0) = false := by rw [← hL]; simp; omega
  have hL0 : 0 < L := by omega
  obtain ⟨p1, cp1, _⟩ := I1.rs.c1
  have cp2 := I1.rs.c2
  rw [show (some (0 : Nat)).isNone = false from rfl] at cp2
  have gx := setCell_grown ((w.alloc (.cells #[.int .i64 0, .int .i64 0, .int .i64 0, .int .i64 0, .int .i64 0, .int .i64 0, .int .i64 0, .string ⟨#[]⟩, .slice none 0 0] 26)).alloc (.cells #[.int .i64 0, .int .i64 0, .int .i64 0, .int .i64 0, .int .i64 0, .int .i64 0, .int .i64 0, .string ⟨#[]⟩, .slice none 0 0] 26)) (w.heap.size + 1) 0 (.int .i64 2)
  have I2 := I1.other gx (by omega) (VB.out _ (by omega))
  have X2 : Blk (w.heap.size + 1) 26 [.int .i64 2, .int .i64 0, .int .i64 0, .int .i64 0, .int .i64 0, .int .i64 0, .int .i64 0, .string ⟨#[]⟩, .slice none 0 0] (((w.alloc (.cells #[.int .i64 0, .int .i64 0, .int .i64 0, .int .i64 0, .int .i64 0, .int .i64 0, .int .i64 0, .string ⟨#[]⟩, .slice none 0 0] 26)).alloc (.cells #[.int .i64 0, .int .i64 0, .int .i64 0, .int .i64 0, .int .i64 0, .int .i64 0, .int .i64 0, .string ⟨#[]⟩, .slice none 0 0] 26)).setCell ⟨w.heap.size + 1, 0, none⟩ (.int .i64 2)) := Blk.set (i := 0) X1 (.int .i64 2)
  have D2 := D1.grown gx (by omega)
  have G2 := grown_more G1 gx (by omega)
  have I3 := I2.move (n := 1) (by simp)
  have gr := setCell_grown (((w.alloc (.cells #[.int .i64 0, .int .i64 0, .int .i64 0, .int .i64 0, .int .i64 0, .int .i64 0, .int .i64 0, .string ⟨#[]⟩, .slice none 0 0] 26)).alloc (.cells #[.int .i64 0, .int .i64 0, .int .i64 0, .int .i64 0, .int .i64 0, .int .i64 0, .int .i64 0, .string ⟨#[]⟩, .slice none 0 0] 26)).setCell ⟨w.heap.size + 1, 0, none⟩ (.int .i64 2)) R 1 (.int .i64 ((1 : Nat) : Int))
  have X3 := X2.grown gr (by omega)
  have D3 := D2.grown gr (by omega)
  have G3 := grownBy_trans G2 gr
  have lx0 := X1.cell 0 _ rfl
  have lg0 := X1.fz 0
  have I3 : Hid (IS _ _ _ _ _) := I3
  rw [hL] at c0 I3
  have VB' : Hid (∀ g, w.heap.size ≤ g → 0 < (2 :: r).length → (Value.slice (some ⟨gv, ov, none⟩) L cv).ownBlock ≠ some g) := hL ▸ VB
  rw [hL]
  clear I1 I2 X1 X2 D1 D2 G1 G2 gx gr VB VG hL
  go_enter Try.func70, Try.ntmps70
  go_upto_region 2 with fail
  obtain ⟨W1, hW⟩ : ∃ W1, (w.alloc (.cells #[.int .i64 0, .int .i64 0, .int .i64 0, .int .i64 0, .int .i64 0, .int .i64 0, .int .i64 0, .string ⟨#[]⟩, .slice none 0 0] 26)).alloc (.cells #[.int .i64 0, .int .i64 0, .int .i64 0, .int .i64 0, .int .i64 0, .int .i64 0, .int .i64 0, .string ⟨#[]⟩, .slice none 0 0] 26) = W1 := ⟨_, rfl⟩
  obtain ⟨Q, hQ0⟩ : ∃ Q, w.heap.size = Q := ⟨_, rfl⟩
  have hQ : Hid (w.heap.size = Q) := hQ0
  rw [hW] at c0 f1 f2 vlt vc cp1 cp2 I3 D3 X3 G3 lx0 lg0 ⊢
  rw [hQ0] at I3 X3 D3 G3 lx0 lg0 nX nD hR ⊢
  clear hW
  rw [hQ0] at VB'
  clear hQ0
  clear hb hl
  generalize 2 :: r = bs at *
  generalize (tkC bs (some 1)).1 = n at *
  generalize (tkC bs (some 1)).2 = st0 at *
  generalize hgt : tkL bs (some 1) = tl at *
  have LP : Hid (∀ {m : Nat} {st : Option Nat} {ys : List Int}, LSpec bs m st ys → (st = none ∨ m = 0) → st = tl.2 ∧ (tl.2.isSome = true → ys = tl.1)) := fun h1 h2 => hgt ▸ LSpec.stop h1 h2
  clear hgt
  go_upto_region 7 with fail
  generalize (W1.setCell ⟨Q + 1, 0, none⟩ (.int .i64 2)).setCell ⟨R, 1, none⟩ (.int .i64 ((1 : Nat) : Int)) = W3 at *
  have lk0 := X3.cell 0 _ rfl
  go_wp2_with fail
  refine (CN.out _ _ I3.out).mono ?_
  rintro e W4 ⟨rfl, i4, g4⟩
  have X4 := X3.grown g4 (by omega)
  have D4 := D3.grown g4 (by omega)
  have G4 := grownBy_trans G3 g4
  have sX := X4.lt
  clear CN I3 X3 D3 G3 g4 lk0 lx0 lg0 cp1 cp2 c0 f1 f2 vlt vc
  go_wp2_with fail
  go_loopw [5] (fun vk wr => ∃ (k : Nat) (st : Option Nat) (al : Option Addr) (nl cl : Nat) (ys : List Int), vk = .int .i64 (k : Int) ∧ k ≤ n ∧ ys.length = k ∧ Hid (LSpec bs (n - k) st ys) ∧ IS bs R (.slice (some ⟨gv, ov, none⟩) L cv) st wr ∧ Blk (Q + 1) 26 [.int .i64 2, .int .i64 0, .int .i64 0, .int .i64 0, .int .i64 0, .int .i64 0, .int .i64 0, .string ⟨#[]⟩, .slice al nl cl] wr ∧ Blk Q 26 [.int .i64 0, .int .i64 0, .int .i64 0, .int .i64 0, .int .i64 0, .int .i64 0, .int .i64 0, .string ⟨#[]⟩, .slice none 0 0] wr ∧ RowN (Q + 2) wr (.slice al nl cl) ys ∧ w.grownBy wr (some R)) (fun vk _ => n - (intOf vk).toNat)
  case atStart => exact ⟨0, st0, none, 0, 0, [], rfl, by omega, rfl, by simpa using LS, i4, X4, D4, RowV.nil _ _ _, G4⟩
  case round =>
    obtain ⟨k, st, al, nl, cl, ys, rfl, hk, hys, ls, ik, Xk, Dk, rk, Gk⟩ := hrel
    clear i4 X4 D4 G4 LS sX
    have sX := Xk.lt
    have cR := ik.rs.c2
    by_cases hlt : (k : Int) < (n : Int)
    · cases st with
      | some p =>
        rw [show (some p).isNone = false from rfl] at cR
        obtain ⟨m, hm⟩ : ∃ m, n - k = m + 1 := ⟨n - k - 1, by omega⟩
        have ls2 : Hid (LSpec bs (n - (k + 1)) (tkI bs (some p)).2 (ys ++ [(tkI bs (some p)).1])) := by have := LSpec.step (hm ▸ ls.out); rw [show n - (k + 1) = m by omega]; exact this
        have N1 : Hid (∀ w, IS bs R (.slice (some ⟨gv, ov, none⟩) L cv) (some p) w → Calls Try.prog 98 #[.pointer (some ⟨R, 0, none⟩)] w fun e w' => e = .returned (.int .i64 (tkI bs (some p)).1) ∧ IS bs R (.slice (some ⟨gv, ov, none⟩) L cv) (tkI bs (some p)).2 w' ∧ w.grownBy w' (some R)) := fun w h => NN.out _ _ w h
        generalize tkI bs (some p) = tt at *
        obtain ⟨x, st'⟩ := tt
        simp only at N1 ls2
        go_wp2_with fail
        refine (N1.out _ ik).mono ?_
        rintro e w2 ⟨rfl, i2, g2⟩
        have X2 := Xk.grown g2 (by omega)
        have D2 := Dk.grown g2 (by omega)
        have r2 : RowN (Q + 2) w2 (.slice al nl cl) ys := RowV.kept rk g2 (fun g hg e => by have := rk.block_ge hg; injection e with e; omega)
        have G2 := grownBy_trans Gk g2
        have s2 : Q + 2 ≤ w2.heap.size := X2.lt
        have l1 : (ys.map (Value.int .i64)).length + 1 ≤ maxLen := by rw [List.length_map]; unfold maxLen; omega
        have l2 : ((ys.map (Value.int .i64)).length + 1) * 8 ≤ 140737488355328 := by rw [List.length_map]; omega
        have RB : Hid (∀ g, (Value.slice al nl cl).ownBlock = some g → Q + 2 ≤ g) := fun g hg => r2.block_ge hg
        have lx8 := X2.cell 8 _ rfl
        have GV : Hid (∀ g, Q + 2 ≤ g → 0 < bs.length → (Value.slice (some ⟨gv, ov, none⟩) L cv).ownBlock ≠ some g) := fun g hg => VB'.out g (by omega)
        clear ik Xk Dk rk Gk g2 ls N1 NN cR
        go_wp2_with (
          at_builtin
          refine wpList_pushV rfl (.tmp 55) (.tmp 57) 24 rfl 3 i0 (.int .i64 0) 8 underN hi hz0 hz1 hz2 rfl (Q + 2) _ _ (.int .i64 x) rfl rfl r2 s2 rfl l1 l2 ?_
          intro v' w3 r3 g3
          obtain ⟨ab, cb, eb, _, _⟩ := r3.rd.len
          generalize (ys.map (Value.int .i64) ++ [Value.int .i64 x]).length = nb at eb
          subst eb
          have X3 := X2.past g3 (fun g hg => by have := RB.out g hg; omega)
          have D3 := D2.past g3 (fun g hg => by have := RB.out g hg; omega)
          have i3 := i2.past g3 (fun g hg => ⟨by have := RB.out g hg; omega, GV.out g (RB.out g hg)⟩)
          have G3 := grown_rowP G2 g3 (fun g hg => by have := RB.out g hg; have := hQ.out; omega)
          have ly8 := X3.cell 8 _ rfl
          have lz8 := X3.fz 8
          have r3' : RowN (Q + 2) w3 (.slice ab nb cb) (ys ++ [x]) := by simpa [RowN] using r3
          clear r3 g3 X2 D2 i2 G2 r2)
        have g4 := setCell_grown w3 (Q + 1) 8 (.slice ab nb cb)
        have X4 : Blk (Q + 1) 26 [.int .i64 2, .int .i64 0, .int .i64 0, .int .i64 0, .int .i64 0, .int .i64 0, .int .i64 0, .string ⟨#[]⟩, .slice ab nb cb] (w3.setCell ⟨Q + 1, 8, none⟩ (.slice ab nb cb)) := Blk.set (i := 8) X3 (.slice ab nb cb)
        have D4 := D3.grown g4 (by omega)
        have i4 := i3.other g4 (by omega) (VB'.out _ (by omega))
        have G4 := grown_more G3 g4 (by have := hQ.out; omega)
        have r4 : RowN (Q + 2) (w3.setCell ⟨Q + 1, 8, none⟩ (.slice ab nb cb)) (.slice ab nb cb) (ys ++ [x]) := RowV.kept r3' g4 (fun g hg e => by have := r3'.block_ge hg; injection e with e; omega)
        go_roundw
        case rel => exact ⟨k + 1, st', ab, nb, cb, ys ++ [x], by go_num, by omega, by simp [hys], ls2, i4, X4, D4, r4, G4⟩
        case measure => simp [intOf]; omega
      | none =>
        rw [show (none : Option Nat).isNone = true from rfl] at cR
        obtain ⟨hst, hfin⟩ := LP.out ls.out (.inl rfl)
        have HF : Hid (tl.2.isSome = true → ys = tl.1) := hfin
        have HS : Hid ((none : Option Nat) = tl.2) := hst
        have R2 : Hid (∀ g, (Value.slice al nl cl).ownBlock = some g → Q ≠ g) := fun g hg e => by have := rk.block_ge hg; omega
        clear LP NN hst hfin ls
        go_upto_region 18 with fail
        clear cR
        have lx0 := Xk.cell 0 _ rfl
        have ld0 := Dk.cell 0 _ rfl
        have lf0 := Dk.fz 0
        have lx1 := Xk.cell 1 _ rfl
        have ld1 := Dk.cell 1 _ rfl
        have lf1 := Dk.fz 1
        have lx2 := Xk.cell 2 _ rfl
        have ld2 := Dk.cell 2 _ rfl
        have lf2 := Dk.fz 2
        have lx3 := Xk.cell 3 _ rfl
        have ld3 := Dk.cell 3 _ rfl
        have lf3 := Dk.fz 3
        have lx4 := Xk.cell 4 _ rfl
        have ld4 := Dk.cell 4 _ rfl
        have lf4 := Dk.fz 4
        have lx5 := Xk.cell 5 _ rfl
        have ld5 := Dk.cell 5 _ rfl
        have lf5 := Dk.fz 5
        have lx6 := Xk.cell 6 _ rfl
        have ld6 := Dk.cell 6 _ rfl
        have lf6 := Dk.fz 6
        have lx7 := Xk.cell 7 _ rfl
        have ld7 := Dk.cell 7 _ rfl
        have lf7 := Dk.fz 7
        have lx8 := Xk.cell 8 _ rfl
        have ld8 := Dk.cell 8 _ rfl
        have lf8 := Dk.fz 8
        obtain ⟨b9, g9⟩ := Blk.nine Dk (.int .i64 2) (.int .i64 0) (.int .i64 0) (.int .i64 0) (.int .i64 0) (.int .i64 0) (.int .i64 0) (.string ⟨#[]⟩) (.slice al nl cl)
        have B9 : Hid (Blk _ _ _ _) := b9
        have GF : Hid (World.grownBy _ _ _) := grown_more Gk g9 (Nat.le_of_eq hQ.out)
        have IF : Hid (IS _ _ _ _ _) := ik.other g9 (by omega) (VB'.out Q (Nat.le_refl _))
        have RF : Hid (RowN w.heap.size _ _ _) := RowV.mono (RowV.kept rk g9 (fun g hg e => R2.out g hg (by injection e))) (by have := hQ.out; omega)
        clear b9 g9 ik Xk Dk Gk rk
        repeat (first | go_guarded | go_step)
        generalize (((((((((wr).setCell ⟨Q, 0, none⟩ (.int .i64 2)).setCell ⟨Q, 1, none⟩ (.int .i64 0)).setCell ⟨Q, 2, none⟩ (.int .i64 0)).setCell ⟨Q, 3, none⟩ (.int .i64 0)).setCell ⟨Q, 4, none⟩ (.int .i64 0)).setCell ⟨Q, 5, none⟩ (.int .i64 0)).setCell ⟨Q, 6, none⟩ (.int .i64 0)).setCell ⟨Q, 7, none⟩ (.string ⟨#[]⟩)).setCell ⟨Q, 8, none⟩ (.slice al nl cl) = V9 at *
        exact bodyPost_cell rfl rfl Q _ _ _ _ rfl B9.out Try.underlying26 rfl (by kernel_rfl) ⟨_, ⟨_, _, _, _, _, _, _⟩, _, _, rfl, RF.out, HS.out ▸ IF.out, (fun h => by rw [← HF.out h]; rfl), GF.out⟩
    · obtain ⟨bb, hbb⟩ : ∃ b, st.isNone = b := ⟨_, rfl⟩
      rw [hbb] at cR
      clear hbb
      obtain ⟨hst, hfin⟩ := LP.out ls.out (.inr (by omega))
      have HF : Hid (tl.2.isSome = true → ys = tl.1) := hfin
      have HS : Hid (st = tl.2) := hst
      have R2 : Hid (∀ g, (Value.slice al nl cl).ownBlock = some g → Q ≠ g) := fun g hg e => by have := rk.block_ge hg; omega
      clear LP NN hst hfin ls
      go_upto_region 18 with fail
      clear cR
      have lx0 := Xk.cell 0 _ rfl
      have ld0 := Dk.cell 0 _ rfl
      have lf0 := Dk.fz 0
      have lx1 := Xk.cell 1 _ rfl
      have ld1 := Dk.cell 1 _ rfl
      have lf1 := Dk.fz 1
      have lx2 := Xk.cell 2 _ rfl
      have ld2 := Dk.cell 2 _ rfl
      have lf2 := Dk.fz 2
      have lx3 := Xk.cell 3 _ rfl
      have ld3 := Dk.cell 3 _ rfl
      have lf3 := Dk.fz 3
      have lx4 := Xk.cell 4 _ rfl
      have ld4 := Dk.cell 4 _ rfl
      have lf4 := Dk.fz 4
      have lx5 := Xk.cell 5 _ rfl
      have ld5 := Dk.cell 5 _ rfl
      have lf5 := Dk.fz 5
      have lx6 := Xk.cell 6 _ rfl
      have ld6 := Dk.cell 6 _ rfl
      have lf6 := Dk.fz 6
      have lx7 := Xk.cell 7 _ rfl
      have ld7 := Dk.cell 7 _ rfl
      have lf7 := Dk.fz 7
      have lx8 := Xk.cell 8 _ rfl
      have ld8 := Dk.cell 8 _ rfl
      have lf8 := Dk.fz 8
      obtain ⟨b9, g9⟩ := Blk.nine Dk (.int .i64 2) (.int .i64 0) (.int .i64 0) (.int .i64 0) (.int .i64 0) (.int .i64 0) (.int .i64 0) (.string ⟨#[]⟩) (.slice al nl cl)
      have B9 : Hid (Blk _ _ _ _) := b9
      have GF : Hid (World.grownBy _ _ _) := grown_more Gk g9 (Nat.le_of_eq hQ.out)
      have IF : Hid (IS _ _ _ _ _) := ik.other g9 (by omega) (VB'.out Q (Nat.le_refl _))
      have RF : Hid (RowN w.heap.size _ _ _) := RowV.mono (RowV.kept rk g9 (fun g hg e => R2.out g hg (by injection e))) (by have := hQ.out; omega)
      clear b9 g9 ik Xk Dk Gk rk
      repeat (first | go_guarded | go_step)
      generalize (((((((((wr).setCell ⟨Q, 0, none⟩ (.int .i64 2)).setCell ⟨Q, 1, none⟩ (.int .i64 0)).setCell ⟨Q, 2, none⟩ (.int .i64 0)).setCell ⟨Q, 3, none⟩ (.int .i64 0)).setCell ⟨Q, 4, none⟩ (.int .i64 0)).setCell ⟨Q, 5, none⟩ (.int .i64 0)).setCell ⟨Q, 6, none⟩ (.int .i64 0)).setCell ⟨Q, 7, none⟩ (.string ⟨#[]⟩)).setCell ⟨Q, 8, none⟩ (.slice al nl cl) = V9 at *
      exact bodyPost_cell rfl rfl Q _ _ _ _ rfl B9.out Try.underlying26 rfl (by kernel_rfl) ⟨_, ⟨_, _, _, _, _, _, _⟩, _, _, rfl, RF.out, HS.out ▸ IF.out, (fun h => by rw [← HF.out h]; rfl), GF.out⟩

theorem inRecord_at (bs : List Nat) (R : Nat) (v : Value) (w : World) (hb : Bytes bs) (hl : bs.length ≤ 1000000000000) (h : IS bs R v (some 0) w) : Calls Try.prog 70 #[.pointer (some ⟨R, 0, none⟩)] w (InRec bs R v w (recR bs)) := by
  cases bs with
  | nil => exact inRec_nil R v w hb hl h
  | cons c r =>
    by_cases h1 : c = 1
    · subst h1; exact inRec_1 r R v w hb hl h
    · by_cases h2 : c = 2
      · subst h2; exact inRec_2 r R v w hb hl h
      · exact inRec_no c h1 h2 r R v w hb hl h
end Go.Proofs.Ytbghoogkmdnmpaa
