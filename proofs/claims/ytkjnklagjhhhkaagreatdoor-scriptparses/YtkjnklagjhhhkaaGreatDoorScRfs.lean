/-
  Ours: script.readFields.
-/
import Derived.Test.YtkjnklagjhhhkaaGreatDoorScFld
namespace Go.Proofs.YtkjnklagjhhhkaaGreatDoor
open Go.RowKit Go.Lib ScF

abbrev cm0 : Cm := ⟨0, 0, 0, 0, 0, 0, []⟩
abbrev cmK (k : Int) : Cm := ⟨k, 0, 0, 0, 0, 0, []⟩
abbrev fltV (e p : Int) : Value := .iface 48 (.agg #[.int .i64 e, .int .i64 p])
def RfAns (r : PR) (e : Ending) : Prop := match r with
  | .ok o => e = .returned (.tuple #[opV o, .nilIface])
  | .bad x p => e = .returned (.tuple #[opV cm0, fltV (x : Int) (p : Int)])
/-- The parts that readFields is handed, where they lie. -/
def HdF (A : Option Addr) (fs : List (List UInt8)) (P0 : Nat) (w : World) : Prop := ∀ i, i < fs.length → ∃ g f, A = some ⟨g, f, none⟩ ∧ g < w.heap.size ∧ w.cell? ⟨g, f + i * 2, none⟩ = some (.int .i64 ((P0 + plc fs i : Nat) : Int)) ∧ w.cell? ⟨g, f + i * 2 + 1, none⟩ = some (.string ⟨(fs.getD i []).toArray⟩)
theorem HdF.later {A : Option Addr} {fs : List (List UInt8)} {P0 : Nat} {w w' : World} (h : HdF A fs P0 w) (b : Below w.heap.size w w') : HdF A fs P0 w' := fun i hi => by
  obtain ⟨g, f, e, lt, c1, c2⟩ := h i hi
  exact ⟨g, f, e, Nat.lt_of_lt_of_le lt b.size, (b.cell (p := ⟨g, f + i * 2, none⟩) lt).trans c1, (b.cell (p := ⟨g, f + i * 2 + 1, none⟩) lt).trans c2⟩
theorem infoO0 : (Tryz.prog.info? 24).map (·.size) = some 7 := by kernel_rfl
theorem readF_step {sl : List Nat} {fs : List (List UInt8)} {i p : Nat} {o : Cm} {R : PR} (hl : sl.length = fs.length) (hi : i < sl.length) (h : readF (sl.drop i) (fs.drop i) p o = R) :
    (∀ o', layS o (sl.getD i 0) (fs.getD i []) = some o' → readF (sl.drop (i + 1)) (fs.drop (i + 1)) (p + (fs.getD i []).length + 1) o' = R) ∧ (layS o (sl.getD i 0) (fs.getD i []) = none → R = .bad 182 p) := by
  have e1 : sl.drop i = sl.getD i 0 :: sl.drop (i + 1) := by rw [List.drop_eq_getElem_cons hi, List.getD_eq_getElem?_getD, List.getElem?_eq_getElem hi]; rfl
  have e2 : fs.drop i = fs.getD i [] :: fs.drop (i + 1) := by rw [List.drop_eq_getElem_cons (by omega), List.getD_eq_getElem?_getD, List.getElem?_eq_getElem (by omega)]; rfl
  rw [e1, e2, readF] at h
  constructor
  · intro o' ho
    rw [ho] at h
    exact h
  · intro ho
    rw [ho] at h
    exact h.symm
theorem readF_end {sl : List Nat} {fs : List (List UInt8)} {i p : Nat} {o : Cm} {R : PR} (hi : i = sl.length) (h : readF (sl.drop i) (fs.drop i) p o = R) : R = .ok o := by
  rw [List.drop_of_length_le (by omega), readF] at h
  exact h.symm
theorem opV_one (o : Cm) : ∀ v ∈ opL o, v.oneCell' = true := by
  intro v hv
  simp at hv
  rcases hv with rfl | rfl | rfl | rfl | rfl | rfl | rfl <;> rfl

/-- An operation's block set to nothing, cell by cell. -/
abbrev zeroW (G : Nat) (w : World) : World := ((((((w.setCell ⟨G, 0, none⟩ (.int .i64 0)).setCell ⟨G, 1, none⟩ (.int .i64 0)).setCell ⟨G, 2, none⟩ (.int .i64 0)).setCell ⟨G, 3, none⟩ (.int .i64 0)).setCell ⟨G, 4, none⟩ (.int .i64 0)).setCell ⟨G, 5, none⟩ (.int .i64 0)).setCell ⟨G, 6, none⟩ (.string { data := #[] })
theorem zeroW_blk {G : Nat} {o : Cm} {w : World} (h : Blk G 24 (opL o) w) : Blk G 24 (opL cm0) (zeroW G w) := by
  have := ((((((h.set (i := 0) (.int .i64 0)).set (i := 1) (.int .i64 0)).set (i := 2) (.int .i64 0)).set (i := 3) (.int .i64 0)).set (i := 4) (.int .i64 0)).set (i := 5) (.int .i64 0)).set (i := 6) (.string { data := #[] })
  exact this
theorem zeroW_below {G : Nat} {w w1 : World} (h : Below w.heap.size w w1) (hG : w.heap.size ≤ G) : Below w.heap.size w (zeroW G w1) :=
  below_row (below_row (below_row (below_row (below_row (below_row (below_row h (setCell_grown _ _ _ _) hG) (setCell_grown _ _ _ _) hG) (setCell_grown _ _ _ _) hG) (setCell_grown _ _ _ _) hG) (setCell_grown _ _ _ _) hG) (setCell_grown _ _ _ _) hG) (setCell_grown _ _ _ _) hG

set_option maxRecDepth 40000 in
set_option maxHeartbeats 4000000 in
theorem readFields_at (k : Nat) (hk : k < 22) (fs : List (List UInt8)) (hfl : fs.length = (slotN k).length) (hlen : ∀ i, (fs.getD i []).length ≤ 1000) (P0 : Nat) (A : Option Addr) (c : Nat) (hcap : fs.length ≤ c) (w : World) (hF : HdF A fs P0 w) (hT : TabW w) (hE : ErrW w) (hP : PlnW w) (hC : CmdW w) :
    Calls Tryz.prog 32 #[.int .i64 (k : Int), .slice A fs.length c] w fun e w' => RfAns (readF (slotN k) fs P0 (cmK k)) e ∧ Below w.heap.size w w' := by
  obtain ⟨a, sc, hsl, hscap, -⟩ := hC.sl k hk
  have glt := hC.lt
  have PW : Hid (TabW w ∧ ErrW w ∧ PlnW w ∧ CmdW w ∧ HdF A fs P0 w) := ⟨hT, hE, hP, hC, hF⟩
  have LY : Hid (∀ (G : Nat) (o : Cm) (s : Nat), s ≤ 6 → ∀ (i : Nat) (w1 : World), Below w.heap.size w w1 → Blk G 24 (opL o) w1 → Calls Tryz.prog 48 #[.pointer (some ⟨G, 0, none⟩), .int .i64 (s : Int), .string ⟨(fs.getD i []).toArray⟩] w1 (LayAns G (layS o s (fs.getD i [])) w1)) := fun G o s hs i w1 hb hB => lay_at G o s hs _ (by have := hlen i; omega) w1 hB (tab_below hT hb) (hE.below hb) (hP.later hb)
  have SL : Hid (∀ i, i < (slotN k).length → (slotN k).getD i 0 ≤ 6) := fun i hi => slot_le k hk _ (by rw [List.getD_eq_getElem?_getD, List.getElem?_eq_getElem hi]; exact List.getElem_mem hi)
  have SN := slot_len k hk
  have HEL : Hid (∀ w1, Below w.heap.size w w1 → ∀ i, i < (slotN k).length → ∃ g f, a = some ⟨g, f, none⟩ ∧ w1.cell? ⟨g, f + i, none⟩ = some (.int .i64 (((slotN k).getD i 0 : Nat) : Int))) := fun w1 hb i hi => by
    obtain ⟨a', c', hsl', -, hel⟩ := (hC.later hb).sl k hk
    have e := (hb.cell (p := ⟨0, k * 2 + 1, none⟩) glt).trans hsl
    rw [hsl'] at e
    injection e with e
    injection e with e1 e2 e3
    subst e1
    obtain ⟨g, f, e, _, hc⟩ := hel i hi
    exact ⟨g, f, e, hc⟩
  have R0 : Hid (readF ((slotN k).drop 0) (fs.drop 0) (P0 + plc fs 0) (cmK k) = readF (slotN k) fs P0 (cmK k)) := rfl
  have RS : Hid (∀ i p o R, i < (slotN k).length → readF ((slotN k).drop i) (fs.drop i) p o = R → (∀ o', layS o ((slotN k).getD i 0) (fs.getD i []) = some o' → readF ((slotN k).drop (i + 1)) (fs.drop (i + 1)) (p + (fs.getD i []).length + 1) o' = R) ∧ (layS o ((slotN k).getD i 0) (fs.getD i []) = none → R = .bad 182 p)) := fun i p o R hi h => readF_step hfl.symm hi h
  have RE : Hid (∀ i p o R, i = (slotN k).length → readF ((slotN k).drop i) (fs.drop i) p o = R → R = .ok o) := fun i p o R hi h => readF_end hi h
  have HF : Hid (HdF A fs P0 w) := hF
  have PB : Hid (∀ i, i ≤ 5 → plc fs i ≤ 100000) := fun i hi => by
    have h : ∀ i, plc fs i ≤ i * 1001 := by
      intro i
      induction i with
      | zero => simp [plc]
      | succ i ih => have := hlen i; rw [plc, Nat.succ_mul]; omega
    have := h i
    omega
  have PS : Hid (∀ i, plc fs (i + 1) = plc fs i + (fs.getD i []).length + 1) := fun i => rfl
  clear hT hE hP hC hF hlen
  rw [hfl] at hcap ⊢
  have HL : Hid (fs.length = (slotN k).length) := hfl
  clear hfl
  generalize readF (slotN k) fs P0 (cmK k) = R at *
  generalize slotN k = sl at *
  obtain ⟨m, hm⟩ : ∃ m, sl.length = m := ⟨_, rfl⟩
  rw [hm] at SL SN HEL RS RE HL hsl hscap hcap
  rw [hm]
  clear hm
  have NB := Blk.new 24 (opL cm0) w
  have NB2 := Blk.new 24 (opL (cmK k)) (w.alloc (.cells (opL cm0).toArray 24))
  go_enter Tryz.func32, Tryz.ntmps32
  go_wp2_with fail
  generalize hW : (w.alloc (.cells #[.int .i64 0, .int .i64 0, .int .i64 0, .int .i64 0, .int .i64 0, .int .i64 0, .string { data := #[] }] 24)).alloc (.cells #[.int .i64 (k : Int), .int .i64 0, .int .i64 0, .int .i64 0, .int .i64 0, .int .i64 0, .string { data := #[] }] 24) = W
  have B4 : Hid (Blk w.heap.size 24 (opL cm0) W) := by rw [← hW]; exact NB.below (below_alloc _ _)
  have B6 : Hid (Blk (w.heap.size + 1) 24 (opL (cmK k)) W) := by rw [← hW]; rw [World.size_alloc] at NB2; exact NB2
  have BW : Hid (Below w.heap.size w W) := by rw [← hW]; exact below_trans (below_alloc w _) (below_alloc _ _)
  clear NB NB2 hW hsl glt hscap
  go_loopw [7, 8, 16] (fun _ _ v16 wr => ∃ (i : Nat) (o : Cm), v16 = .int .i64 (i : Int) ∧ i ≤ m ∧ Hid (readF (sl.drop i) (fs.drop i) (P0 + plc fs i) o = R) ∧ Hid (Blk w.heap.size 24 (opL cm0) wr ∧ Blk (w.heap.size + 1) 24 (opL o) wr) ∧ Below w.heap.size w wr) (fun _ _ v16 _ => m - (RowKit.intOf v16).toNat)
  case atStart => exact ⟨0, cmK k, rfl, by omega, R0, ⟨B4.out, B6.out⟩, BW.out⟩
  case round =>
    clear B4 B6 BW R0
    obtain ⟨i, o, rfl, hi, HR, HB, B⟩ := hrel
    by_cases hlt : (i : Int) < (m : Int)
    · obtain ⟨g, f, rfl, cs⟩ := HEL.out wr B i (by omega)
      obtain ⟨ga, fa, rfl, galt, cp0, ct0⟩ := HF.out i (by rw [HL.out]; omega)
      have cp := (B.cell (p := ⟨ga, fa + i * 2, none⟩) galt).trans cp0
      have ct := (B.cell (p := ⟨ga, fa + i * 2 + 1, none⟩) galt).trans ct0
      have s6 := SL.out i (by omega)
      have CL : Hid (Calls Tryz.prog 48 #[.pointer (some ⟨w.heap.size + 1, 0, none⟩), .int .i64 ((sl.getD i 0 : Nat) : Int), .string ⟨(fs.getD i []).toArray⟩] wr (LayAns (w.heap.size + 1) (layS o (sl.getD i 0) (fs.getD i [])) wr)) := LY.out _ o _ s6 i wr B HB.out.2
      obtain ⟨rs1, rs2⟩ := RS.out i _ o R (by omega) HR.out
      have RS1 : Hid (∀ o', layS o (sl.getD i 0) (fs.getD i []) = some o' → readF (sl.drop (i + 1)) (fs.drop (i + 1)) (P0 + plc fs (i + 1)) o' = R) := fun o' h => by
        have := rs1 o' h
        rw [PS.out i, ← Nat.add_assoc, ← Nat.add_assoc]
        exact this
      have RS2 : Hid (layS o (sl.getD i 0) (fs.getD i []) = none → R = .bad 182 (P0 + plc fs i)) := rs2
      have hpb := PB.out i (by omega)
      have B4 : Hid (Blk w.heap.size 24 (opL cm0) wr) := HB.out.1
      have hBs := B.size
      clear LY SL HEL RS RE HF PB PS HR HB rs1 rs2 PW
      generalize sl.getD i 0 = S at *
      generalize hfx : ({ data := (fs.getD i []).toArray } : ByteArray) = FX at *
      clear hfx
      generalize plc fs i = PI at *
      go_wp2_with fail
      refine CL.out.mono ?_
      rintro e w1 ⟨gr, ha⟩
      have B2 : Below w.heap.size w w1 := below_row B gr (by omega)
      have B41 : Hid (Blk w.heap.size 24 (opL cm0) w1) := B4.out.grown gr (by simp)
      have cp1 : w1.cell? ⟨ga, fa + i * 2, none⟩ = some (.int .i64 ((P0 + PI : Nat) : Int)) := (B2.cell (p := ⟨ga, fa + i * 2, none⟩) galt).trans cp0
      clear CL B4 gr B
      cases hl : layS o S (fs.getD i []) with
      | none =>
        rw [hl] at ha
        obtain ⟨rfl, -⟩ := ha
        have RN := RS2.out hl
        subst RN
        clear RS1 RS2 hl
        have c0 := B41.out.cell 0 _ rfl
        have c1 := B41.out.cell 1 _ rfl
        have c2 := B41.out.cell 2 _ rfl
        have c3 := B41.out.cell 3 _ rfl
        have c4 := B41.out.cell 4 _ rfl
        have c5 := B41.out.cell 5 _ rfl
        have c6 := B41.out.cell 6 _ rfl
        have f0 := B41.out.fz
        have lt4 := B41.out.lt
        go_wp2_with fail
        have ZB : Hid (Blk w.heap.size 24 (opL cm0) (zeroW w.heap.size w1).drew ∧ Below w.heap.size w (zeroW w.heap.size w1).drew) := ⟨(zeroW_blk B41.out).drewN 1, Below.drew (zeroW_below B2 (Nat.le_refl _))⟩
        go_region
        generalize (zeroW w.heap.size w1).drew = W9 at *
        go_wp2_with fail
        refine ret_blk_tmp rfl rfl w.heap.size 24 (opL cm0) _ rfl ZB.out.1 Tryz.underlying24 rfl infoO0 ?_
        exact ⟨rfl, ZB.out.2⟩
      | some o' =>
        rw [hl] at ha
        obtain ⟨rfl, b6⟩ := ha
        have NX : Hid (readF (sl.drop (i + 1)) (fs.drop (i + 1)) (P0 + plc fs (i + 1)) o' = R) := RS1.out o' hl
        have HB2 : Hid (Blk w.heap.size 24 (opL cm0) w1 ∧ Blk (w.heap.size + 1) 24 (opL o') w1) := ⟨B41.out, b6⟩
        clear RS1 RS2 hl b6 B41 cp1
        go_wp2_with fail
        go_roundw
        case rel => exact ⟨i + 1, o', by go_num, by omega, NX, HB2, B2⟩
        case measure => simp [RowKit.intOf]; omega
    · obtain rfl : i = m := by omega
      have RN := RE.out i _ o R rfl HR.out
      subst RN
      have RG : Hid (wr.rangeAt (w.heap.size + 1) 0 (opL o)) := HB.out.2.all
      have B4 : Hid (Blk w.heap.size 24 (opL cm0) wr) := HB.out.1
      have IO := infoO o
      have ON := opV_one o
      clear LY SL HEL RS RE HF PB PS HR HB PW
      go_wp2_with (first
        | (refine step_load rfl 24 _ rfl (w.heap.size + 1) 0 rfl (opL o) _ RG.out Tryz.underlying24 rfl IO ?_)
        | (refine step_store rfl 24 _ _ rfl w.heap.size 0 24 (opL cm0) (opL o) rfl rfl B4.out (Nat.le_refl _) IO ON ?_; intro w2 nb2 g2; have N2 : Hid (Blk w.heap.size 24 (opL o) w2) := nb2; have B2 : Hid (Below w.heap.size w w2) := below_row B g2 (Nat.le_refl _); clear nb2 g2 B4))
      refine ret_blk_tmp rfl rfl w.heap.size 24 (opL o) _ rfl N2.out Tryz.underlying24 rfl IO ?_
      exact ⟨rfl, B2.out⟩
end Go.Proofs.YtkjnklagjhhhkaaGreatDoor
