/-
  Ours: script.planOf, kindOf, lay (gen_sclay.py).
-/
import Derived.Test.YtkjnklagjhhhkaaGreatDoorScRdW
import Derived.Test.YtkjnklagjhhhkaaGreatDoorScFmt
namespace Go.Proofs.YtkjnklagjhhhkaaGreatDoor
open Go.RowKit Go.Lib ScF

theorem str_eql (a b : List UInt8) : (({ data := a.toArray } : ByteArray).toList == ({ data := b.toArray } : ByteArray).toList) = decide (a = b) := by
  rw [Bool.eq_iff_iff]
  simp [ByteArray.toList_eq]
theorem infoP3 {a b c : Value} : (Tryz.prog.info? 117).map (·.size) = some ([a, b, c] : List Value).length := by
  have : (Tryz.prog.info? 117).map (·.size) = some 3 := by kernel_rfl
  exact this
set_option maxRecDepth 40000 in
set_option maxHeartbeats 2000000 in
theorem planOf_at (l : List UInt8) (w : World) (hp : PlnW w) : Calls Tryz.prog 65 #[.string ⟨l.toArray⟩] w fun e w' => OptI (planR l) e ∧ w' = w := by
  have RG : Hid (w.rangeAt 2 0 [.string ⟨(planN 0).toArray⟩, .string ⟨(planN 1).toArray⟩, .string ⟨(planN 2).toArray⟩]) := fun j v hv => by
    match j, hv with
    | 0, hv => cases hv; exact hp 0 (by decide)
    | 1, hv => cases hv; exact hp 1 (by decide)
    | 2, hv => cases hv; exact hp 2 (by decide)
  have q0 := str_eql (planN 0) l
  have q1 := str_eql (planN 1) l
  have q2 := str_eql (planN 2) l
  have PR0 : Hid (planR l = if l = planN 0 then some 0 else if l = planN 1 then some 1 else if l = planN 2 then some 2 else none) := rfl
  clear hp
  generalize planN 0 = P0 at *
  generalize planN 1 = P1 at *
  generalize planN 2 = P2 at *
  generalize ({ data := P0.toArray } : ByteArray) = X0 at *
  generalize ({ data := P1.toArray } : ByteArray) = X1 at *
  generalize ({ data := P2.toArray } : ByteArray) = X2 at *
  generalize ({ data := l.toArray } : ByteArray) = TX at *
  have i0 : ∀ W, (Instr.index 117 (.agg #[.string X0, .string X1, .string X2]) (.int .i64 0)).run Tryz.prog W = .ok (.string X0) W := fun W => run_index_one 117 9 3 _ #[.string X0, .string X1, .string X2] 0 (.string X0) Tryz.underlying117 (by decide) Tryz.underlying9 rfl (by kernel_rfl) rfl W
  have i1 : ∀ W, (Instr.index 117 (.agg #[.string X0, .string X1, .string X2]) (.int .i64 1)).run Tryz.prog W = .ok (.string X1) W := fun W => run_index_one 117 9 3 _ #[.string X0, .string X1, .string X2] 1 (.string X1) Tryz.underlying117 (by decide) Tryz.underlying9 rfl (by kernel_rfl) rfl W
  have i2 : ∀ W, (Instr.index 117 (.agg #[.string X0, .string X1, .string X2]) (.int .i64 2)).run Tryz.prog W = .ok (.string X2) W := fun W => run_index_one 117 9 3 _ #[.string X0, .string X1, .string X2] 2 (.string X2) Tryz.underlying117 (by decide) Tryz.underlying9 rfl (by kernel_rfl) rfl W
  by_cases h0 : P0 = l
  · rw [decide_eq_true h0] at q0
    clear q1 q2
    have E : Hid (planR l = some 0) := by show _ = _; rw [PR0.out]; rw [if_pos h0.symm]
    rw [E.out]
    clear PR0 E
    go_enter Tryz.func65, Tryz.ntmps65
    go_wp2_with (refine step_load rfl 117 _ rfl 2 0 rfl [.string X0, .string X1, .string X2] _ RG.out Tryz.underlying117 rfl infoP3 ?_)
    refine wp_loop_rounds 1 ?_
    rw [rounds_succ]
    go_wp2_with fail
    go_ret2
    exact ⟨rfl, rfl⟩
  rw [decide_eq_false h0] at q0
  by_cases h1 : P1 = l
  · rw [decide_eq_true h1] at q1
    clear q2
    have E : Hid (planR l = some 1) := by show _ = _; rw [PR0.out]; rw [if_neg (Ne.symm h0), if_pos h1.symm]
    rw [E.out]
    clear PR0 E
    go_enter Tryz.func65, Tryz.ntmps65
    go_wp2_with (refine step_load rfl 117 _ rfl 2 0 rfl [.string X0, .string X1, .string X2] _ RG.out Tryz.underlying117 rfl infoP3 ?_)
    refine wp_loop_rounds 2 ?_
    rw [rounds_succ]
    go_wp2_with fail
    rw [rounds_succ]
    go_wp2_with fail
    go_ret2
    exact ⟨rfl, rfl⟩
  rw [decide_eq_false h1] at q1
  by_cases h2 : P2 = l
  · rw [decide_eq_true h2] at q2
    have E : Hid (planR l = some 2) := by show _ = _; rw [PR0.out]; rw [if_neg (Ne.symm h0), if_neg (Ne.symm h1), if_pos h2.symm]
    rw [E.out]
    clear PR0 E
    go_enter Tryz.func65, Tryz.ntmps65
    go_wp2_with (refine step_load rfl 117 _ rfl 2 0 rfl [.string X0, .string X1, .string X2] _ RG.out Tryz.underlying117 rfl infoP3 ?_)
    refine wp_loop_rounds 3 ?_
    rw [rounds_succ]
    go_wp2_with fail
    rw [rounds_succ]
    go_wp2_with fail
    rw [rounds_succ]
    go_wp2_with fail
    go_ret2
    exact ⟨rfl, rfl⟩
  · rw [decide_eq_false h2] at q2
    have E : Hid (planR l = none) := by show _ = _; rw [PR0.out]; rw [if_neg (Ne.symm h0), if_neg (Ne.symm h1), if_neg (Ne.symm h2)]
    rw [E.out]
    clear PR0 E
    go_enter Tryz.func65, Tryz.ntmps65
    go_wp2_with (refine step_load rfl 117 _ rfl 2 0 rfl [.string X0, .string X1, .string X2] _ RG.out Tryz.underlying117 rfl infoP3 ?_)
    refine wp_loop_rounds 4 ?_
    rw [rounds_succ]
    go_wp2_with fail
    rw [rounds_succ]
    go_wp2_with fail
    rw [rounds_succ]
    go_wp2_with fail
    rw [rounds_succ]
    go_wp2_with fail
    go_ret2
    exact ⟨rfl, rfl⟩

theorem kindW_no {l : List UInt8} (h : ∀ k, 1 ≤ k → k < 22 → wordN k ≠ l) : kindW l = none := by
  cases e : kindW l with
  | none => rfl
  | some k =>
    obtain ⟨h1, h2, h3⟩ := kindW_some e
    exact absurd h3 (h k h1 h2)
set_option maxRecDepth 40000 in
set_option maxHeartbeats 2000000 in
theorem kindOf_at (l : List UInt8) (w : World) (hC : CmdW w) : Calls Tryz.prog 31 #[.string ⟨l.toArray⟩] w fun e w' => OptI ((kindW l).map Int.ofNat) e ∧ w' = w := by
  have QE : Hid (∀ k, (({ data := (wordN k).toArray } : ByteArray).toList == ({ data := l.toArray } : ByteArray).toList) = decide (wordN k = l)) := fun k => str_eql (wordN k) l
  have CW : Hid (∀ k, k < 22 → w.cell? ⟨0, k * 2, none⟩ = some (.string ⟨(wordN k).toArray⟩)) := hC.wd
  clear hC
  generalize ({ data := l.toArray } : ByteArray) = TX at *
  go_enter Tryz.func31, Tryz.ntmps31
  go_wp2_with fail
  go_loopw [4] (fun v4 wr => ∃ k : Nat, v4 = .int .i64 (k : Int) ∧ 1 ≤ k ∧ k ≤ 22 ∧ Hid (∀ j, 1 ≤ j → j < k → wordN j ≠ l) ∧ w = wr) (fun v4 _ => 22 - (RowKit.intOf v4).toNat)
  case atStart => exact ⟨1, rfl, by omega, by omega, (fun j h1 h2 => by omega), rfl⟩
  case round =>
    obtain ⟨k, rfl, k1, k22, HJ, rfl⟩ := hrel
    by_cases hk : (k : Int) ≤ 21
    · have cc := CW.out k (by omega)
      have qe := QE.out k
      by_cases he : wordN k = l
      · rw [decide_eq_true he] at qe
        have E : Hid (kindW l = some k) := by show _ = _; rw [← he]; exact kindW_word k1 (by omega)
        clear HJ CW QE he
        generalize ({ data := (wordN k).toArray } : ByteArray) = WX at *
        go_wp2_with fail
        go_ret2
        exact ⟨by rw [E.out]; rfl, rfl⟩
      · rw [decide_eq_false he] at qe
        have NX : Hid (∀ j, 1 ≤ j → j < k + 1 → wordN j ≠ l) := fun j h1 h2 => by
          by_cases hj : j = k
          · rw [hj]; exact he
          · exact HJ.out j h1 (by omega)
        clear HJ CW QE he
        generalize ({ data := (wordN k).toArray } : ByteArray) = WX at *
        go_wp2_with fail
        go_roundw
        case rel => exact ⟨k + 1, by go_num, by omega, by omega, NX, by first | trivial | rfl⟩
        case measure => simp [RowKit.intOf]; omega
    · have E : Hid (kindW l = none) := kindW_no (fun j h1 h2 => HJ.out j h1 (by omega))
      clear HJ CW QE
      go_wp2_with fail
      go_ret2
      exact ⟨by rw [E.out]; rfl, rfl⟩

/-- What lay leaves in the operation's block G. -/
def LayAns (G : Nat) (r : Option Cm) (w : World) (e : Ending) (w' : World) : Prop := w.grownBy w' (some G) ∧ match r with
  | some o => e = .returned (.bool true) ∧ Blk G 24 (opL o) w'
  | none => e = .returned (.bool false) ∧ ∃ o, Blk G 24 (opL o) w'
theorem grown_tr2 {a b c : World} {row : Option Nat} (h : Below a.heap.size a b) (k : b.grownBy c row) : a.grownBy c row :=
  ⟨k.os.trans h.os, k.tape.trans h.tape, k.output.trans h.output, Nat.le_trans h.size k.size, fun i hi hn => (k.block i (Nat.lt_of_lt_of_le hi h.size) hn).trans (h.block i hi)⟩

set_option maxRecDepth 40000 in
set_option maxHeartbeats 2000000 in
theorem lay_0 (G : Nat) (o : Cm) (l : List UInt8) (w : World) (hB : Blk G 24 (opL o) w) (CL : Calls Tryz.prog 62 #[.string ⟨l.toArray⟩] w fun e w' => OptI (rdW l) e ∧ Below w.heap.size w w') : Calls Tryz.prog 48 #[.pointer (some ⟨G, 0, none⟩), .int .i64 0, .string ⟨l.toArray⟩] w (LayAns G (layS o 0 l) w) := by
  have HC : Hid (Calls Tryz.prog 62 #[.string ⟨l.toArray⟩] w fun e w' => OptI (rdW l) e ∧ Below w.heap.size w w') := CL
  have HB : Hid (Blk G 24 (opL o) w) := hB
  have LS : Hid (layS o 0 l = (rdW l).map fun n => { o with loan := n }) := rfl
  rw [LS.out]
  clear CL hB LS
  generalize rdW l = r at *
  generalize ({ data := l.toArray } : ByteArray) = TX at *
  obtain ⟨kd, ln, am, rt, cn, dy, tx⟩ := o
  simp only at HB ⊢
  go_enter Tryz.func48, Tryz.ntmps48
  go_wp2_with fail
  refine HC.out.mono ?_
  rintro e w1 ⟨rfl, b1⟩
  have B1 := HB.out.below b1
  have c1 := B1.cell 1 _ rfl
  have f1 := B1.fz 1
  have l1 := B1.lt
  have BS : Hid (∀ n : Int, Blk G 24 ((opL ⟨kd, ln, am, rt, cn, dy, tx⟩).set 1 (.int .i64 n)) (w1.setCell ⟨G, 1, none⟩ (.int .i64 n)) ∧ w.grownBy (w1.setCell ⟨G, 1, none⟩ (.int .i64 n)) (some G)) := fun n => ⟨B1.set _, grown_tr2 b1 (setCell_grown _ _ _ _)⟩
  clear B1 b1 HC HB
  cases r with
  | none =>
    go_wp2_with fail
    go_ret
    exact ⟨(BS.out 0).2, rfl, ⟨{ (⟨kd, ln, am, rt, cn, dy, tx⟩ : Cm) with loan := 0 }, (BS.out 0).1⟩⟩
  | some n =>
    go_wp2_with fail
    go_ret
    exact ⟨(BS.out n).2, rfl, (BS.out n).1⟩

set_option maxRecDepth 40000 in
set_option maxHeartbeats 2000000 in
theorem lay_1 (G : Nat) (o : Cm) (l : List UInt8) (w : World) (hB : Blk G 24 (opL o) w) (CL : Calls Tryz.prog 63 #[.string ⟨l.toArray⟩] w fun e w' => OptI (rdW l) e ∧ Below w.heap.size w w') : Calls Tryz.prog 48 #[.pointer (some ⟨G, 0, none⟩), .int .i64 1, .string ⟨l.toArray⟩] w (LayAns G (layS o 1 l) w) := by
  have HC : Hid (Calls Tryz.prog 63 #[.string ⟨l.toArray⟩] w fun e w' => OptI (rdW l) e ∧ Below w.heap.size w w') := CL
  have HB : Hid (Blk G 24 (opL o) w) := hB
  have LS : Hid (layS o 1 l = (rdW l).map fun n => { o with rate := n }) := rfl
  rw [LS.out]
  clear CL hB LS
  generalize rdW l = r at *
  generalize ({ data := l.toArray } : ByteArray) = TX at *
  obtain ⟨kd, ln, am, rt, cn, dy, tx⟩ := o
  simp only at HB ⊢
  go_enter Tryz.func48, Tryz.ntmps48
  go_wp2_with fail
  refine HC.out.mono ?_
  rintro e w1 ⟨rfl, b1⟩
  have B1 := HB.out.below b1
  have c1 := B1.cell 3 _ rfl
  have f1 := B1.fz 3
  have l1 := B1.lt
  have BS : Hid (∀ n : Int, Blk G 24 ((opL ⟨kd, ln, am, rt, cn, dy, tx⟩).set 3 (.int .i64 n)) (w1.setCell ⟨G, 3, none⟩ (.int .i64 n)) ∧ w.grownBy (w1.setCell ⟨G, 3, none⟩ (.int .i64 n)) (some G)) := fun n => ⟨B1.set _, grown_tr2 b1 (setCell_grown _ _ _ _)⟩
  clear B1 b1 HC HB
  cases r with
  | none =>
    go_wp2_with fail
    go_ret
    exact ⟨(BS.out 0).2, rfl, ⟨{ (⟨kd, ln, am, rt, cn, dy, tx⟩ : Cm) with rate := 0 }, (BS.out 0).1⟩⟩
  | some n =>
    go_wp2_with fail
    go_ret
    exact ⟨(BS.out n).2, rfl, (BS.out n).1⟩

set_option maxRecDepth 40000 in
set_option maxHeartbeats 2000000 in
theorem lay_2 (G : Nat) (o : Cm) (l : List UInt8) (w : World) (hB : Blk G 24 (opL o) w) (CL : Calls Tryz.prog 62 #[.string ⟨l.toArray⟩] w fun e w' => OptI (rdW l) e ∧ Below w.heap.size w w') : Calls Tryz.prog 48 #[.pointer (some ⟨G, 0, none⟩), .int .i64 2, .string ⟨l.toArray⟩] w (LayAns G (layS o 2 l) w) := by
  have HC : Hid (Calls Tryz.prog 62 #[.string ⟨l.toArray⟩] w fun e w' => OptI (rdW l) e ∧ Below w.heap.size w w') := CL
  have HB : Hid (Blk G 24 (opL o) w) := hB
  have LS : Hid (layS o 2 l = (rdW l).map fun n => { o with count := n }) := rfl
  rw [LS.out]
  clear CL hB LS
  generalize rdW l = r at *
  generalize ({ data := l.toArray } : ByteArray) = TX at *
  obtain ⟨kd, ln, am, rt, cn, dy, tx⟩ := o
  simp only at HB ⊢
  go_enter Tryz.func48, Tryz.ntmps48
  go_wp2_with fail
  refine HC.out.mono ?_
  rintro e w1 ⟨rfl, b1⟩
  have B1 := HB.out.below b1
  have c1 := B1.cell 4 _ rfl
  have f1 := B1.fz 4
  have l1 := B1.lt
  have BS : Hid (∀ n : Int, Blk G 24 ((opL ⟨kd, ln, am, rt, cn, dy, tx⟩).set 4 (.int .i64 n)) (w1.setCell ⟨G, 4, none⟩ (.int .i64 n)) ∧ w.grownBy (w1.setCell ⟨G, 4, none⟩ (.int .i64 n)) (some G)) := fun n => ⟨B1.set _, grown_tr2 b1 (setCell_grown _ _ _ _)⟩
  clear B1 b1 HC HB
  cases r with
  | none =>
    go_wp2_with fail
    go_ret
    exact ⟨(BS.out 0).2, rfl, ⟨{ (⟨kd, ln, am, rt, cn, dy, tx⟩ : Cm) with count := 0 }, (BS.out 0).1⟩⟩
  | some n =>
    go_wp2_with fail
    go_ret
    exact ⟨(BS.out n).2, rfl, (BS.out n).1⟩

set_option maxRecDepth 40000 in
set_option maxHeartbeats 2000000 in
theorem lay_3 (G : Nat) (o : Cm) (l : List UInt8) (w : World) (hB : Blk G 24 (opL o) w) (CL : Calls Tryz.prog 62 #[.string ⟨l.toArray⟩] w fun e w' => OptI (rdW l) e ∧ Below w.heap.size w w') : Calls Tryz.prog 48 #[.pointer (some ⟨G, 0, none⟩), .int .i64 3, .string ⟨l.toArray⟩] w (LayAns G (layS o 3 l) w) := by
  have HC : Hid (Calls Tryz.prog 62 #[.string ⟨l.toArray⟩] w fun e w' => OptI (rdW l) e ∧ Below w.heap.size w w') := CL
  have HB : Hid (Blk G 24 (opL o) w) := hB
  have LS : Hid (layS o 3 l = (rdW l).map fun n => { o with days := n }) := rfl
  rw [LS.out]
  clear CL hB LS
  generalize rdW l = r at *
  generalize ({ data := l.toArray } : ByteArray) = TX at *
  obtain ⟨kd, ln, am, rt, cn, dy, tx⟩ := o
  simp only at HB ⊢
  go_enter Tryz.func48, Tryz.ntmps48
  go_wp2_with fail
  refine HC.out.mono ?_
  rintro e w1 ⟨rfl, b1⟩
  have B1 := HB.out.below b1
  have c1 := B1.cell 5 _ rfl
  have f1 := B1.fz 5
  have l1 := B1.lt
  have BS : Hid (∀ n : Int, Blk G 24 ((opL ⟨kd, ln, am, rt, cn, dy, tx⟩).set 5 (.int .i64 n)) (w1.setCell ⟨G, 5, none⟩ (.int .i64 n)) ∧ w.grownBy (w1.setCell ⟨G, 5, none⟩ (.int .i64 n)) (some G)) := fun n => ⟨B1.set _, grown_tr2 b1 (setCell_grown _ _ _ _)⟩
  clear B1 b1 HC HB
  cases r with
  | none =>
    go_wp2_with fail
    go_ret
    exact ⟨(BS.out 0).2, rfl, ⟨{ (⟨kd, ln, am, rt, cn, dy, tx⟩ : Cm) with days := 0 }, (BS.out 0).1⟩⟩
  | some n =>
    go_wp2_with fail
    go_ret
    exact ⟨(BS.out n).2, rfl, (BS.out n).1⟩

set_option maxRecDepth 40000 in
set_option maxHeartbeats 2000000 in
theorem lay_4 (G : Nat) (o : Cm) (l : List UInt8) (w : World) (hB : Blk G 24 (opL o) w) (CL : Calls Tryz.prog 64 #[.string ⟨l.toArray⟩] w fun e w' => OptI (amtR l) e ∧ Below w.heap.size w w') : Calls Tryz.prog 48 #[.pointer (some ⟨G, 0, none⟩), .int .i64 4, .string ⟨l.toArray⟩] w (LayAns G (layS o 4 l) w) := by
  have HC : Hid (Calls Tryz.prog 64 #[.string ⟨l.toArray⟩] w fun e w' => OptI (amtR l) e ∧ Below w.heap.size w w') := CL
  have HB : Hid (Blk G 24 (opL o) w) := hB
  have LS : Hid (layS o 4 l = (amtR l).map fun n => { o with amount := n }) := rfl
  rw [LS.out]
  clear CL hB LS
  generalize amtR l = r at *
  generalize ({ data := l.toArray } : ByteArray) = TX at *
  obtain ⟨kd, ln, am, rt, cn, dy, tx⟩ := o
  simp only at HB ⊢
  go_enter Tryz.func48, Tryz.ntmps48
  go_wp2_with fail
  refine HC.out.mono ?_
  rintro e w1 ⟨rfl, b1⟩
  have B1 := HB.out.below b1
  have c1 := B1.cell 2 _ rfl
  have f1 := B1.fz 2
  have l1 := B1.lt
  have BS : Hid (∀ n : Int, Blk G 24 ((opL ⟨kd, ln, am, rt, cn, dy, tx⟩).set 2 (.int .i64 n)) (w1.setCell ⟨G, 2, none⟩ (.int .i64 n)) ∧ w.grownBy (w1.setCell ⟨G, 2, none⟩ (.int .i64 n)) (some G)) := fun n => ⟨B1.set _, grown_tr2 b1 (setCell_grown _ _ _ _)⟩
  clear B1 b1 HC HB
  cases r with
  | none =>
    go_wp2_with fail
    go_ret
    exact ⟨(BS.out 0).2, rfl, ⟨{ (⟨kd, ln, am, rt, cn, dy, tx⟩ : Cm) with amount := 0 }, (BS.out 0).1⟩⟩
  | some n =>
    go_wp2_with fail
    go_ret
    exact ⟨(BS.out n).2, rfl, (BS.out n).1⟩

set_option maxRecDepth 40000 in
set_option maxHeartbeats 2000000 in
theorem lay_5 (G : Nat) (o : Cm) (l : List UInt8) (w : World) (hB : Blk G 24 (opL o) w) (CL : Calls Tryz.prog 65 #[.string ⟨l.toArray⟩] w fun e w' => OptI (planR l) e ∧ Below w.heap.size w w') : Calls Tryz.prog 48 #[.pointer (some ⟨G, 0, none⟩), .int .i64 5, .string ⟨l.toArray⟩] w (LayAns G (layS o 5 l) w) := by
  have HC : Hid (Calls Tryz.prog 65 #[.string ⟨l.toArray⟩] w fun e w' => OptI (planR l) e ∧ Below w.heap.size w w') := CL
  have HB : Hid (Blk G 24 (opL o) w) := hB
  have LS : Hid (layS o 5 l = (planR l).map fun n => { o with days := n }) := rfl
  rw [LS.out]
  clear CL hB LS
  generalize planR l = r at *
  generalize ({ data := l.toArray } : ByteArray) = TX at *
  obtain ⟨kd, ln, am, rt, cn, dy, tx⟩ := o
  simp only at HB ⊢
  go_enter Tryz.func48, Tryz.ntmps48
  go_wp2_with fail
  refine HC.out.mono ?_
  rintro e w1 ⟨rfl, b1⟩
  have B1 := HB.out.below b1
  have c1 := B1.cell 5 _ rfl
  have f1 := B1.fz 5
  have l1 := B1.lt
  have BS : Hid (∀ n : Int, Blk G 24 ((opL ⟨kd, ln, am, rt, cn, dy, tx⟩).set 5 (.int .i64 n)) (w1.setCell ⟨G, 5, none⟩ (.int .i64 n)) ∧ w.grownBy (w1.setCell ⟨G, 5, none⟩ (.int .i64 n)) (some G)) := fun n => ⟨B1.set _, grown_tr2 b1 (setCell_grown _ _ _ _)⟩
  clear B1 b1 HC HB
  cases r with
  | none =>
    go_wp2_with fail
    go_ret
    exact ⟨(BS.out 0).2, rfl, ⟨{ (⟨kd, ln, am, rt, cn, dy, tx⟩ : Cm) with days := 0 }, (BS.out 0).1⟩⟩
  | some n =>
    go_wp2_with fail
    go_ret
    exact ⟨(BS.out n).2, rfl, (BS.out n).1⟩

set_option maxRecDepth 40000 in
set_option maxHeartbeats 2000000 in
theorem lay_6 (G : Nat) (o : Cm) (l : List UInt8) (w : World) (hB : Blk G 24 (opL o) w) : Calls Tryz.prog 48 #[.pointer (some ⟨G, 0, none⟩), .int .i64 6, .string ⟨l.toArray⟩] w (LayAns G (layS o 6 l) w) := by
  have EI := empty_iff l
  have LS : Hid (layS o 6 l = if l.length = 0 then none else some { o with text := l }) := rfl
  rw [LS.out]
  clear LS
  obtain ⟨TX, hTX⟩ : ∃ TX, ({ data := l.toArray } : ByteArray) = TX := ⟨_, rfl⟩
  have HX : Hid (({ data := l.toArray } : ByteArray) = TX) := hTX
  rw [hTX] at EI ⊢
  clear hTX
  obtain ⟨kd, ln, am, rt, cn, dy, tx⟩ := o
  have c1 := hB.cell 6 _ rfl
  have f1 := hB.fz 6
  have l1 := hB.lt
  have BS : Hid (Blk G 24 ((opL ⟨kd, ln, am, rt, cn, dy, tx⟩).set 6 (.string TX)) (w.setCell ⟨G, 6, none⟩ (.string TX)) ∧ w.grownBy (w.setCell ⟨G, 6, none⟩ (.string TX)) (some G)) := ⟨hB.set _, setCell_grown _ _ _ _⟩
  clear hB
  by_cases h0 : l.length = 0
  · have e0 : (l.length == 0) = true := by rw [h0]; rfl
    rw [e0] at EI
    rw [if_pos h0]
    clear e0 h0
    go_enter Tryz.func48, Tryz.ntmps48
    go_wp2_with fail
    go_ret
    exact ⟨BS.out.2, rfl, ⟨⟨kd, ln, am, rt, cn, dy, l⟩, by have := BS.out.1; rw [← HX.out] at this ⊢; exact this⟩⟩
  · have e0 : (l.length == 0) = false := beq_eq_false_iff_ne.2 h0
    rw [e0] at EI
    rw [if_neg h0]
    clear e0 h0
    go_enter Tryz.func48, Tryz.ntmps48
    go_wp2_with fail
    go_ret
    exact ⟨BS.out.2, rfl, by have := BS.out.1; rw [← HX.out] at this ⊢; exact this⟩
theorem lay_at (G : Nat) (o : Cm) (s : Nat) (hs : s ≤ 6) (l : List UInt8) (hl : l.length ≤ 1000000) (w : World) (hB : Blk G 24 (opL o) w) (hT : TabW w) (hE : ErrW w) (hP : PlnW w) : Calls Tryz.prog 48 #[.pointer (some ⟨G, 0, none⟩), .int .i64 (s : Int), .string ⟨l.toArray⟩] w (LayAns G (layS o s l) w) := by
  match s, hs with
  | 0, _ => exact lay_0 G o l w hB (rdInt_at l hl w)
  | 1, _ => exact lay_1 G o l w hB (rdI64_at l hl w)
  | 2, _ => exact lay_2 G o l w hB (rdInt_at l hl w)
  | 3, _ => exact lay_3 G o l w hB (rdInt_at l hl w)
  | 4, _ =>
    obtain ⟨p, hp, hc⟩ := parse_any l (by omega) w hT hE
    obtain ⟨e1, e2⟩ := amtR_of hp
    refine lay_4 G o l w hB (hc.mono ?_)
    rintro e w' ⟨b, rfl⟩
    exact ⟨by rw [e1, e2]; rfl, b⟩
  | 5, _ =>
    refine lay_5 G o l w hB ((planOf_at l w hP).mono ?_)
    rintro e w' ⟨h, rfl⟩
    exact ⟨h, Below.refl _ _⟩
  | 6, _ => exact lay_6 G o l w hB
end Go.Proofs.YtkjnklagjhhhkaaGreatDoor
