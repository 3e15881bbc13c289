/-
  Ours: the reference's tell and Format (gen_scrfm.py).
-/
import Derived.Test.YtaalpdfaljbaiaaDoorScFmt
import Derived.Test.YtaalpdfaljbaiaaDoorScWrd
import Derived.Test.YtaalpdfaljbaiaaDoorScDig
import Derived.Test.YtaalpdfaljbaiaaDoorMexC
namespace Go.Proofs.YtaalpdfaljbaiaaDoor
open Go.RowKit Go.Lib ScF

/-- A number by its length, as the document tells it. -/
theorem whole_yes {n : Int} (h : i64 n) (hl : (itoa n).length ≤ 18 ∨ (n < 0 ∧ (itoa n).length = 19)) : wholeT n = some (itoa n) := if_pos ((whole_iff n h).1 hl)
theorem whole_no {n : Int} (h : i64 n) (hl : ¬ ((itoa n).length ≤ 18 ∨ (n < 0 ∧ (itoa n).length = 19))) : wholeT n = none := if_neg (fun e => hl ((whole_iff n h).2 e))

set_option maxRecDepth 40000 in
set_option maxHeartbeats 1000000 in
theorem rtell_0 (o : Cm) (ho : o.Ok) (w : World) : Calls Tryd.prog 23 #[opV o, .int .u8 76] w fun e w' => TellAns (tellS o 0) e ∧ Below w.heap.size w w' := by
  have b0 := below_alloc w (.cells (opC o) 34)
  have CL : Hid (Calls Tryd.prog 19 #[.int .i64 o.loan] (w.alloc (.cells (opC o) 34)) fun e w' => e = .returned (.string ⟨(itoa o.loan).toArray⟩) ∧ Below (w.alloc (.cells (opC o) 34)).heap.size (w.alloc (.cells (opC o) 34)) w') := decimal_at o.loan ho.loan.1 ho.loan.2 _
  have OK : i64 o.loan := ho.loan
  have hsz := str_size (itoa o.loan)
  clear ho
  obtain ⟨kd, ln, am, rt, cn, dy, tx⟩ := o
  simp only at CL OK hsz ⊢
  by_cases h18 : ((itoa ln).length : Int) ≤ 18
  ·
    have E : Hid (wholeT ln = some (itoa ln)) := whole_yes OK (.inl (by omega))
    go_enter Tryd.func23, Tryd.ntmps23
    go_wp2_with fail
    refine CL.out.mono ?_
    rintro e w1 ⟨rfl, b1⟩
    have b2 := below_trans b0 b1
    go_wp2_with fail
    go_ret2
    exact ⟨by simp only [tellS, E.out]; rfl, b2⟩
  have d18 : decide (((itoa ln).length : Int) ≤ 18) = false := decide_eq_false h18
  have d18' : decide ((itoa ln).length ≤ 18) = false := decide_eq_false (by omega)
  by_cases hneg : ln < 0
  · by_cases h19 : (itoa ln).length = 19
    · have d19 : (((itoa ln).length : Int) == 19) = true := by rw [h19]; rfl
      have E : Hid (wholeT ln = some (itoa ln)) := whole_yes OK (.inr ⟨hneg, h19⟩)
      go_enter Tryd.func23, Tryd.ntmps23
      go_wp2_with fail
      refine CL.out.mono ?_
      rintro e w1 ⟨rfl, b1⟩
      have b2 := below_trans b0 b1
      go_wp2_with fail
      go_ret2
      exact ⟨by simp only [tellS, E.out]; rfl, b2⟩
    · have d19 : (((itoa ln).length : Int) == 19) = false := by rw [beq_eq_false_iff_ne]; omega
      have E : Hid (wholeT ln = none) := whole_no OK (fun h => by rcases h with h | h; omega; exact h19 h.2)
      go_enter Tryd.func23, Tryd.ntmps23
      go_wp2_with fail
      refine CL.out.mono ?_
      rintro e w1 ⟨rfl, b1⟩
      have b2 := below_trans b0 b1
      go_wp2_with fail
      go_ret2
      exact ⟨by simp only [tellS, E.out]; exact ⟨_, rfl⟩, b2⟩
  ·
    have E : Hid (wholeT ln = none) := whole_no OK (fun h => by rcases h with h | h; omega; exact hneg h.1)
    go_enter Tryd.func23, Tryd.ntmps23
    go_wp2_with fail
    refine CL.out.mono ?_
    rintro e w1 ⟨rfl, b1⟩
    have b2 := below_trans b0 b1
    go_wp2_with fail
    go_ret2
    exact ⟨by simp only [tellS, E.out]; exact ⟨_, rfl⟩, b2⟩

set_option maxRecDepth 40000 in
set_option maxHeartbeats 1000000 in
theorem rtell_1 (o : Cm) (ho : o.Ok) (w : World) : Calls Tryd.prog 23 #[opV o, .int .u8 82] w fun e w' => TellAns (tellS o 1) e ∧ Below w.heap.size w w' := by
  have b0 := below_alloc w (.cells (opC o) 34)
  have CL : Hid (Calls Tryd.prog 19 #[.int .i64 o.rate] (w.alloc (.cells (opC o) 34)) fun e w' => e = .returned (.string ⟨(itoa o.rate).toArray⟩) ∧ Below (w.alloc (.cells (opC o) 34)).heap.size (w.alloc (.cells (opC o) 34)) w') := decimal_at o.rate ho.rate.1 ho.rate.2 _
  have OK : i64 o.rate := ho.rate
  have hsz := str_size (itoa o.rate)
  clear ho
  obtain ⟨kd, ln, am, rt, cn, dy, tx⟩ := o
  simp only at CL OK hsz ⊢
  by_cases h18 : ((itoa rt).length : Int) ≤ 18
  ·
    have E : Hid (wholeT rt = some (itoa rt)) := whole_yes OK (.inl (by omega))
    go_enter Tryd.func23, Tryd.ntmps23
    go_wp2_with fail
    refine CL.out.mono ?_
    rintro e w1 ⟨rfl, b1⟩
    have b2 := below_trans b0 b1
    go_wp2_with fail
    go_ret2
    exact ⟨by simp only [tellS, E.out]; rfl, b2⟩
  have d18 : decide (((itoa rt).length : Int) ≤ 18) = false := decide_eq_false h18
  have d18' : decide ((itoa rt).length ≤ 18) = false := decide_eq_false (by omega)
  by_cases hneg : rt < 0
  · by_cases h19 : (itoa rt).length = 19
    · have d19 : (((itoa rt).length : Int) == 19) = true := by rw [h19]; rfl
      have E : Hid (wholeT rt = some (itoa rt)) := whole_yes OK (.inr ⟨hneg, h19⟩)
      go_enter Tryd.func23, Tryd.ntmps23
      go_wp2_with fail
      refine CL.out.mono ?_
      rintro e w1 ⟨rfl, b1⟩
      have b2 := below_trans b0 b1
      go_wp2_with fail
      go_ret2
      exact ⟨by simp only [tellS, E.out]; rfl, b2⟩
    · have d19 : (((itoa rt).length : Int) == 19) = false := by rw [beq_eq_false_iff_ne]; omega
      have E : Hid (wholeT rt = none) := whole_no OK (fun h => by rcases h with h | h; omega; exact h19 h.2)
      go_enter Tryd.func23, Tryd.ntmps23
      go_wp2_with fail
      refine CL.out.mono ?_
      rintro e w1 ⟨rfl, b1⟩
      have b2 := below_trans b0 b1
      go_wp2_with fail
      go_ret2
      exact ⟨by simp only [tellS, E.out]; exact ⟨_, rfl⟩, b2⟩
  ·
    have E : Hid (wholeT rt = none) := whole_no OK (fun h => by rcases h with h | h; omega; exact hneg h.1)
    go_enter Tryd.func23, Tryd.ntmps23
    go_wp2_with fail
    refine CL.out.mono ?_
    rintro e w1 ⟨rfl, b1⟩
    have b2 := below_trans b0 b1
    go_wp2_with fail
    go_ret2
    exact ⟨by simp only [tellS, E.out]; exact ⟨_, rfl⟩, b2⟩

set_option maxRecDepth 40000 in
set_option maxHeartbeats 1000000 in
theorem rtell_2 (o : Cm) (ho : o.Ok) (w : World) : Calls Tryd.prog 23 #[opV o, .int .u8 67] w fun e w' => TellAns (tellS o 2) e ∧ Below w.heap.size w w' := by
  have b0 := below_alloc w (.cells (opC o) 34)
  have CL : Hid (Calls Tryd.prog 19 #[.int .i64 o.count] (w.alloc (.cells (opC o) 34)) fun e w' => e = .returned (.string ⟨(itoa o.count).toArray⟩) ∧ Below (w.alloc (.cells (opC o) 34)).heap.size (w.alloc (.cells (opC o) 34)) w') := decimal_at o.count ho.count.1 ho.count.2 _
  have OK : i64 o.count := ho.count
  have hsz := str_size (itoa o.count)
  clear ho
  obtain ⟨kd, ln, am, rt, cn, dy, tx⟩ := o
  simp only at CL OK hsz ⊢
  by_cases h18 : ((itoa cn).length : Int) ≤ 18
  ·
    have E : Hid (wholeT cn = some (itoa cn)) := whole_yes OK (.inl (by omega))
    go_enter Tryd.func23, Tryd.ntmps23
    go_wp2_with fail
    refine CL.out.mono ?_
    rintro e w1 ⟨rfl, b1⟩
    have b2 := below_trans b0 b1
    go_wp2_with fail
    go_ret2
    exact ⟨by simp only [tellS, E.out]; rfl, b2⟩
  have d18 : decide (((itoa cn).length : Int) ≤ 18) = false := decide_eq_false h18
  have d18' : decide ((itoa cn).length ≤ 18) = false := decide_eq_false (by omega)
  by_cases hneg : cn < 0
  · by_cases h19 : (itoa cn).length = 19
    · have d19 : (((itoa cn).length : Int) == 19) = true := by rw [h19]; rfl
      have E : Hid (wholeT cn = some (itoa cn)) := whole_yes OK (.inr ⟨hneg, h19⟩)
      go_enter Tryd.func23, Tryd.ntmps23
      go_wp2_with fail
      refine CL.out.mono ?_
      rintro e w1 ⟨rfl, b1⟩
      have b2 := below_trans b0 b1
      go_wp2_with fail
      go_ret2
      exact ⟨by simp only [tellS, E.out]; rfl, b2⟩
    · have d19 : (((itoa cn).length : Int) == 19) = false := by rw [beq_eq_false_iff_ne]; omega
      have E : Hid (wholeT cn = none) := whole_no OK (fun h => by rcases h with h | h; omega; exact h19 h.2)
      go_enter Tryd.func23, Tryd.ntmps23
      go_wp2_with fail
      refine CL.out.mono ?_
      rintro e w1 ⟨rfl, b1⟩
      have b2 := below_trans b0 b1
      go_wp2_with fail
      go_ret2
      exact ⟨by simp only [tellS, E.out]; exact ⟨_, rfl⟩, b2⟩
  ·
    have E : Hid (wholeT cn = none) := whole_no OK (fun h => by rcases h with h | h; omega; exact hneg h.1)
    go_enter Tryd.func23, Tryd.ntmps23
    go_wp2_with fail
    refine CL.out.mono ?_
    rintro e w1 ⟨rfl, b1⟩
    have b2 := below_trans b0 b1
    go_wp2_with fail
    go_ret2
    exact ⟨by simp only [tellS, E.out]; exact ⟨_, rfl⟩, b2⟩

set_option maxRecDepth 40000 in
set_option maxHeartbeats 1000000 in
theorem rtell_3 (o : Cm) (ho : o.Ok) (w : World) : Calls Tryd.prog 23 #[opV o, .int .u8 68] w fun e w' => TellAns (tellS o 3) e ∧ Below w.heap.size w w' := by
  have b0 := below_alloc w (.cells (opC o) 34)
  have CL : Hid (Calls Tryd.prog 19 #[.int .i64 o.days] (w.alloc (.cells (opC o) 34)) fun e w' => e = .returned (.string ⟨(itoa o.days).toArray⟩) ∧ Below (w.alloc (.cells (opC o) 34)).heap.size (w.alloc (.cells (opC o) 34)) w') := decimal_at o.days ho.days.1 ho.days.2 _
  have OK : i64 o.days := ho.days
  have hsz := str_size (itoa o.days)
  clear ho
  obtain ⟨kd, ln, am, rt, cn, dy, tx⟩ := o
  simp only at CL OK hsz ⊢
  by_cases h18 : ((itoa dy).length : Int) ≤ 18
  ·
    have E : Hid (wholeT dy = some (itoa dy)) := whole_yes OK (.inl (by omega))
    go_enter Tryd.func23, Tryd.ntmps23
    go_wp2_with fail
    refine CL.out.mono ?_
    rintro e w1 ⟨rfl, b1⟩
    have b2 := below_trans b0 b1
    go_wp2_with fail
    go_ret2
    exact ⟨by simp only [tellS, E.out]; rfl, b2⟩
  have d18 : decide (((itoa dy).length : Int) ≤ 18) = false := decide_eq_false h18
  have d18' : decide ((itoa dy).length ≤ 18) = false := decide_eq_false (by omega)
  by_cases hneg : dy < 0
  · by_cases h19 : (itoa dy).length = 19
    · have d19 : (((itoa dy).length : Int) == 19) = true := by rw [h19]; rfl
      have E : Hid (wholeT dy = some (itoa dy)) := whole_yes OK (.inr ⟨hneg, h19⟩)
      go_enter Tryd.func23, Tryd.ntmps23
      go_wp2_with fail
      refine CL.out.mono ?_
      rintro e w1 ⟨rfl, b1⟩
      have b2 := below_trans b0 b1
      go_wp2_with fail
      go_ret2
      exact ⟨by simp only [tellS, E.out]; rfl, b2⟩
    · have d19 : (((itoa dy).length : Int) == 19) = false := by rw [beq_eq_false_iff_ne]; omega
      have E : Hid (wholeT dy = none) := whole_no OK (fun h => by rcases h with h | h; omega; exact h19 h.2)
      go_enter Tryd.func23, Tryd.ntmps23
      go_wp2_with fail
      refine CL.out.mono ?_
      rintro e w1 ⟨rfl, b1⟩
      have b2 := below_trans b0 b1
      go_wp2_with fail
      go_ret2
      exact ⟨by simp only [tellS, E.out]; exact ⟨_, rfl⟩, b2⟩
  ·
    have E : Hid (wholeT dy = none) := whole_no OK (fun h => by rcases h with h | h; omega; exact hneg h.1)
    go_enter Tryd.func23, Tryd.ntmps23
    go_wp2_with fail
    refine CL.out.mono ?_
    rintro e w1 ⟨rfl, b1⟩
    have b2 := below_trans b0 b1
    go_wp2_with fail
    go_ret2
    exact ⟨by simp only [tellS, E.out]; exact ⟨_, rfl⟩, b2⟩

set_option maxRecDepth 40000 in
set_option maxHeartbeats 1000000 in
theorem rtell_4 (o : Cm) (ho : o.Ok) (w : World) (hT : TabW w) : Calls Tryd.prog 23 #[opV o, .int .u8 65] w fun e w' => TellAns (tellS o 4) e ∧ Below w.heap.size w w' := by
  have b0 := below_alloc w (.cells (opC o) 34)
  have CL : Hid (Calls Tryd.prog 34 #[.int .i64 o.amount] (w.alloc (.cells (opC o) 34)) fun e w' => e = .returned (.string ⟨(fmtL o.amount).toArray⟩) ∧ Below (w.alloc (.cells (opC o) 34)).heap.size (w.alloc (.cells (opC o) 34)) w') := rformat_at o.amount ho.amount.1 ho.amount.2 _ (tab_below hT b0)
  clear hT ho
  obtain ⟨kd, ln, am, rt, cn, dy, tx⟩ := o
  simp only at CL ⊢
  go_enter Tryd.func23, Tryd.ntmps23
  go_wp2_with fail
  refine CL.out.mono ?_
  rintro e w1 ⟨rfl, b1⟩
  have b2 := below_trans b0 b1
  go_wp2_with fail
  go_ret2
  exact ⟨rfl, b2⟩
set_option maxRecDepth 40000 in
set_option maxHeartbeats 1000000 in
theorem rtell_5 (o : Cm) (w : World) : Calls Tryd.prog 23 #[opV o, .int .u8 84] w fun e w' => TellAns (tellS o 5) e ∧ Below w.heap.size w w' := by
  have b0 := below_alloc w (.cells (opC o) 34)
  obtain ⟨kd, ln, am, rt, cn, dy, tx⟩ := o
  show Calls _ _ _ _ fun e w' => TellAns (planW dy) e ∧ Below w.heap.size w w'
  by_cases h0 : dy = 0
  · have d0 : (dy == 0) = true := by rw [h0]; rfl
    have E : Hid (planW dy = some wLevel) := by show _ = _; rw [h0]; rfl
    rw [E.out]
    clear h0 E
    go_enter Tryd.func23, Tryd.ntmps23
    go_wp2_with fail
    go_ret2
    exact ⟨rfl, b0⟩
  have d0 : (dy == 0) = false := beq_eq_false_iff_ne.2 h0
  by_cases h1 : dy = 1
  · have d1 : (dy == 1) = true := by rw [h1]; rfl
    have E : Hid (planW dy = some wEqual) := by show _ = _; rw [h1]; rfl
    rw [E.out]
    clear h0 h1 E
    go_enter Tryd.func23, Tryd.ntmps23
    go_wp2_with fail
    go_ret2
    exact ⟨rfl, b0⟩
  have d1 : (dy == 1) = false := beq_eq_false_iff_ne.2 h1
  by_cases h2 : dy = 2
  · have d2 : (dy == 2) = true := by rw [h2]; rfl
    have E : Hid (planW dy = some wBalloon) := by show _ = _; rw [h2]; rfl
    rw [E.out]
    clear h0 h1 h2 E
    go_enter Tryd.func23, Tryd.ntmps23
    go_wp2_with fail
    go_quiet (fail)
    go_wp2_with fail
    go_ret2
    exact ⟨rfl, below_drewN b0 _⟩
  · have d2 : (dy == 2) = false := beq_eq_false_iff_ne.2 h2
    have E : Hid (planW dy = none) := by show _ = _; unfold planW; rw [if_neg h0, if_neg h1, if_neg h2]
    rw [E.out]
    clear h0 h1 h2 E
    go_enter Tryd.func23, Tryd.ntmps23
    go_wp2_with fail
    go_quiet (fail)
    go_wp2_with fail
    go_ret2
    exact ⟨⟨_, rfl⟩, below_drewN b0 _⟩
theorem clean_snoc {t : List UInt8} {i : Nat} (hi : i < t.length) (h : clean (t.take i) = true) (h1 : (t.getD i 0).toNat ≠ 32) (h2 : (t.getD i 0).toNat ≠ 10) : clean (t.take (i + 1)) = true := by
  unfold clean at h ⊢
  rw [List.take_add_one, List.all_append, h, List.getElem?_eq_getElem hi]
  rw [List.getD_eq_getElem?_getD, List.getElem?_eq_getElem hi] at h1 h2
  have e1 : t[i] ≠ 32 := fun e => h1 (by rw [e]; rfl)
  have e2 : t[i] ≠ 10 := fun e => h2 (by rw [e]; rfl)
  simp [e1, e2]
theorem clean_hit {t : List UInt8} {i : Nat} (hi : i < t.length) (h : (t.getD i 0).toNat = 32 ∨ (t.getD i 0).toNat = 10) : clean t = false := by
  unfold clean
  rw [List.all_eq_false]
  rw [List.getD_eq_getElem?_getD, List.getElem?_eq_getElem hi] at h
  refine ⟨t[i], List.getElem_mem hi, ?_⟩
  rcases h with e | e
  · have : t[i] = 32 := UInt8.toNat_inj.1 e
    rw [this]; decide
  · have : t[i] = 10 := UInt8.toNat_inj.1 e
    rw [this]; decide

set_option maxRecDepth 40000 in
set_option maxHeartbeats 2000000 in
theorem rtell_6 (o : Cm) (ht : o.text.length ≤ 200000) (w : World) : Calls Tryd.prog 23 #[opV o, .int .u8 70] w fun e w' => TellAns (tellS o 6) e ∧ Below w.heap.size w w' := by
  have b0 := below_alloc w (.cells (opC o) 34)
  have BK : Hid (Blk w.heap.size 34 (opL o) (w.alloc (.cells (opC o) 34))) := Blk.new 34 (opL o) w
  obtain ⟨kd, ln, am, rt, cn, dy, tx⟩ := o
  show Calls _ _ _ _ fun e w' => TellAns (letters tx) e ∧ Below w.heap.size w w'
  simp only at ht
  have IX : Hid (∀ i, i < tx.length → ∀ W, (Instr.index 9 (.string ⟨tx.toArray⟩) (.int .i64 ((i : Nat) : Int))).run Tryd.prog W = .ok (.int .u8 (((tx.getD i 0).toNat : Nat) : Int)) W) := fun i hi W => idx_str tx i hi W
  have CH : Hid (∀ i, i < tx.length → (tx.getD i 0).toNat = 32 ∨ (tx.getD i 0).toNat = 10 → clean tx = false) := fun i hi h => clean_hit hi h
  have CS : Hid (∀ i, i < tx.length → clean (tx.take i) = true → (tx.getD i 0).toNat ≠ 32 → (tx.getD i 0).toNat ≠ 10 → clean (tx.take (i + 1)) = true) := fun i hi h1 h2 h3 => clean_snoc hi h1 h2 h3
  have CE : Hid (clean (tx.take tx.length) = clean tx) := by show _ = _; rw [List.take_of_length_le (Nat.le_refl _)]
  have LI : Hid (letters tx = if tx.length = 0 then none else if clean tx then some tx else none) := rfl
  have hsz := str_size tx
  obtain ⟨N, hN⟩ : ∃ N, tx.length = N := ⟨_, rfl⟩
  rw [hN] at IX CH CS CE LI ht hsz
  clear hN
  go_enter Tryd.func23, Tryd.ntmps23
  go_wp2_with fail
  generalize hW : w.alloc (.cells #[.int .i64 kd, .int .i64 ln, .int .i64 am, .int .i64 rt, .int .i64 cn, .int .i64 dy, .string ⟨tx.toArray⟩] 34) = W
  have B1 : Hid (Below w.heap.size w W) := by rw [← hW]; exact b0
  have cc : W.cell? ⟨w.heap.size, 6, none⟩ = some (.string ⟨tx.toArray⟩) := by rw [← hW]; exact BK.out.cell 6 _ rfl
  have cl : w.heap.size < W.heap.size := by rw [← hW]; simp
  clear b0 BK hW
  go_loopw [7] (fun v7 wr => ∃ i : Nat, v7 = .int .i64 (i : Int) ∧ i ≤ N ∧ Hid (clean (tx.take i) = true) ∧ W = wr) (fun v7 _ => N - (RowKit.intOf v7).toNat)
  case atStart => exact ⟨0, rfl, by omega, rfl, rfl⟩
  case round =>
    obtain ⟨i, rfl, hi, HC, rfl⟩ := hrel
    by_cases hlt : (i : Int) < (N : Int)
    · have ix := IX.out i (by omega)
      have ch := CH.out i (by omega)
      have cs := CS.out i (by omega) HC.out
      have CH1 : Hid ((tx.getD i 0).toNat = 32 ∨ (tx.getD i 0).toNat = 10 → clean tx = false) := ch
      have CS1 : Hid ((tx.getD i 0).toNat ≠ 32 → (tx.getD i 0).toNat ≠ 10 → clean (tx.take (i + 1)) = true) := cs
      clear IX CH CS ch cs HC CE
      generalize (tx.getD i 0).toNat = x at *
      by_cases h32 : x = 32
      · have d : ((x : Int) == 32) = true := by rw [h32]; rfl
        have E : Hid (letters tx = none) := by show _ = _; rw [LI.out, if_neg (by omega), CH1.out (.inl h32)]; rfl
        clear h32 CH1 CS1 LI
        go_wp2_with fail
        go_ret2
        exact ⟨by rw [E.out]; exact ⟨_, rfl⟩, B1.out⟩
      have d : ((x : Int) == 32) = false := beq_eq_false_iff_ne.2 (by omega)
      by_cases h10 : x = 10
      · have d2 : ((x : Int) == 10) = true := by rw [h10]; rfl
        have E : Hid (letters tx = none) := by show _ = _; rw [LI.out, if_neg (by omega), CH1.out (.inr h10)]; rfl
        clear h10 CH1 CS1 LI
        go_wp2_with fail
        go_ret2
        exact ⟨by rw [E.out]; exact ⟨_, rfl⟩, B1.out⟩
      · have d2 : ((x : Int) == 10) = false := beq_eq_false_iff_ne.2 (by omega)
        have NX : Hid (clean (tx.take (i + 1)) = true) := CS1.out h32 h10
        clear CH1 CS1 LI
        go_wp2_with fail
        go_roundw
        case rel => exact ⟨i + 1, by go_num, by omega, NX, by first | trivial | rfl⟩
        case measure => simp [RowKit.intOf]; omega
    · obtain rfl : i = N := by omega
      have hc : clean tx = true := by rw [← CE.out]; exact HC.out
      clear IX CH CS CE HC
      by_cases h0 : i = 0
      · have d0 : decide ((0 : Int) < (i : Int)) = false := decide_eq_false (by omega)
        have d0' : decide (0 < i) = false := decide_eq_false (by omega)
        have E : Hid (letters tx = none) := by show _ = _; rw [LI.out, if_pos h0]
        clear LI
        go_wp2_with fail
        go_quiet (fail)
        go_wp2_with fail
        go_ret2
        exact ⟨by rw [E.out]; exact ⟨_, rfl⟩, below_drewN B1.out _⟩
      · have d0 : decide ((0 : Int) < (i : Int)) = true := decide_eq_true (by omega)
        have d0' : decide (0 < i) = true := decide_eq_true (by omega)
        have E : Hid (letters tx = some tx) := by show _ = _; rw [LI.out, if_neg h0, hc]; rfl
        clear LI
        go_wp2_with fail
        go_quiet (fail)
        go_wp2_with fail
        go_ret2
        exact ⟨by rw [E.out]; rfl, below_drewN B1.out _⟩
theorem rtell_at (o : Cm) (ho : o.Ok) (ht : o.text.length ≤ 200000) (s : Nat) (hs : s ≤ 6) (w : World) (hT : TabW w) : Calls Tryd.prog 23 #[opV o, .int .u8 (letN s : Int)] w fun e w' => TellAns (tellS o s) e ∧ Below w.heap.size w w' := by
  match s, hs with
  | 0, _ => exact rtell_0 o ho w
  | 1, _ => exact rtell_1 o ho w
  | 2, _ => exact rtell_2 o ho w
  | 3, _ => exact rtell_3 o ho w
  | 4, _ => exact rtell_4 o ho w hT
  | 5, _ => exact rtell_5 o w
  | 6, _ => exact rtell_6 o ht w
end Go.Proofs.YtaalpdfaljbaiaaDoor
