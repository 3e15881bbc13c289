/-
  Ours: script.tell (gen_sctel.py).
-/
import Derived.Test.YtkjnklagjhhhkaaGreatDoorScAny
namespace Go.Proofs.YtkjnklagjhhhkaaGreatDoor
open Go.RowKit Go.Lib ScF

theorem letters_is (t : List UInt8) : letters t = if (t.length == 0) = true then none else if clean t then some t else none := by
  unfold letters
  by_cases h : t.length = 0
  · rw [if_pos h, if_pos (by rw [h]; rfl)]
  · rw [if_neg h, if_neg (c := (t.length == 0) = true) (fun e => h (by simpa using e))]
theorem empty_iff (l : List UInt8) : (({ data := l.toArray } : ByteArray).toList.isEmpty) = (l.length == 0) := by
  rw [ByteArray.toList_eq]
  cases l <;> rfl

set_option maxRecDepth 40000 in
set_option maxHeartbeats 1000000 in
theorem tell_0 (o : Cm) (ho : o.Ok) (w : World) (hT : TabW w) : Calls Tryz.prog 18 #[opV o, .int .i64 0] w fun e w' => TellAns (tellS o 0) e ∧ Below w.heap.size w w' := by
  have b0 := below_alloc w (.cells (opC o) 24)
  have CL : Hid (Calls Tryz.prog 37 #[.int .i64 o.loan] (w.alloc (.cells (opC o) 24)) fun e w' => TellAns (wholeT o.loan) e ∧ Below (w.alloc (.cells (opC o) 24)).heap.size (w.alloc (.cells (opC o) 24)) w') := tellWhole_at o.loan ho.loan _ (tab_below hT b0)
  clear hT ho
  obtain ⟨kd, ln, am, rt, cn, dy, tx⟩ := o
  simp only at CL ⊢
  go_enter Tryz.func18, Tryz.ntmps18
  go_wp2_with fail
  refine CL.out.mono ?_
  rintro e w1 ⟨ha, b1⟩
  have b2 := below_trans b0 b1
  cases hw : wholeT ln with
  | none =>
    rw [hw] at ha
    obtain ⟨t, rfl⟩ := ha
    go_wp2_with fail
    go_ret2
    exact ⟨by simp only [tellS, hw]; exact ⟨_, rfl⟩, b2⟩
  | some l =>
    rw [hw] at ha
    obtain rfl := ha
    go_wp2_with fail
    go_ret2
    exact ⟨by simp only [tellS, hw]; rfl, b2⟩

set_option maxRecDepth 40000 in
set_option maxHeartbeats 1000000 in
theorem tell_1 (o : Cm) (ho : o.Ok) (w : World) (hT : TabW w) : Calls Tryz.prog 18 #[opV o, .int .i64 1] w fun e w' => TellAns (tellS o 1) e ∧ Below w.heap.size w w' := by
  have b0 := below_alloc w (.cells (opC o) 24)
  have CL : Hid (Calls Tryz.prog 38 #[.int .i64 o.rate] (w.alloc (.cells (opC o) 24)) fun e w' => TellAns (wholeT o.rate) e ∧ Below (w.alloc (.cells (opC o) 24)).heap.size (w.alloc (.cells (opC o) 24)) w') := tellWhole64_at o.rate ho.rate _ (tab_below hT b0)
  clear hT ho
  obtain ⟨kd, ln, am, rt, cn, dy, tx⟩ := o
  simp only at CL ⊢
  go_enter Tryz.func18, Tryz.ntmps18
  go_wp2_with fail
  refine CL.out.mono ?_
  rintro e w1 ⟨ha, b1⟩
  have b2 := below_trans b0 b1
  cases hw : wholeT rt with
  | none =>
    rw [hw] at ha
    obtain ⟨t, rfl⟩ := ha
    go_wp2_with fail
    go_ret2
    exact ⟨by simp only [tellS, hw]; exact ⟨_, rfl⟩, b2⟩
  | some l =>
    rw [hw] at ha
    obtain rfl := ha
    go_wp2_with fail
    go_ret2
    exact ⟨by simp only [tellS, hw]; rfl, b2⟩

set_option maxRecDepth 40000 in
set_option maxHeartbeats 1000000 in
theorem tell_2 (o : Cm) (ho : o.Ok) (w : World) (hT : TabW w) : Calls Tryz.prog 18 #[opV o, .int .i64 2] w fun e w' => TellAns (tellS o 2) e ∧ Below w.heap.size w w' := by
  have b0 := below_alloc w (.cells (opC o) 24)
  have CL : Hid (Calls Tryz.prog 37 #[.int .i64 o.count] (w.alloc (.cells (opC o) 24)) fun e w' => TellAns (wholeT o.count) e ∧ Below (w.alloc (.cells (opC o) 24)).heap.size (w.alloc (.cells (opC o) 24)) w') := tellWhole_at o.count ho.count _ (tab_below hT b0)
  clear hT ho
  obtain ⟨kd, ln, am, rt, cn, dy, tx⟩ := o
  simp only at CL ⊢
  go_enter Tryz.func18, Tryz.ntmps18
  go_wp2_with fail
  refine CL.out.mono ?_
  rintro e w1 ⟨ha, b1⟩
  have b2 := below_trans b0 b1
  cases hw : wholeT cn with
  | none =>
    rw [hw] at ha
    obtain ⟨t, rfl⟩ := ha
    go_wp2_with fail
    go_ret2
    exact ⟨by simp only [tellS, hw]; exact ⟨_, rfl⟩, b2⟩
  | some l =>
    rw [hw] at ha
    obtain rfl := ha
    go_wp2_with fail
    go_ret2
    exact ⟨by simp only [tellS, hw]; rfl, b2⟩

set_option maxRecDepth 40000 in
set_option maxHeartbeats 1000000 in
theorem tell_3 (o : Cm) (ho : o.Ok) (w : World) (hT : TabW w) : Calls Tryz.prog 18 #[opV o, .int .i64 3] w fun e w' => TellAns (tellS o 3) e ∧ Below w.heap.size w w' := by
  have b0 := below_alloc w (.cells (opC o) 24)
  have CL : Hid (Calls Tryz.prog 37 #[.int .i64 o.days] (w.alloc (.cells (opC o) 24)) fun e w' => TellAns (wholeT o.days) e ∧ Below (w.alloc (.cells (opC o) 24)).heap.size (w.alloc (.cells (opC o) 24)) w') := tellWhole_at o.days ho.days _ (tab_below hT b0)
  clear hT ho
  obtain ⟨kd, ln, am, rt, cn, dy, tx⟩ := o
  simp only at CL ⊢
  go_enter Tryz.func18, Tryz.ntmps18
  go_wp2_with fail
  refine CL.out.mono ?_
  rintro e w1 ⟨ha, b1⟩
  have b2 := below_trans b0 b1
  cases hw : wholeT dy with
  | none =>
    rw [hw] at ha
    obtain ⟨t, rfl⟩ := ha
    go_wp2_with fail
    go_ret2
    exact ⟨by simp only [tellS, hw]; exact ⟨_, rfl⟩, b2⟩
  | some l =>
    rw [hw] at ha
    obtain rfl := ha
    go_wp2_with fail
    go_ret2
    exact ⟨by simp only [tellS, hw]; rfl, b2⟩

set_option maxRecDepth 40000 in
set_option maxHeartbeats 1000000 in
theorem tell_4 (o : Cm) (ho : o.Ok) (w : World) (hT : TabW w) : Calls Tryz.prog 18 #[opV o, .int .i64 4] w fun e w' => TellAns (tellS o 4) e ∧ Below w.heap.size w w' := by
  have b0 := below_alloc w (.cells (opC o) 24)
  have CL : Hid (Calls Tryz.prog 39 #[.int .i64 o.amount] (w.alloc (.cells (opC o) 24)) fun e w' => e = .returned (.string ⟨(fmtL o.amount).toArray⟩) ∧ Below (w.alloc (.cells (opC o) 24)).heap.size (w.alloc (.cells (opC o) 24)) w') := format_at o.amount ho.amount.1 ho.amount.2 _ (tab_below hT b0)
  clear hT ho
  obtain ⟨kd, ln, am, rt, cn, dy, tx⟩ := o
  simp only at CL ⊢
  go_enter Tryz.func18, Tryz.ntmps18
  go_wp2_with fail
  refine CL.out.mono ?_
  rintro e w1 ⟨rfl, b1⟩
  have b2 := below_trans b0 b1
  go_wp2_with fail
  go_ret2
  exact ⟨rfl, b2⟩

set_option maxRecDepth 40000 in
set_option maxHeartbeats 1000000 in
theorem tell_5 (o : Cm) (w : World) (hP : PlnW w) : Calls Tryz.prog 18 #[opV o, .int .i64 5] w fun e w' => TellAns (tellS o 5) e ∧ Below w.heap.size w w' := by
  have b0 := below_alloc w (.cells (opC o) 24)
  have CL : Hid (Calls Tryz.prog 40 #[.int .i64 o.days] (w.alloc (.cells (opC o) 24)) fun e w' => TellAns (planW o.days) e ∧ w' = (w.alloc (.cells (opC o) 24))) := planWord_at o.days _ (hP.later b0)
  clear hP
  obtain ⟨kd, ln, am, rt, cn, dy, tx⟩ := o
  simp only at CL ⊢
  go_enter Tryz.func18, Tryz.ntmps18
  go_wp2_with fail
  refine CL.out.mono ?_
  rintro e w1 ⟨ha, hw⟩; rw [hw]; clear hw w1
  cases hw : planW dy with
  | none =>
    rw [hw] at ha
    obtain ⟨t, rfl⟩ := ha
    go_wp2_with fail
    go_ret2
    exact ⟨by simp only [tellS, hw]; exact ⟨_, rfl⟩, b0⟩
  | some l =>
    rw [hw] at ha
    obtain rfl := ha
    go_wp2_with fail
    go_ret2
    exact ⟨by simp only [tellS, hw]; rfl, b0⟩

set_option maxRecDepth 40000 in
set_option maxHeartbeats 1000000 in
theorem tell_6 (o : Cm) (ht : o.text.length ≤ 200000) (w : World) : Calls Tryz.prog 18 #[opV o, .int .i64 6] w fun e w' => TellAns (tellS o 6) e ∧ Below w.heap.size w w' := by
  have CA : Hid (∀ w1, Calls Tryz.prog 41 #[.string ⟨o.text.toArray⟩, .string chB] w1 fun e w' => e = .returned (.bool (!clean o.text)) ∧ Below w1.heap.size w1 w') := fun w1 => contAny_at ⟨o.text.toArray⟩ w1 (by show o.text.toArray.size < _; simp; omega)
  have EI := empty_iff o.text
  have LI : Hid (tellS o 6 = if (o.text.length == 0) = true then none else if clean o.text then some o.text else none) := letters_is o.text
  rw [LI.out]
  clear LI ht
  obtain ⟨kd, ln, am, rt, cn, dy, tx⟩ := o
  simp only at CA EI ⊢
  obtain ⟨sx, hsx⟩ : ∃ sx : ByteArray, ({ data := tx.toArray } : ByteArray) = sx := ⟨_, rfl⟩
  have HS : Hid (({ data := tx.toArray } : ByteArray) = sx) := hsx
  rw [hsx] at EI CA
  have b0 := below_alloc w (.cells #[.int .i64 kd, .int .i64 ln, .int .i64 am, .int .i64 rt, .int .i64 cn, .int .i64 dy, .string sx] 24)
  show Calls Tryz.prog _ #[.agg #[.int .i64 kd, .int .i64 ln, .int .i64 am, .int .i64 rt, .int .i64 cn, .int .i64 dy, .string ({ data := tx.toArray } : ByteArray)], .int .i64 6] w _
  rw [hsx]
  clear hsx
  generalize clean tx = cl at *
  generalize (tx.length == 0) = em at *
  have cc : (w.alloc (.cells #[.int .i64 kd, .int .i64 ln, .int .i64 am, .int .i64 rt, .int .i64 cn, .int .i64 dy, .string sx] 24)).cell? ⟨w.heap.size, 6, none⟩ = some (.string sx) := by simp
  cases em with
  | true =>
    rw [if_pos rfl]
    clear CA
    go_enter Tryz.func18, Tryz.ntmps18
    go_wp2_with fail
    go_quiet (fail)
    go_wp2_with fail
    go_ret2
    exact ⟨⟨_, rfl⟩, below_drewN b0 _⟩
  | false =>
    rw [if_neg (by decide)]
    cases cl with
    | true =>
      rw [if_pos rfl]
      go_enter Tryz.func18, Tryz.ntmps18
      go_wp2_with fail
      have B0 : Hid (Below w.heap.size w (w.alloc (.cells #[.int .i64 kd, .int .i64 ln, .int .i64 am, .int .i64 rt, .int .i64 cn, .int .i64 dy, .string sx] 24))) := b0
      have CC : Hid ((w.alloc (.cells #[.int .i64 kd, .int .i64 ln, .int .i64 am, .int .i64 rt, .int .i64 cn, .int .i64 dy, .string sx] 24)).cell? ⟨w.heap.size, 6, none⟩ = some (.string sx)) := cc
      have LT : w.heap.size < (w.alloc (.cells #[.int .i64 kd, .int .i64 ln, .int .i64 am, .int .i64 rt, .int .i64 cn, .int .i64 dy, .string sx] 24)).heap.size := by simp
      clear cc b0
      generalize (w.alloc (.cells #[.int .i64 kd, .int .i64 ln, .int .i64 am, .int .i64 rt, .int .i64 cn, .int .i64 dy, .string sx] 24)) = W at *
      have HK : Hid (∀ {a b : World}, (Below W.heap.size W a ∧ a.cell? ⟨w.heap.size, 6, none⟩ = some (.string sx)) → Below a.heap.size a b → (Below W.heap.size W b ∧ b.cell? ⟨w.heap.size, 6, none⟩ = some (.string sx))) := fun h k => ⟨below_trans h.1 k, (k.cell (p := ⟨w.heap.size, 6, none⟩) (Nat.lt_of_lt_of_le LT h.1.size)).trans h.2⟩
      have ST : Hid (Below W.heap.size W W.drew ∧ W.drew.cell? ⟨w.heap.size, 6, none⟩ = some (.string sx)) := ⟨Below.drew (Below.refl _ _), CC.out⟩
      go_region_held3 (fun w' => Below W.heap.size W w' ∧ w'.cell? ⟨w.heap.size, 6, none⟩ = some (.string sx)) (first | assumption | exact ST.out | exact HK.out (by assumption) hU) ((go_at_call 41; refine (CA.out _).mono ?_; rintro e w1 ⟨rfl, hU⟩))
      all_goals
        have hh : Below W.heap.size W w1 ∧ w1.cell? ⟨w.heap.size, 6, none⟩ = some (.string sx) := by assumption
        have B9 := below_trans B0.out hh.1
        clear hh
        go_wp2_with fail
        go_ret2
        refine ⟨?_, B9⟩
        show _ = _
        rw [HS.out]
        rfl
    | false =>
      rw [if_neg (by decide)]
      go_enter Tryz.func18, Tryz.ntmps18
      go_wp2_with fail
      have B0 : Hid (Below w.heap.size w (w.alloc (.cells #[.int .i64 kd, .int .i64 ln, .int .i64 am, .int .i64 rt, .int .i64 cn, .int .i64 dy, .string sx] 24))) := b0
      have CC : Hid ((w.alloc (.cells #[.int .i64 kd, .int .i64 ln, .int .i64 am, .int .i64 rt, .int .i64 cn, .int .i64 dy, .string sx] 24)).cell? ⟨w.heap.size, 6, none⟩ = some (.string sx)) := cc
      have LT : w.heap.size < (w.alloc (.cells #[.int .i64 kd, .int .i64 ln, .int .i64 am, .int .i64 rt, .int .i64 cn, .int .i64 dy, .string sx] 24)).heap.size := by simp
      clear cc b0
      generalize (w.alloc (.cells #[.int .i64 kd, .int .i64 ln, .int .i64 am, .int .i64 rt, .int .i64 cn, .int .i64 dy, .string sx] 24)) = W at *
      have HK : Hid (∀ {a b : World}, (Below W.heap.size W a ∧ a.cell? ⟨w.heap.size, 6, none⟩ = some (.string sx)) → Below a.heap.size a b → (Below W.heap.size W b ∧ b.cell? ⟨w.heap.size, 6, none⟩ = some (.string sx))) := fun h k => ⟨below_trans h.1 k, (k.cell (p := ⟨w.heap.size, 6, none⟩) (Nat.lt_of_lt_of_le LT h.1.size)).trans h.2⟩
      have ST : Hid (Below W.heap.size W W.drew ∧ W.drew.cell? ⟨w.heap.size, 6, none⟩ = some (.string sx)) := ⟨Below.drew (Below.refl _ _), CC.out⟩
      go_region_held3 (fun w' => Below W.heap.size W w' ∧ w'.cell? ⟨w.heap.size, 6, none⟩ = some (.string sx)) (first | assumption | exact ST.out | exact HK.out (by assumption) hU) ((go_at_call 41; refine (CA.out _).mono ?_; rintro e w1 ⟨rfl, hU⟩))
      all_goals
        have hh : Below W.heap.size W w1 ∧ w1.cell? ⟨w.heap.size, 6, none⟩ = some (.string sx) := by assumption
        have B9 := below_trans B0.out hh.1
        clear hh
        go_wp2_with fail
        go_ret2
        refine ⟨?_, B9⟩
        exact ⟨_, rfl⟩
theorem tell_at (o : Cm) (ho : o.Ok) (ht : o.text.length ≤ 200000) (s : Nat) (hs : s ≤ 6) (w : World) (hT : TabW w) (hP : PlnW w) : Calls Tryz.prog 18 #[opV o, .int .i64 (s : Int)] w fun e w' => TellAns (tellS o s) e ∧ Below w.heap.size w w' := by
  match s, hs with
  | 0, _ => exact tell_0 o ho w hT
  | 1, _ => exact tell_1 o ho w hT
  | 2, _ => exact tell_2 o ho w hT
  | 3, _ => exact tell_3 o ho w hT
  | 4, _ => exact tell_4 o ho w hT
  | 5, _ => exact tell_5 o w hP
  | 6, _ => exact tell_6 o ht w
theorem tell_atK (o : Cm) (ho : o.Ok) (s : Nat) (hs : s ≤ 6) (ht : s = 6 → o.text.length ≤ 200000) (w : World) (hT : TabW w) (hP : PlnW w) : Calls Tryz.prog 18 #[opV o, .int .i64 (s : Int)] w fun e w' => TellAns (tellS o s) e ∧ Below w.heap.size w w' := by
  match s, hs, ht with
  | 0, _, _ => exact tell_0 o ho w hT
  | 1, _, _ => exact tell_1 o ho w hT
  | 2, _, _ => exact tell_2 o ho w hT
  | 3, _, _ => exact tell_3 o ho w hT
  | 4, _, _ => exact tell_4 o ho w hT
  | 5, _, _ => exact tell_5 o w hP
  | 6, _, ht => exact tell_6 o (ht rfl) w
end Go.Proofs.YtkjnklagjhhhkaaGreatDoor
