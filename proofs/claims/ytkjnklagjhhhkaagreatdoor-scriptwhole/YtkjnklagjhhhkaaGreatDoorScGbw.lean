/-
  Ours: the walk of ScriptGivesBack (gen_scgbw.py).
-/
import Derived.Test.YtkjnklagjhhhkaaGreatDoorScSpk
namespace Go.Proofs.YtkjnklagjhhhkaaGreatDoor
open Go.RowKit Go.Lib ScF

namespace ScF
def lenB : Nat → Nat
  | 4 => 21
  | 5 => 7
  | 6 => 60
  | _ => 10
def sumB : List Nat → Nat
  | [] => 0
  | s :: r => lenB s + 1 + sumB r
theorem sum_le : ∀ k, k < 22 → (wordN k).length + sumB (slotN k) ≤ 100 := by decide
theorem few_itoa (n : Int) (h : fewP n) : wholeT n = some (itoa n) ∧ (itoa n).length ≤ 10 := by
  have h9 : (10 : Nat) ^ (8 + 1) = 1000000000 := by decide
  obtain ⟨h0, h1⟩ := h
  refine ⟨by unfold wholeT; rw [if_pos (by omega)], ?_⟩
  unfold itoa
  split
  · have := nDigits_le 8 n.natAbs (by omega)
    simp only [List.length_cons, decDigits_length]; omega
  · have := nDigits_le 8 n.toNat (by omega)
    rw [decDigits_length]; omega
theorem slot5 : ∀ k, k < 22 → 5 ∈ slotN k → k = 1 := by decide
theorem line_some (o : Cm) : ∀ (sl : List Nat) (l : List UInt8), (∀ s ∈ sl, ∃ t, tellS o s = some t ∧ t.length ≤ lenB s) → ∃ r, lineS o sl l = some r ∧ r.length ≤ l.length + sumB sl
  | [], l, _ => ⟨l, rfl, by simp [sumB]⟩
  | s :: sl, l, h => by
    obtain ⟨t, h1, h2⟩ := h s (by simp)
    obtain ⟨r, h3, h4⟩ := line_some o sl (l ++ 32 :: t) (fun u hu => h u (by simp [hu]))
    refine ⟨r, by rw [lineS, h1]; exact h3, ?_⟩
    simp only [List.length_append, List.length_cons, sumB] at h4 ⊢
    omega
theorem spk_some (o : Cm) (ho : o.Ok) (h : spk o = true) : ∃ l, fmtOp o = some l := by
  unfold spk at h
  rw [Bool.and_eq_true] at h
  obtain ⟨h1, h2⟩ := h
  obtain ⟨k1, k21, fl, fc, fd, fr⟩ := of_decide_eq_true h1
  obtain ⟨k, hk⟩ : ∃ k : Nat, o.kind = (k : Int) := ⟨o.kind.toNat, by omega⟩
  have hkk : o.kind.toNat = k := by omega
  have tl : ∀ s ∈ slotN k, ∃ t, tellS o s = some t ∧ t.length ≤ lenB s := fun s hs => by
    have h6 := slot_le k (by omega) s hs
    match s, h6, hs with
    | 0, _, _ => exact ⟨_, (few_itoa _ fl).1, (few_itoa _ fl).2⟩
    | 1, _, _ => exact ⟨_, (few_itoa _ fr).1, (few_itoa _ fr).2⟩
    | 2, _, _ => exact ⟨_, (few_itoa _ fc).1, (few_itoa _ fc).2⟩
    | 3, _, _ => exact ⟨_, (few_itoa _ fd).1, (few_itoa _ fd).2⟩
    | 4, _, _ => exact ⟨_, rfl, (fmt_parts o.amount ho.amount.1 ho.amount.2).1⟩
    | 5, _, hs =>
      have := slot5 k (by omega) hs
      unfold restB at h2
      rw [if_pos (by omega)] at h2
      obtain ⟨d0, d2⟩ := of_decide_eq_true h2
      have hd : o.days = 0 ∨ o.days = 1 ∨ o.days = 2 := by omega
      simp only [tellS]
      rcases hd with e | e | e
      · rw [e]; exact ⟨_, rfl, by decide⟩
      · rw [e]; exact ⟨_, rfl, by decide⟩
      · rw [e]; exact ⟨_, rfl, by decide⟩
    | 6, _, hs =>
      have := slot6 k (by omega) hs
      unfold restB at h2
      rw [if_neg (by omega), if_pos (by omega)] at h2
      unfold plainB at h2
      simp only [Bool.and_eq_true, decide_eq_true_eq] at h2
      exact ⟨o.text, by simp only [tellS, letters]; rw [if_neg (by omega), h2.1.1]; rfl, h2.2⟩
  obtain ⟨r, hr, hl⟩ := line_some o (slotN k) (wordN k) tl
  have := sum_le k (by omega)
  refine ⟨r, ?_⟩
  unfold fmtOp
  rw [if_pos ⟨k1, k21⟩, hkk, hr]
  exact if_pos (by omega)
theorem fmt_kind {o : Cm} {l : List UInt8} (h : fmtOp o = some l) : 1 ≤ o.kind ∧ o.kind ≤ 21 := by
  unfold fmtOp at h
  split at h
  · assumption
  · cases h
end ScF

set_option maxRecDepth 40000 in
set_option maxHeartbeats 4000000 in
theorem givesBack_any (o : Cm) (ho : o.Ok) (hm : o.text.length ≤ maxLen) (w : World) (hW : PWs w) : Calls Tryz.prog 4 #[opV o] w fun e w' => e = .returned (.bool true) ∧ Below w.heap.size w w' := by
  have b0 := below_alloc w (.cells (opC o) 24)
  have hsz := str_size o.text
  by_cases hl : (200000 : Int) < (o.text.length : Int)
  · clear hW ho
    unfold maxLen at hm
    obtain ⟨kd, ln, am, rt, cn, dy, tx⟩ := o
    simp only at hl hsz hm
    go_enter Tryz.func4, Tryz.ntmps4
    go_wp2_with fail
    go_ret
    exact ⟨rfl, b0⟩
  have hl' : o.text.length ≤ 200000 := by omega
  have F1 : Hid (Calls Tryz.prog 9 #[opV o] (w.alloc (.cells (opC o) 24)) fun e w' => FmtAns (fmtOp o) e ∧ Below (w.alloc (.cells (opC o) 24)).heap.size (w.alloc (.cells (opC o) 24)) w') := sformat_at o ho hl' _ (hW.later b0).tab (hW.later b0).pln (hW.later b0).cmd
  have BK : Hid (Blk w.heap.size 24 (opL o) (w.alloc (.cells (opC o) 24))) := Blk.new 24 (opL o) w
  have IO := infoO o
  cases hf : fmtOp o with
  | none =>
    have SN : spk o = false := by
      cases e : spk o with
      | false => rfl
      | true =>
        obtain ⟨l, h⟩ := spk_some o ho e
        rw [hf] at h
        cases h
    have SP : Hid (∀ w', Calls Tryz.prog 10 #[opV o] w' fun e w'' => e = .returned (.bool false) ∧ Below w'.heap.size w' w'') := fun w' => by
      have := speak_at o (by omega) w'
      rwa [SN] at this
    rw [hf] at F1
    clear hf SN hW ho hm
    obtain ⟨kd, ln, am, rt, cn, dy, tx⟩ := o
    simp only at hl hsz hl'
    go_enter Tryz.func4, Tryz.ntmps4
    go_wp2_with fail
    refine F1.out.mono ?_
    rintro e w1 ⟨rfl, b1⟩
    have RG : Hid (w1.rangeAt w.heap.size 0 (opL ⟨kd, ln, am, rt, cn, dy, tx⟩)) := (BK.out.below b1).all
    have b2 := below_trans b0 b1
    clear F1 BK b0 b1
    go_wp2_with (refine step_loadG (by rfl) 24 _ rfl w.heap.size 0 rfl (opL ⟨kd, ln, am, rt, cn, dy, tx⟩) _ RG.out Tryz.underlying24 rfl IO ?_)
    refine (SP.out _).mono ?_
    rintro e w2 ⟨rfl, b3⟩
    have b4 := below_trans b2 b3
    go_wp2_with fail
    go_ret
    exact ⟨rfl, b4⟩
  | some l =>
    obtain ⟨g1, g2⟩ := gives_back o ho l hf
    obtain ⟨k1, k21⟩ := fmt_kind hf
    have PP : Hid (∀ w', Below w.heap.size w w' → ∃ c W, (convert 9 22 (.string ⟨l.toArray⟩)).run Tryz.prog w' = .ok (.slice (some ⟨w'.heap.size, 0, none⟩) l.length c) W ∧ Below w'.heap.size w' W ∧ Calls Tryz.prog 7 #[.slice (some ⟨w'.heap.size, 0, none⟩) l.length c] W fun e w'' => e = .returned (.tuple #[opV (bareC o), .int .i64 0, .int .i64 0]) ∧ Below W.heap.size W w'') := fun w' hb => by
      obtain ⟨c, W, hcv, rd, b⟩ := conv_str l w'
      refine ⟨c, W, hcv, b, ?_⟩
      have := parse_at l _ _ c W rd (by unfold maxLen; omega) ((hW.later hb).later b)
      rw [g1] at this
      exact this
    have BR : Hid (∀ w', Calls Tryz.prog 11 #[opV o] w' fun e w'' => e = .returned (opV (bareC o)) ∧ Below w'.heap.size w' w'') := fun w' => bare_at o k1 k21 w'
    have EQ : Hid (∀ w', Calls Tryz.prog 8 #[opV (bareC o), opV (bareC o)] w' fun e w'' => e = .returned (.bool true) ∧ Below w'.heap.size w' w'') := fun w' => equal_yes _ _ rfl w'
    rw [hf] at F1
    clear hf g1 g2 hW ho hm k1 k21
    generalize bareC o = Q at *
    obtain ⟨qk, ql, qa, qr, qc, qd, qt⟩ := Q
    obtain ⟨kd, ln, am, rt, cn, dy, tx⟩ := o
    simp only at hl hsz hl'
    obtain ⟨LX, hLX⟩ : ∃ LX, ({ data := l.toArray } : ByteArray) = LX := ⟨_, rfl⟩
    have F2 : Hid (Calls Tryz.prog 9 #[opV ⟨kd, ln, am, rt, cn, dy, tx⟩] (w.alloc (.cells (opC ⟨kd, ln, am, rt, cn, dy, tx⟩) 24)) fun e w' => e = .returned (.tuple #[.string LX, .bool true]) ∧ Below (w.alloc (.cells (opC ⟨kd, ln, am, rt, cn, dy, tx⟩) 24)).heap.size (w.alloc (.cells (opC ⟨kd, ln, am, rt, cn, dy, tx⟩) 24)) w') := by rw [← hLX]; exact F1
    rw [hLX] at PP
    clear hLX
    generalize l.length = LN at *
    go_enter Tryz.func4, Tryz.ntmps4
    go_wp2_with fail
    refine F2.out.mono ?_
    rintro e w1 ⟨rfl, b1⟩
    have BK1 : Hid (Blk w.heap.size 24 (opL ⟨kd, ln, am, rt, cn, dy, tx⟩) w1) := BK.out.below b1
    have b2 := below_trans b0 b1
    obtain ⟨c2, W2, hcv, bW, hp⟩ := PP.out w1 b2
    have HP : Hid (Calls Tryz.prog 7 #[.slice (some ⟨w1.heap.size, 0, none⟩) LN c2] W2 fun e w'' => e = .returned (.tuple #[opV ⟨qk, ql, qa, qr, qc, qd, qt⟩, .int .i64 0, .int .i64 0]) ∧ Below W2.heap.size W2 w'') := hp
    have BK2 : Hid (Blk w.heap.size 24 (opL ⟨kd, ln, am, rt, cn, dy, tx⟩) W2) := BK1.out.below bW
    have b3 := below_trans b2 bW
    clear F1 F2 BK b0 b1 BK1 PP hp bW b2
    go_wp2_with fail
    refine HP.out.mono ?_
    rintro e w5 ⟨rfl, b5⟩
    have BK5 := BK2.out.below b5
    have B5 := below_trans b3 b5
    have bA := below_alloc w5 (.cells (opC ⟨qk, ql, qa, qr, qc, qd, qt⟩) 24)
    have BK6 : Hid (Blk w.heap.size 24 (opL ⟨kd, ln, am, rt, cn, dy, tx⟩) (w5.alloc (.cells (opC ⟨qk, ql, qa, qr, qc, qd, qt⟩) 24))) := BK5.below bA
    have BQ6 : Hid (Blk w5.heap.size 24 (opL ⟨qk, ql, qa, qr, qc, qd, qt⟩) (w5.alloc (.cells (opC ⟨qk, ql, qa, qr, qc, qd, qt⟩) 24))) := Blk.new 24 (opL ⟨qk, ql, qa, qr, qc, qd, qt⟩) w5
    have B6 : Hid (Below w.heap.size w (w5.alloc (.cells (opC ⟨qk, ql, qa, qr, qc, qd, qt⟩) 24))) := below_trans B5 bA
    clear HP hcv b3 b5 BK5 B5 bA BK2
    go_wp2_with fail
    generalize hW6 : w5.alloc (.cells #[.int .i64 qk, .int .i64 ql, .int .i64 qa, .int .i64 qr, .int .i64 qc, .int .i64 qd, .string ⟨qt.toArray⟩] 24) = W6
    have BK7 : Hid (Blk w.heap.size 24 (opL ⟨kd, ln, am, rt, cn, dy, tx⟩) W6) := by rw [← hW6]; exact BK6
    have BQ7 : Hid (Blk w5.heap.size 24 (opL ⟨qk, ql, qa, qr, qc, qd, qt⟩) W6) := by rw [← hW6]; exact BQ6
    have B7 : Hid (Below w.heap.size w W6) := by rw [← hW6]; exact B6
    clear BK6 BQ6 B6 hW6
    have l1 := BK7.out.lt
    have l5 := BQ7.out.lt
    have LT : Hid (w.heap.size < W6.heap.size ∧ w5.heap.size < W6.heap.size) := ⟨l1, l5⟩
    have ST : Hid (Below W6.heap.size W6 W6.drew ∧ W6.drew.cell? ⟨w.heap.size, 0, none⟩ = some (.int .i64 kd) ∧ W6.drew.cell? ⟨w.heap.size, 1, none⟩ = some (.int .i64 ln) ∧ W6.drew.cell? ⟨w.heap.size, 2, none⟩ = some (.int .i64 am) ∧ W6.drew.cell? ⟨w.heap.size, 3, none⟩ = some (.int .i64 rt) ∧ W6.drew.cell? ⟨w.heap.size, 4, none⟩ = some (.int .i64 cn) ∧ W6.drew.cell? ⟨w.heap.size, 5, none⟩ = some (.int .i64 dy) ∧ W6.drew.cell? ⟨w.heap.size, 6, none⟩ = some (.string ⟨tx.toArray⟩) ∧ W6.drew.cell? ⟨w5.heap.size, 0, none⟩ = some (.int .i64 qk) ∧ W6.drew.cell? ⟨w5.heap.size, 1, none⟩ = some (.int .i64 ql) ∧ W6.drew.cell? ⟨w5.heap.size, 2, none⟩ = some (.int .i64 qa) ∧ W6.drew.cell? ⟨w5.heap.size, 3, none⟩ = some (.int .i64 qr) ∧ W6.drew.cell? ⟨w5.heap.size, 4, none⟩ = some (.int .i64 qc) ∧ W6.drew.cell? ⟨w5.heap.size, 5, none⟩ = some (.int .i64 qd) ∧ W6.drew.cell? ⟨w5.heap.size, 6, none⟩ = some (.string ⟨qt.toArray⟩)) := by
      have h1 := BK7.out
      have h5 := BQ7.out
      exact ⟨Below.drew (Below.refl _ _), h1.cell 0 _ rfl, h1.cell 1 _ rfl, h1.cell 2 _ rfl, h1.cell 3 _ rfl, h1.cell 4 _ rfl, h1.cell 5 _ rfl, h1.cell 6 _ rfl, h5.cell 0 _ rfl, h5.cell 1 _ rfl, h5.cell 2 _ rfl, h5.cell 3 _ rfl, h5.cell 4 _ rfl, h5.cell 5 _ rfl, h5.cell 6 _ rfl⟩
    have HK : Hid (∀ {x y : World}, (Below W6.heap.size W6 x ∧ x.cell? ⟨w.heap.size, 0, none⟩ = some (.int .i64 kd) ∧ x.cell? ⟨w.heap.size, 1, none⟩ = some (.int .i64 ln) ∧ x.cell? ⟨w.heap.size, 2, none⟩ = some (.int .i64 am) ∧ x.cell? ⟨w.heap.size, 3, none⟩ = some (.int .i64 rt) ∧ x.cell? ⟨w.heap.size, 4, none⟩ = some (.int .i64 cn) ∧ x.cell? ⟨w.heap.size, 5, none⟩ = some (.int .i64 dy) ∧ x.cell? ⟨w.heap.size, 6, none⟩ = some (.string ⟨tx.toArray⟩) ∧ x.cell? ⟨w5.heap.size, 0, none⟩ = some (.int .i64 qk) ∧ x.cell? ⟨w5.heap.size, 1, none⟩ = some (.int .i64 ql) ∧ x.cell? ⟨w5.heap.size, 2, none⟩ = some (.int .i64 qa) ∧ x.cell? ⟨w5.heap.size, 3, none⟩ = some (.int .i64 qr) ∧ x.cell? ⟨w5.heap.size, 4, none⟩ = some (.int .i64 qc) ∧ x.cell? ⟨w5.heap.size, 5, none⟩ = some (.int .i64 qd) ∧ x.cell? ⟨w5.heap.size, 6, none⟩ = some (.string ⟨qt.toArray⟩)) → Below x.heap.size x y → (Below W6.heap.size W6 y ∧ y.cell? ⟨w.heap.size, 0, none⟩ = some (.int .i64 kd) ∧ y.cell? ⟨w.heap.size, 1, none⟩ = some (.int .i64 ln) ∧ y.cell? ⟨w.heap.size, 2, none⟩ = some (.int .i64 am) ∧ y.cell? ⟨w.heap.size, 3, none⟩ = some (.int .i64 rt) ∧ y.cell? ⟨w.heap.size, 4, none⟩ = some (.int .i64 cn) ∧ y.cell? ⟨w.heap.size, 5, none⟩ = some (.int .i64 dy) ∧ y.cell? ⟨w.heap.size, 6, none⟩ = some (.string ⟨tx.toArray⟩) ∧ y.cell? ⟨w5.heap.size, 0, none⟩ = some (.int .i64 qk) ∧ y.cell? ⟨w5.heap.size, 1, none⟩ = some (.int .i64 ql) ∧ y.cell? ⟨w5.heap.size, 2, none⟩ = some (.int .i64 qa) ∧ y.cell? ⟨w5.heap.size, 3, none⟩ = some (.int .i64 qr) ∧ y.cell? ⟨w5.heap.size, 4, none⟩ = some (.int .i64 qc) ∧ y.cell? ⟨w5.heap.size, 5, none⟩ = some (.int .i64 qd) ∧ y.cell? ⟨w5.heap.size, 6, none⟩ = some (.string ⟨qt.toArray⟩))) := fun {x y} h kk => by
      have lt1 : w.heap.size < x.heap.size := Nat.lt_of_lt_of_le LT.out.1 h.1.size
      have lt5 : w5.heap.size < x.heap.size := Nat.lt_of_lt_of_le LT.out.2 h.1.size
      have c1 : ∀ j, y.cell? ⟨w.heap.size, j, none⟩ = x.cell? ⟨w.heap.size, j, none⟩ := fun j => kk.cell (p := ⟨w.heap.size, j, none⟩) lt1
      have c5 : ∀ j, y.cell? ⟨w5.heap.size, j, none⟩ = x.cell? ⟨w5.heap.size, j, none⟩ := fun j => kk.cell (p := ⟨w5.heap.size, j, none⟩) lt5
      simp only [c1, c5]
      exact ⟨below_trans h.1 kk, h.2⟩
    clear BK7 BQ7 l1 l5
    go_region_held3 (fun w' => Below W6.heap.size W6 w' ∧ w'.cell? ⟨w.heap.size, 0, none⟩ = some (.int .i64 kd) ∧ w'.cell? ⟨w.heap.size, 1, none⟩ = some (.int .i64 ln) ∧ w'.cell? ⟨w.heap.size, 2, none⟩ = some (.int .i64 am) ∧ w'.cell? ⟨w.heap.size, 3, none⟩ = some (.int .i64 rt) ∧ w'.cell? ⟨w.heap.size, 4, none⟩ = some (.int .i64 cn) ∧ w'.cell? ⟨w.heap.size, 5, none⟩ = some (.int .i64 dy) ∧ w'.cell? ⟨w.heap.size, 6, none⟩ = some (.string ⟨tx.toArray⟩) ∧ w'.cell? ⟨w5.heap.size, 0, none⟩ = some (.int .i64 qk) ∧ w'.cell? ⟨w5.heap.size, 1, none⟩ = some (.int .i64 ql) ∧ w'.cell? ⟨w5.heap.size, 2, none⟩ = some (.int .i64 qa) ∧ w'.cell? ⟨w5.heap.size, 3, none⟩ = some (.int .i64 qr) ∧ w'.cell? ⟨w5.heap.size, 4, none⟩ = some (.int .i64 qc) ∧ w'.cell? ⟨w5.heap.size, 5, none⟩ = some (.int .i64 qd) ∧ w'.cell? ⟨w5.heap.size, 6, none⟩ = some (.string ⟨qt.toArray⟩)) (first | assumption | exact ST.out | exact HK.out (by assumption) hU) (first | (go_at_call 11; refine (BR.out _).mono ?_; rintro e w1 ⟨rfl, hU⟩) | (go_at_call 8; refine (EQ.out _).mono ?_; rintro e w2 ⟨rfl, hU⟩))
    all_goals
      have hh : Below W6.heap.size W6 w2 := And.left (by assumption)
      have B9 := below_trans B7.out hh
      clear hh
      go_wp2_with fail
      go_ret
      exact ⟨rfl, B9⟩
end Go.Proofs.YtkjnklagjhhhkaaGreatDoor
