/-
  Ours: the statement's few, plain, speakable, bare (gen_scspk.py).
-/
import Derived.Test.YtkjnklagjhhhkaaGreatDoorScOf
import Derived.Test.YtkjnklagjhhhkaaGreatDoorScRtl
namespace Go.Proofs.YtkjnklagjhhhkaaGreatDoor
open Go.RowKit Go.Lib ScF

namespace ScF
def fewP (n : Int) : Prop := -1000000000 < n ∧ n < 1000000000
instance (n : Int) : Decidable (fewP n) := inferInstanceAs (Decidable (_ ∧ _))
def plainB (t : List UInt8) : Bool := clean t && decide (0 < t.length) && decide (t.length ≤ 60)
def restB (o : Cm) : Bool := if o.kind = 1 then decide (0 ≤ o.days ∧ o.days ≤ 2) else if o.kind = 10 then plainB o.text else true
def spk (o : Cm) : Bool := decide (1 ≤ o.kind ∧ o.kind ≤ 21 ∧ fewP o.loan ∧ fewP o.count ∧ fewP o.days ∧ fewP o.rate) && restB o
end ScF
set_option maxRecDepth 40000 in
theorem few_yes (n : Int) (h : fewP n) (w : World) : Calls Tryz.prog 19 #[.int .i64 n] w fun e w' => e = .returned (.bool true) ∧ w' = w := by
  obtain ⟨h0, h1⟩ := h
  go_enter Tryz.func19, Tryz.ntmps19
  go_wp2_with fail
  go_ret
  exact ⟨rfl, rfl⟩
set_option maxRecDepth 40000 in
theorem few_no (n : Int) (h : ¬ fewP n) (w : World) : Calls Tryz.prog 19 #[.int .i64 n] w fun e w' => e = .returned (.bool false) ∧ w' = w := by
  by_cases h0 : -1000000000 < n
  · have h1 : ¬ n < 1000000000 := fun e => h ⟨h0, e⟩
    clear h
    have d1 : decide (n < 1000000000) = false := decide_eq_false h1
    go_enter Tryz.func19, Tryz.ntmps19
    go_wp2_with fail
    go_ret
    exact ⟨rfl, rfl⟩
  · clear h
    have d1 : decide (-1000000000 < n) = false := decide_eq_false h0
    go_enter Tryz.func19, Tryz.ntmps19
    go_wp2_with fail
    go_ret
    exact ⟨rfl, rfl⟩
set_option maxRecDepth 40000 in
set_option maxHeartbeats 2000000 in
theorem plain_at (tx : List UInt8) (ht : tx.length ≤ 9223372036854775807) (w : World) : Calls Tryz.prog 20 #[.string ⟨tx.toArray⟩] w fun e w' => e = .returned (.bool (plainB tx)) ∧ w' = w := by
  have IX : Hid (∀ i, i < tx.length → ∀ W, (Instr.index 9 (.string ⟨tx.toArray⟩) (.int .i64 ((i : Nat) : Int))).run Tryz.prog W = .ok (.int .u8 (((tx.getD i 0).toNat : Nat) : Int)) W) := fun i hi W => idx_str tx i hi W
  have CH : Hid (∀ i, i < tx.length → (tx.getD i 0).toNat = 32 ∨ (tx.getD i 0).toNat = 10 → clean tx = false) := fun i hi h => clean_hit hi h
  have CS : Hid (∀ i, i < tx.length → clean (tx.take i) = true → (tx.getD i 0).toNat ≠ 32 → (tx.getD i 0).toNat ≠ 10 → clean (tx.take (i + 1)) = true) := fun i hi h1 h2 h3 => clean_snoc hi h1 h2 h3
  have CE : Hid (clean (tx.take tx.length) = clean tx) := by show _ = _; rw [List.take_of_length_le (Nat.le_refl _)]
  have PB : Hid (plainB tx = (clean tx && decide (0 < tx.length) && decide (tx.length ≤ 60))) := rfl
  have hsz := str_size tx
  obtain ⟨N, hN⟩ : ∃ N, tx.length = N := ⟨_, rfl⟩
  rw [hN] at IX CH CS CE PB ht hsz
  clear hN
  go_enter Tryz.func20, Tryz.ntmps20
  go_wp2_with fail
  go_loopw [3] (fun v3 wr => ∃ i : Nat, v3 = .int .i64 (i : Int) ∧ i ≤ N ∧ Hid (clean (tx.take i) = true) ∧ w = wr) (fun v3 _ => N - (RowKit.intOf v3).toNat)
  case atStart => exact ⟨0, rfl, by omega, rfl, rfl⟩
  case round =>
    obtain ⟨i, rfl, hi, HC, rfl⟩ := hrel
    by_cases hlt : (i : Int) < (N : Int)
    · have ix := IX.out i (by omega)
      have CH1 : Hid ((tx.getD i 0).toNat = 32 ∨ (tx.getD i 0).toNat = 10 → clean tx = false) := CH.out i (by omega)
      have CS1 : Hid ((tx.getD i 0).toNat ≠ 32 → (tx.getD i 0).toNat ≠ 10 → clean (tx.take (i + 1)) = true) := CS.out i (by omega) HC.out
      clear IX CH CS HC CE
      generalize (tx.getD i 0).toNat = x at *
      by_cases h32 : x = 32
      · have d : ((x : Int) == 32) = true := by rw [h32]; rfl
        have E : Hid (plainB tx = false) := by show _ = _; rw [PB.out, CH1.out (.inl h32)]; rfl
        clear h32 CH1 CS1 PB
        go_wp2_with fail
        go_ret
        exact ⟨by rw [E.out]; rfl, rfl⟩
      have d : ((x : Int) == 32) = false := beq_eq_false_iff_ne.2 (by omega)
      by_cases h10 : x = 10
      · have d2 : ((x : Int) == 10) = true := by rw [h10]; rfl
        have E : Hid (plainB tx = false) := by show _ = _; rw [PB.out, CH1.out (.inr h10)]; rfl
        clear h10 CH1 CS1 PB
        go_wp2_with fail
        go_ret
        exact ⟨by rw [E.out]; rfl, rfl⟩
      · have d2 : ((x : Int) == 10) = false := beq_eq_false_iff_ne.2 (by omega)
        have NX : Hid (clean (tx.take (i + 1)) = true) := CS1.out h32 h10
        clear CH1 CS1 PB
        go_wp2_with fail
        go_roundw
        case rel => exact ⟨i + 1, by go_num, by omega, NX, by first | trivial | rfl⟩
        case measure => simp [RowKit.intOf]; omega
    · obtain rfl : i = N := by omega
      have hc : clean tx = true := by rw [← CE.out]; exact HC.out
      clear IX CH CS CE HC
      by_cases h0 : i = 0
      · have d0 : decide ((0 : Int) < (i : Int)) = false := decide_eq_false (by omega)
        have d0' : decide (0 < i) = false := decide_eq_false (by omega)
        have E : Hid (plainB tx = false) := by show _ = _; rw [PB.out, hc, d0']; rfl
        clear PB
        go_wp2_with fail
        go_ret
        exact ⟨by rw [E.out]; rfl, rfl⟩
      · have d0 : decide ((0 : Int) < (i : Int)) = true := decide_eq_true (by omega)
        have d0' : decide (0 < i) = true := decide_eq_true (by omega)
        by_cases h60 : i ≤ 60
        · have d1 : decide ((i : Int) ≤ 60) = true := decide_eq_true (by omega)
          have d1' : decide (i ≤ 60) = true := decide_eq_true h60
          have E : Hid (plainB tx = true) := by show _ = _; rw [PB.out, hc, d0', d1']; rfl
          clear PB
          go_wp2_with fail
          go_ret
          exact ⟨by rw [E.out]; rfl, rfl⟩
        · have d1 : decide ((i : Int) ≤ 60) = false := decide_eq_false (by omega)
          have d1' : decide (i ≤ 60) = false := decide_eq_false h60
          have E : Hid (plainB tx = false) := by show _ = _; rw [PB.out, hc, d0', d1']; rfl
          clear PB
          go_wp2_with fail
          go_ret
          exact ⟨by rw [E.out]; rfl, rfl⟩

set_option maxRecDepth 40000 in
set_option maxHeartbeats 4000000 in
theorem speak_at (o : Cm) (ht : o.text.length ≤ 9223372036854775807) (w : World) : Calls Tryz.prog 10 #[opV o] w fun e w' => e = .returned (.bool (spk o)) ∧ Below w.heap.size w w' := by
  have BB : Hid (Below w.heap.size w (w.alloc (.cells (opC o) 24))) := below_alloc w _
  have PL : Hid (∀ w', Calls Tryz.prog 20 #[.string ⟨o.text.toArray⟩] w' fun e w'' => e = .returned (.bool (plainB o.text)) ∧ w'' = w') := fun w' => plain_at o.text ht w'
  have SP : Hid (spk o = (decide (1 ≤ o.kind ∧ o.kind ≤ 21 ∧ fewP o.loan ∧ fewP o.count ∧ fewP o.days ∧ fewP o.rate) && restB o)) := rfl
  have RB : Hid (restB o = if o.kind = 1 then decide (0 ≤ o.days ∧ o.days ≤ 2) else if o.kind = 10 then plainB o.text else true) := rfl
  clear ht
  obtain ⟨kd, ln, am, rt, cn, dy, tx⟩ := o
  simp only at PL SP RB
  generalize plainB tx = pb at *
  by_cases h1 : kd < 1
  · have E : Hid (spk ⟨kd, ln, am, rt, cn, dy, tx⟩ = false) := by show _ = _; rw [SP.out, decide_eq_false (fun h => by omega)]; rfl
    clear SP RB PL
    go_enter Tryz.func10, Tryz.ntmps10
    go_wp2_with fail
    go_ret
    exact ⟨by rw [E.out]; rfl, BB.out⟩
  by_cases h2 : 21 < kd
  · have E : Hid (spk ⟨kd, ln, am, rt, cn, dy, tx⟩ = false) := by show _ = _; rw [SP.out, decide_eq_false (fun h => by omega)]; rfl
    clear SP RB PL
    go_enter Tryz.func10, Tryz.ntmps10
    go_wp2_with fail
    go_ret
    exact ⟨by rw [E.out]; rfl, BB.out⟩
  by_cases f0 : fewP ln
  case neg =>
    have E : Hid (spk ⟨kd, ln, am, rt, cn, dy, tx⟩ = false) := by show _ = _; rw [SP.out, decide_eq_false (fun h => f0 h.2.2.1)]; rfl
    have FN : Hid (∀ w, Calls Tryz.prog 19 #[.int .i64 ln] w fun e w' => e = .returned (.bool false) ∧ w' = w) := fun w => few_no ln f0 w
    clear SP RB PL f0
    go_enter Tryz.func10, Tryz.ntmps10
    go_wp2_with fail
    refine (FN.out _).mono ?_
    rintro e w1 ⟨rfl, hw⟩; rw [hw]; clear hw w1
    go_wp2_with fail
    go_ret
    exact ⟨by rw [E.out]; rfl, BB.out⟩
  have FY0 : Hid (∀ w, Calls Tryz.prog 19 #[.int .i64 ln] w fun e w' => e = .returned (.bool true) ∧ w' = w) := fun w => few_yes ln f0 w
  by_cases f1 : fewP cn
  case neg =>
    have E : Hid (spk ⟨kd, ln, am, rt, cn, dy, tx⟩ = false) := by show _ = _; rw [SP.out, decide_eq_false (fun h => f1 h.2.2.2.1)]; rfl
    have FN : Hid (∀ w, Calls Tryz.prog 19 #[.int .i64 cn] w fun e w' => e = .returned (.bool false) ∧ w' = w) := fun w => few_no cn f1 w
    clear SP RB PL f1
    go_enter Tryz.func10, Tryz.ntmps10
    go_wp2_with fail
    refine (FY0.out _).mono ?_
    rintro e w1 ⟨rfl, hw⟩; rw [hw]; clear hw w1
    go_wp2_with fail
    refine (FN.out _).mono ?_
    rintro e w1 ⟨rfl, hw⟩; rw [hw]; clear hw w1
    go_wp2_with fail
    go_ret
    exact ⟨by rw [E.out]; rfl, BB.out⟩
  have FY1 : Hid (∀ w, Calls Tryz.prog 19 #[.int .i64 cn] w fun e w' => e = .returned (.bool true) ∧ w' = w) := fun w => few_yes cn f1 w
  by_cases f2 : fewP dy
  case neg =>
    have E : Hid (spk ⟨kd, ln, am, rt, cn, dy, tx⟩ = false) := by show _ = _; rw [SP.out, decide_eq_false (fun h => f2 h.2.2.2.2.1)]; rfl
    have FN : Hid (∀ w, Calls Tryz.prog 19 #[.int .i64 dy] w fun e w' => e = .returned (.bool false) ∧ w' = w) := fun w => few_no dy f2 w
    clear SP RB PL f2
    go_enter Tryz.func10, Tryz.ntmps10
    go_wp2_with fail
    refine (FY0.out _).mono ?_
    rintro e w1 ⟨rfl, hw⟩; rw [hw]; clear hw w1
    go_wp2_with fail
    refine (FY1.out _).mono ?_
    rintro e w1 ⟨rfl, hw⟩; rw [hw]; clear hw w1
    go_wp2_with fail
    refine (FN.out _).mono ?_
    rintro e w1 ⟨rfl, hw⟩; rw [hw]; clear hw w1
    go_wp2_with fail
    go_ret
    exact ⟨by rw [E.out]; rfl, BB.out⟩
  have FY2 : Hid (∀ w, Calls Tryz.prog 19 #[.int .i64 dy] w fun e w' => e = .returned (.bool true) ∧ w' = w) := fun w => few_yes dy f2 w
  by_cases f3 : fewP rt
  case neg =>
    have E : Hid (spk ⟨kd, ln, am, rt, cn, dy, tx⟩ = false) := by show _ = _; rw [SP.out, decide_eq_false (fun h => f3 h.2.2.2.2.2)]; rfl
    have FN : Hid (∀ w, Calls Tryz.prog 19 #[.int .i64 rt] w fun e w' => e = .returned (.bool false) ∧ w' = w) := fun w => few_no rt f3 w
    clear SP RB PL f3
    go_enter Tryz.func10, Tryz.ntmps10
    go_wp2_with fail
    refine (FY0.out _).mono ?_
    rintro e w1 ⟨rfl, hw⟩; rw [hw]; clear hw w1
    go_wp2_with fail
    refine (FY1.out _).mono ?_
    rintro e w1 ⟨rfl, hw⟩; rw [hw]; clear hw w1
    go_wp2_with fail
    refine (FY2.out _).mono ?_
    rintro e w1 ⟨rfl, hw⟩; rw [hw]; clear hw w1
    go_wp2_with fail
    refine (FN.out _).mono ?_
    rintro e w1 ⟨rfl, hw⟩; rw [hw]; clear hw w1
    go_wp2_with fail
    go_ret
    exact ⟨by rw [E.out]; rfl, BB.out⟩
  have FY3 : Hid (∀ w, Calls Tryz.prog 19 #[.int .i64 rt] w fun e w' => e = .returned (.bool true) ∧ w' = w) := fun w => few_yes rt f3 w
  have SE : Hid (spk ⟨kd, ln, am, rt, cn, dy, tx⟩ = restB ⟨kd, ln, am, rt, cn, dy, tx⟩) := by show _ = _; rw [SP.out, decide_eq_true ⟨by omega, by omega, f0, f1, f2, f3⟩, Bool.true_and]
  clear SP f0 f1 f2 f3
  by_cases k1 : kd = 1
  · have dk : (kd == 1) = true := by rw [k1]; rfl
    by_cases g0 : 0 ≤ dy
    · by_cases g2 : dy ≤ 2
      · have d0 : decide (0 ≤ dy) = true := decide_eq_true g0
        have d2 : decide (dy ≤ 2) = true := decide_eq_true g2
        have E : Hid (spk ⟨kd, ln, am, rt, cn, dy, tx⟩ = true) := by show _ = _; rw [SE.out, RB.out, if_pos k1, decide_eq_true ⟨g0, g2⟩]
        clear SE RB PL k1
        go_enter Tryz.func10, Tryz.ntmps10
        go_wp2_with fail
        refine (FY0.out _).mono ?_
        rintro e w1 ⟨rfl, hw⟩; rw [hw]; clear hw w1
        go_wp2_with fail
        refine (FY1.out _).mono ?_
        rintro e w1 ⟨rfl, hw⟩; rw [hw]; clear hw w1
        go_wp2_with fail
        refine (FY2.out _).mono ?_
        rintro e w1 ⟨rfl, hw⟩; rw [hw]; clear hw w1
        go_wp2_with fail
        refine (FY3.out _).mono ?_
        rintro e w1 ⟨rfl, hw⟩; rw [hw]; clear hw w1
        go_wp2_with fail
        go_ret
        exact ⟨by rw [E.out]; rfl, BB.out⟩
      · have d0 : decide (0 ≤ dy) = true := decide_eq_true g0
        have d2 : decide (dy ≤ 2) = false := decide_eq_false g2
        have E : Hid (spk ⟨kd, ln, am, rt, cn, dy, tx⟩ = false) := by show _ = _; rw [SE.out, RB.out, if_pos k1, decide_eq_false (fun h => g2 h.2)]
        clear SE RB PL k1
        go_enter Tryz.func10, Tryz.ntmps10
        go_wp2_with fail
        refine (FY0.out _).mono ?_
        rintro e w1 ⟨rfl, hw⟩; rw [hw]; clear hw w1
        go_wp2_with fail
        refine (FY1.out _).mono ?_
        rintro e w1 ⟨rfl, hw⟩; rw [hw]; clear hw w1
        go_wp2_with fail
        refine (FY2.out _).mono ?_
        rintro e w1 ⟨rfl, hw⟩; rw [hw]; clear hw w1
        go_wp2_with fail
        refine (FY3.out _).mono ?_
        rintro e w1 ⟨rfl, hw⟩; rw [hw]; clear hw w1
        go_wp2_with fail
        go_ret
        exact ⟨by rw [E.out]; rfl, BB.out⟩
    · have d0 : decide (0 ≤ dy) = false := decide_eq_false g0
      have E : Hid (spk ⟨kd, ln, am, rt, cn, dy, tx⟩ = false) := by show _ = _; rw [SE.out, RB.out, if_pos k1, decide_eq_false (fun h => g0 h.1)]
      clear SE RB PL k1
      go_enter Tryz.func10, Tryz.ntmps10
      go_wp2_with fail
      refine (FY0.out _).mono ?_
      rintro e w1 ⟨rfl, hw⟩; rw [hw]; clear hw w1
      go_wp2_with fail
      refine (FY1.out _).mono ?_
      rintro e w1 ⟨rfl, hw⟩; rw [hw]; clear hw w1
      go_wp2_with fail
      refine (FY2.out _).mono ?_
      rintro e w1 ⟨rfl, hw⟩; rw [hw]; clear hw w1
      go_wp2_with fail
      refine (FY3.out _).mono ?_
      rintro e w1 ⟨rfl, hw⟩; rw [hw]; clear hw w1
      go_wp2_with fail
      go_ret
      exact ⟨by rw [E.out]; rfl, BB.out⟩
  have dk : (kd == 1) = false := beq_eq_false_iff_ne.2 k1
  by_cases k10 : kd = 10
  · have dt : (kd != 10) = false := by rw [k10]; rfl
    have E : Hid (spk ⟨kd, ln, am, rt, cn, dy, tx⟩ = pb) := by show _ = _; rw [SE.out, RB.out, if_neg k1, if_pos k10]
    clear SE RB k1 k10
    go_enter Tryz.func10, Tryz.ntmps10
    go_wp2_with fail
    refine (FY0.out _).mono ?_
    rintro e w1 ⟨rfl, hw⟩; rw [hw]; clear hw w1
    go_wp2_with fail
    refine (FY1.out _).mono ?_
    rintro e w1 ⟨rfl, hw⟩; rw [hw]; clear hw w1
    go_wp2_with fail
    refine (FY2.out _).mono ?_
    rintro e w1 ⟨rfl, hw⟩; rw [hw]; clear hw w1
    go_wp2_with fail
    refine (FY3.out _).mono ?_
    rintro e w1 ⟨rfl, hw⟩; rw [hw]; clear hw w1
    go_wp2_with fail
    refine (PL.out _).mono ?_
    rintro e w1 ⟨rfl, hw⟩; rw [hw]; clear hw w1
    go_wp2_with fail
    go_ret
    exact ⟨by rw [E.out]; rfl, BB.out⟩
  · have dt : (kd != 10) = true := bne_iff_ne.2 k10
    have E : Hid (spk ⟨kd, ln, am, rt, cn, dy, tx⟩ = true) := by show _ = _; rw [SE.out, RB.out, if_neg k1, if_neg k10]
    clear SE RB PL k1 k10
    go_enter Tryz.func10, Tryz.ntmps10
    go_wp2_with fail
    refine (FY0.out _).mono ?_
    rintro e w1 ⟨rfl, hw⟩; rw [hw]; clear hw w1
    go_wp2_with fail
    refine (FY1.out _).mono ?_
    rintro e w1 ⟨rfl, hw⟩; rw [hw]; clear hw w1
    go_wp2_with fail
    refine (FY2.out _).mono ?_
    rintro e w1 ⟨rfl, hw⟩; rw [hw]; clear hw w1
    go_wp2_with fail
    refine (FY3.out _).mono ?_
    rintro e w1 ⟨rfl, hw⟩; rw [hw]; clear hw w1
    go_wp2_with fail
    go_ret
    exact ⟨by rw [E.out]; rfl, BB.out⟩

theorem blk_mid (w : World) (T : TypeId) (cs : List Value) (a c : Obj) : Blk (w.heap.size + 1) T cs (((w.alloc a).alloc (.cells cs.toArray T)).alloc c) := (Blk.new2 T cs w a).below (below_alloc _ _)
set_option maxRecDepth 40000 in
set_option maxHeartbeats 4000000 in
theorem bare_at (o : Cm) (h1 : 1 ≤ o.kind) (h2 : o.kind ≤ 21) (w : World) : Calls Tryz.prog 11 #[opV o] w fun e w' => e = .returned (opV (bareC o)) ∧ Below w.heap.size w w' := by
  have bel : Hid (∀ a b c : Obj, Below w.heap.size w (((w.alloc a).alloc b).alloc c)) := fun a b c => below_trans (below_trans (below_alloc w a) (below_alloc _ b)) (below_alloc _ c)
  have IO := infoO0
  obtain ⟨kd, ln, am, rt, cn, dy, tx⟩ := o
  simp only at h1 h2
  have hk : kd = 1 ∨ kd = 2 ∨ kd = 3 ∨ kd = 4 ∨ kd = 5 ∨ kd = 6 ∨ kd = 7 ∨ kd = 8 ∨ kd = 9 ∨ kd = 10 ∨ kd = 11 ∨ kd = 12 ∨ kd = 13 ∨ kd = 14 ∨ kd = 15 ∨ kd = 16 ∨ kd = 17 ∨ kd = 18 ∨ kd = 19 ∨ kd = 20 ∨ kd = 21 := by omega
  clear h1 h2
  rcases hk with rfl | rfl | rfl | rfl | rfl | rfl | rfl | rfl | rfl | rfl | rfl | rfl | rfl | rfl | rfl | rfl | rfl | rfl | rfl | rfl | rfl
  · go_enter Tryz.func11, Tryz.ntmps11
    go_wp2_with fail
    refine ret_blk rfl rfl (w.heap.size + 1) 24 (opL (bareC ⟨1, ln, am, rt, cn, dy, tx⟩)) _ rfl (blk_mid w 24 (opL (bareC ⟨1, ln, am, rt, cn, dy, tx⟩)) _ _) Tryz.underlying24 rfl IO ?_
    exact ⟨rfl, bel.out _ _ _⟩
  · go_enter Tryz.func11, Tryz.ntmps11
    go_wp2_with fail
    refine ret_blk rfl rfl (w.heap.size + 1) 24 (opL (bareC ⟨2, ln, am, rt, cn, dy, tx⟩)) _ rfl (blk_mid w 24 (opL (bareC ⟨2, ln, am, rt, cn, dy, tx⟩)) _ _) Tryz.underlying24 rfl IO ?_
    exact ⟨rfl, bel.out _ _ _⟩
  · go_enter Tryz.func11, Tryz.ntmps11
    go_wp2_with fail
    refine ret_blk rfl rfl (w.heap.size + 1) 24 (opL (bareC ⟨3, ln, am, rt, cn, dy, tx⟩)) _ rfl (blk_mid w 24 (opL (bareC ⟨3, ln, am, rt, cn, dy, tx⟩)) _ _) Tryz.underlying24 rfl IO ?_
    exact ⟨rfl, bel.out _ _ _⟩
  · go_enter Tryz.func11, Tryz.ntmps11
    go_wp2_with fail
    refine ret_blk rfl rfl (w.heap.size + 1) 24 (opL (bareC ⟨4, ln, am, rt, cn, dy, tx⟩)) _ rfl (blk_mid w 24 (opL (bareC ⟨4, ln, am, rt, cn, dy, tx⟩)) _ _) Tryz.underlying24 rfl IO ?_
    exact ⟨rfl, bel.out _ _ _⟩
  · go_enter Tryz.func11, Tryz.ntmps11
    go_wp2_with fail
    refine ret_blk rfl rfl (w.heap.size + 1) 24 (opL (bareC ⟨5, ln, am, rt, cn, dy, tx⟩)) _ rfl (blk_mid w 24 (opL (bareC ⟨5, ln, am, rt, cn, dy, tx⟩)) _ _) Tryz.underlying24 rfl IO ?_
    exact ⟨rfl, bel.out _ _ _⟩
  · go_enter Tryz.func11, Tryz.ntmps11
    go_wp2_with fail
    refine ret_blk rfl rfl (w.heap.size + 1) 24 (opL (bareC ⟨6, ln, am, rt, cn, dy, tx⟩)) _ rfl (blk_mid w 24 (opL (bareC ⟨6, ln, am, rt, cn, dy, tx⟩)) _ _) Tryz.underlying24 rfl IO ?_
    exact ⟨rfl, bel.out _ _ _⟩
  · go_enter Tryz.func11, Tryz.ntmps11
    go_wp2_with fail
    refine ret_blk rfl rfl (w.heap.size + 1) 24 (opL (bareC ⟨7, ln, am, rt, cn, dy, tx⟩)) _ rfl (blk_mid w 24 (opL (bareC ⟨7, ln, am, rt, cn, dy, tx⟩)) _ _) Tryz.underlying24 rfl IO ?_
    exact ⟨rfl, bel.out _ _ _⟩
  · go_enter Tryz.func11, Tryz.ntmps11
    go_wp2_with fail
    refine ret_blk rfl rfl (w.heap.size + 1) 24 (opL (bareC ⟨8, ln, am, rt, cn, dy, tx⟩)) _ rfl (blk_mid w 24 (opL (bareC ⟨8, ln, am, rt, cn, dy, tx⟩)) _ _) Tryz.underlying24 rfl IO ?_
    exact ⟨rfl, bel.out _ _ _⟩
  · go_enter Tryz.func11, Tryz.ntmps11
    go_wp2_with fail
    refine ret_blk rfl rfl (w.heap.size + 1) 24 (opL (bareC ⟨9, ln, am, rt, cn, dy, tx⟩)) _ rfl (blk_mid w 24 (opL (bareC ⟨9, ln, am, rt, cn, dy, tx⟩)) _ _) Tryz.underlying24 rfl IO ?_
    exact ⟨rfl, bel.out _ _ _⟩
  · go_enter Tryz.func11, Tryz.ntmps11
    go_wp2_with fail
    refine ret_blk rfl rfl (w.heap.size + 1) 24 (opL (bareC ⟨10, ln, am, rt, cn, dy, tx⟩)) _ rfl (blk_mid w 24 (opL (bareC ⟨10, ln, am, rt, cn, dy, tx⟩)) _ _) Tryz.underlying24 rfl IO ?_
    exact ⟨rfl, bel.out _ _ _⟩
  · go_enter Tryz.func11, Tryz.ntmps11
    go_wp2_with fail
    refine ret_blk rfl rfl (w.heap.size + 1) 24 (opL (bareC ⟨11, ln, am, rt, cn, dy, tx⟩)) _ rfl (blk_mid w 24 (opL (bareC ⟨11, ln, am, rt, cn, dy, tx⟩)) _ _) Tryz.underlying24 rfl IO ?_
    exact ⟨rfl, bel.out _ _ _⟩
  · go_enter Tryz.func11, Tryz.ntmps11
    go_wp2_with fail
    refine ret_blk rfl rfl (w.heap.size + 1) 24 (opL (bareC ⟨12, ln, am, rt, cn, dy, tx⟩)) _ rfl (blk_mid w 24 (opL (bareC ⟨12, ln, am, rt, cn, dy, tx⟩)) _ _) Tryz.underlying24 rfl IO ?_
    exact ⟨rfl, bel.out _ _ _⟩
  · go_enter Tryz.func11, Tryz.ntmps11
    go_wp2_with fail
    refine ret_blk rfl rfl (w.heap.size + 1) 24 (opL (bareC ⟨13, ln, am, rt, cn, dy, tx⟩)) _ rfl (blk_mid w 24 (opL (bareC ⟨13, ln, am, rt, cn, dy, tx⟩)) _ _) Tryz.underlying24 rfl IO ?_
    exact ⟨rfl, bel.out _ _ _⟩
  · go_enter Tryz.func11, Tryz.ntmps11
    go_wp2_with fail
    refine ret_blk rfl rfl (w.heap.size + 1) 24 (opL (bareC ⟨14, ln, am, rt, cn, dy, tx⟩)) _ rfl (blk_mid w 24 (opL (bareC ⟨14, ln, am, rt, cn, dy, tx⟩)) _ _) Tryz.underlying24 rfl IO ?_
    exact ⟨rfl, bel.out _ _ _⟩
  · go_enter Tryz.func11, Tryz.ntmps11
    go_wp2_with fail
    refine ret_blk rfl rfl (w.heap.size + 1) 24 (opL (bareC ⟨15, ln, am, rt, cn, dy, tx⟩)) _ rfl (blk_mid w 24 (opL (bareC ⟨15, ln, am, rt, cn, dy, tx⟩)) _ _) Tryz.underlying24 rfl IO ?_
    exact ⟨rfl, bel.out _ _ _⟩
  · go_enter Tryz.func11, Tryz.ntmps11
    go_wp2_with fail
    refine ret_blk rfl rfl (w.heap.size + 1) 24 (opL (bareC ⟨16, ln, am, rt, cn, dy, tx⟩)) _ rfl (blk_mid w 24 (opL (bareC ⟨16, ln, am, rt, cn, dy, tx⟩)) _ _) Tryz.underlying24 rfl IO ?_
    exact ⟨rfl, bel.out _ _ _⟩
  · go_enter Tryz.func11, Tryz.ntmps11
    go_wp2_with fail
    refine ret_blk rfl rfl (w.heap.size + 1) 24 (opL (bareC ⟨17, ln, am, rt, cn, dy, tx⟩)) _ rfl (blk_mid w 24 (opL (bareC ⟨17, ln, am, rt, cn, dy, tx⟩)) _ _) Tryz.underlying24 rfl IO ?_
    exact ⟨rfl, bel.out _ _ _⟩
  · go_enter Tryz.func11, Tryz.ntmps11
    go_wp2_with fail
    refine ret_blk rfl rfl (w.heap.size + 1) 24 (opL (bareC ⟨18, ln, am, rt, cn, dy, tx⟩)) _ rfl (blk_mid w 24 (opL (bareC ⟨18, ln, am, rt, cn, dy, tx⟩)) _ _) Tryz.underlying24 rfl IO ?_
    exact ⟨rfl, bel.out _ _ _⟩
  · go_enter Tryz.func11, Tryz.ntmps11
    go_wp2_with fail
    refine ret_blk rfl rfl (w.heap.size + 1) 24 (opL (bareC ⟨19, ln, am, rt, cn, dy, tx⟩)) _ rfl (blk_mid w 24 (opL (bareC ⟨19, ln, am, rt, cn, dy, tx⟩)) _ _) Tryz.underlying24 rfl IO ?_
    exact ⟨rfl, bel.out _ _ _⟩
  · go_enter Tryz.func11, Tryz.ntmps11
    go_wp2_with fail
    refine ret_blk rfl rfl (w.heap.size + 1) 24 (opL (bareC ⟨20, ln, am, rt, cn, dy, tx⟩)) _ rfl (blk_mid w 24 (opL (bareC ⟨20, ln, am, rt, cn, dy, tx⟩)) _ _) Tryz.underlying24 rfl IO ?_
    exact ⟨rfl, bel.out _ _ _⟩
  · go_enter Tryz.func11, Tryz.ntmps11
    go_wp2_with fail
    refine ret_blk rfl rfl (w.heap.size + 1) 24 (opL (bareC ⟨21, ln, am, rt, cn, dy, tx⟩)) _ rfl (blk_mid w 24 (opL (bareC ⟨21, ln, am, rt, cn, dy, tx⟩)) _ _) Tryz.underlying24 rfl IO ?_
    exact ⟨rfl, bel.out _ _ _⟩
end Go.Proofs.YtkjnklagjhhhkaaGreatDoor
