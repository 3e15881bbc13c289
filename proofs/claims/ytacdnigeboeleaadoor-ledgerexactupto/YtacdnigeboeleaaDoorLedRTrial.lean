/-
  Ours: the document's Trial; the walk of LedgerTrials.
-/
import Derived.Test.YtacdnigeboeleaaDoorLedTrial
import Derived.Test.YtacdnigeboeleaaDoorRefSum
import Derived.Test.YtacdnigeboeleaaDoorWirNear
namespace Go.Proofs.YtacdnigeboeleaaDoor
open Go.RowKit LedM

theorem infoL : (Tryd.prog.info? 2).map (fun i => (i.zero, i.size, i.bytes)) = some (some (.int .i64 0), 1, 8) := by kernel_rfl
theorem RowV.row {e : TypeId} {base : Nat} {w : World} {v : Value} {xs : List Int} (h : RowV e base w v (bkL xs)) : Row e base w v xs := by
  unfold RowV at h
  rw [bkL_len] at h
  exact h
theorem rsum_row {e : TypeId} {base : Nat} {w : World} {v : Value} {xs : List Int} (h : RowV e base w v (bkL xs)) (hx : I64 xs) (hl : xs.length ≤ 4194304) :
    Calls Tryd.prog 34 #[v] w fun e w' => e = .returned (.tuple #[.int .i64 (smV (total xs)), .bool (smOk (total xs))]) ∧ w' = w := rsum_reads h.row.reads hx hl
theorem bkL_push (xs : List Int) (x : Int) : bkL (xs ++ [x]) = bkL xs ++ [.int .i64 x] := by simp [bkL]

namespace LedM
theorem rtr_ok (l : List Int) : (smOk (trD l) && (smOk (total (dns l)) && !(smV (total (dns l)) == -9223372036854775808))) = trOk l := by
  have := trC_pos l
  unfold trOk
  congr 1
  have e : trC l = -total (dns l) := rfl
  generalize trC l = c at *
  rw [show total (dns l) = -c from by omega]
  clear e
  unfold smV smOk
  by_cases h : -9223372036854775808 ≤ c ∧ c ≤ 9223372036854775807
  · rw [decide_eq_true h, decide_eq_true (p := -9223372036854775808 ≤ -c ∧ -c ≤ 9223372036854775807) (by omega)]
    simp; omega
  · rw [decide_eq_false h]
    by_cases h2 : -9223372036854775808 ≤ -c ∧ -c ≤ 9223372036854775807
    · rw [decide_eq_true h2]; simp; omega
    · rw [decide_eq_false h2]; simp
theorem rtr_val (l : List Int) (h : trOk l = true) : smV (trD l) = trD l ∧ wrap64 (-smV (total (dns l))) = trC l := by
  have e := rtr_ok l
  rw [h] at e
  simp only [Bool.and_eq_true] at e
  refine ⟨by unfold smV; rw [e.1]; rfl, ?_⟩
  have : smV (total (dns l)) = total (dns l) := by unfold smV; rw [e.2.1]; rfl
  rw [this]
  have k : smOk (trC l) = true := by unfold trOk at h; simp only [Bool.and_eq_true] at h; exact h.2
  have k2 : -9223372036854775808 ≤ trC l ∧ trC l ≤ 9223372036854775807 := of_decide_eq_true k
  show wrap64 (trC l) = trC l
  unfold wrap64; omega
end LedM

set_option maxHeartbeats 1000000 in
theorem rtrial_at (l : List Int) (w : World) (hl : BkOk l) : Calls Tryd.prog 30 #[.agg (bkL l).toArray] w fun e w' => e = .returned (trV l) ∧ Below w.heap.size w w' := by
  obtain ⟨i0, hi, hz0, hz1, hz2⟩ := info_parts infoL
  have lu : (ups l).length ≤ 12 := by have := List.length_filter_le (fun x => decide (0 < x)) l; rw [hl.1] at this; exact this
  have ld : (dns l).length ≤ 12 := by have := List.length_filter_le (fun x => !decide (0 < x)) l; rw [hl.1] at this; exact this
  have SU : Hid (∀ (w : World) v, RowV 2 0 w v (bkL (ups l)) → Calls Tryd.prog 34 #[v] w fun e w' => e = .returned (.tuple #[.int .i64 (smV (trD l)), .bool (smOk (trD l))]) ∧ w' = w) := fun w v h => rsum_row h (i64_filter _ hl.2) (by omega)
  have SD : Hid (∀ (w : World) v, RowV 2 0 w v (bkL (dns l)) → Calls Tryd.prog 34 #[v] w fun e w' => e = .returned (.tuple #[.int .i64 (smV (total (dns l))), .bool (smOk (total (dns l)))]) ∧ w' = w) := fun w v h => rsum_row h (i64_filter _ hl.2) (by omega)
  have CE : Hid (∀ k, k < 12 → ∀ wr : World, Blk w.heap.size 25 (bkL l) wr → wr.cell? ⟨w.heap.size, k, none⟩ = some (.int .i64 (l.getD k 0))) := fun k hk wr h => h.cell k _ (bkL_at (by rw [hl.1]; exact hk))
  have LY : Hid (∀ k, k < 12 → 0 < l.getD k 0 → ups (l.take (k + 1)) = ups (l.take k) ++ [l.getD k 0] ∧ dns (l.take (k + 1)) = dns (l.take k)) := fun k hk hx => ups_yes (by rw [hl.1]; exact hk) hx
  have LN : Hid (∀ k, k < 12 → l.getD k 0 ≤ 0 → ups (l.take (k + 1)) = ups (l.take k) ∧ dns (l.take (k + 1)) = dns (l.take k) ++ [l.getD k 0]) := fun k hk hx => ups_no (by rw [hl.1]; exact hk) (by omega)
  have LB : Hid (∀ k, (ups (l.take k)).length ≤ 12 ∧ (dns (l.take k)).length ≤ 12) := fun k => by
    have a := List.length_filter_le (fun x => decide (0 < x)) (l.take k)
    have b := List.length_filter_le (fun x => !decide (0 < x)) (l.take k)
    have c : (l.take k).length ≤ 12 := by rw [List.length_take, hl.1]; omega
    exact ⟨Nat.le_trans a c, Nat.le_trans b c⟩
  have HF : Hid (l.take 12 = l) := List.take_of_length_le (by rw [hl.1]; exact Nat.le_refl _)
  have NB0 : Hid (Blk w.heap.size 25 (bkL l) (w.alloc (.cells (bkL l).toArray 25))) := Blk.new 25 (bkL l) w
  have BB : Hid (Below w.heap.size w (w.alloc (.cells (bkL l).toArray 25))) := below_alloc w _
  clear hl lu ld
  unfold trV
  obtain ⟨x1, X1⟩ : ∃ x, Hid ((if trOk l then trD l else 0) = x) := ⟨_, rfl⟩
  obtain ⟨x2, X2⟩ : ∃ x, Hid ((if trOk l then trC l else 0) = x) := ⟨_, rfl⟩
  obtain ⟨K, XK⟩ : ∃ x, Hid (trOk l = x) := ⟨_, rfl⟩
  rw [X1.out, X2.out, XK.out]
  go_enter Tryd.func30, Tryd.ntmps30
  go_wp2_with fail
  go_loopw [5, 6, 7] (fun u d vk wr => ∃ k : Nat, vk = .int .i64 (k : Int) ∧ k ≤ 12 ∧ RowV 2 (w.heap.size + 1) wr u (bkL (ups (l.take k))) ∧ RowV 2 (w.heap.size + 1) wr d (bkL (dns (l.take k))) ∧ (∀ g, u.ownBlock = some g → d.ownBlock ≠ some g) ∧ Blk w.heap.size 25 (bkL l) wr ∧ Below w.heap.size w wr) (fun _ _ vk _ => 12 - (intOf vk).toNat)
  case atStart => exact ⟨0, rfl, by omega, RowV.nil _ _ _, RowV.nil _ _ _, (fun g h => by cases h), NB0.out, BB.out⟩
  case round =>
    clear NB0 BB
    obtain ⟨k, rfl, hk, ru, rd, ap, nb, bb⟩ := hrel
    have RU : Hid (RowV 2 (w.heap.size + 1) wr u5 (bkL (ups (l.take k)))) := ru
    have RD : Hid (RowV 2 (w.heap.size + 1) wr u6 (bkL (dns (l.take k)))) := rd
    have AP : Hid (∀ g, u5.ownBlock = some g → u6.ownBlock ≠ some g) := ap
    have NB : Hid (Blk w.heap.size 25 (bkL l) wr) := nb
    have BB : Hid (Below w.heap.size w wr) := bb
    clear ru rd ap nb bb
    have sz : w.heap.size + 1 ≤ wr.heap.size := NB.out.lt
    have lb := LB.out k
    have l1 : (bkL (ups (l.take k))).length + 1 ≤ maxLen := by rw [bkL_len]; unfold maxLen; omega
    have l2 : ((bkL (ups (l.take k))).length + 1) * 8 ≤ 140737488355328 := by rw [bkL_len]; omega
    have l3 : (bkL (dns (l.take k))).length + 1 ≤ maxLen := by rw [bkL_len]; unfold maxLen; omega
    have l4 : ((bkL (dns (l.take k))).length + 1) * 8 ≤ 140737488355328 := by rw [bkL_len]; omega
    clear lb
    by_cases hlt : (k : Int) < 12
    · have c0 := CE.out k (by omega) wr NB.out
      have ly : Hid (0 < l.getD k 0 → ups (l.take (k + 1)) = ups (l.take k) ++ [l.getD k 0] ∧ dns (l.take (k + 1)) = dns (l.take k)) := LY.out k (by omega)
      have ln : Hid (l.getD k 0 ≤ 0 → ups (l.take (k + 1)) = ups (l.take k) ∧ dns (l.take (k + 1)) = dns (l.take k) ++ [l.getD k 0]) := LN.out k (by omega)
      generalize l.getD k 0 = x at *
      by_cases hx : 0 < x
      · obtain ⟨ea, eb⟩ := ly.out hx
        have EA : Hid (bkL (ups (l.take (k + 1))) = bkL (ups (l.take k)) ++ [.int .i64 x]) := by show _ = _; rw [ea, bkL_push]
        have EB : Hid (bkL (dns (l.take (k + 1))) = bkL (dns (l.take k))) := by show _ = _; rw [eb]
        have d1 : decide (0 < x) = true := decide_eq_true hx
        clear ea eb ly ln hx
        generalize bkL (ups (l.take k)) = us at *
        generalize bkL (dns (l.take k)) = ds at *
        go_wp2_with (at_builtin; refine wpList_pushN rfl (.tmp 21) (.tmp 26) 68 rfl 2 i0 (.int .i64 0) 8 Tryd.underlying68 hi hz0 hz1 hz2 rfl (w.heap.size + 1) u5 us _ rfl rfl RU.out sz rfl l1 l2 ?_; intro v' w1 r1 g1 n1)
        go_roundw
        case rel =>
          have ge : ∀ g, u5.ownBlock = some g → w.heap.size + 1 ≤ g := fun g hg => RU.out.block_ge hg
          refine ⟨k + 1, by go_num, by omega, by rw [EA.out]; exact r1, by rw [EB.out]; exact RD.out.kept g1 (fun g hg e => AP.out g e hg), fun g hg hd => ?_, NB.out.grown g1 (fun e => by have := ge _ e; omega), BB.out.grown g1 (by omega) (fun g hg => by have := ge g hg; omega)⟩
          rcases n1 g hg with h1 | h1
          · exact AP.out g h1 hd
          · have := RD.out.block_lt hd; omega
        case measure => simp [intOf]; omega
      · obtain ⟨ea, eb⟩ := ln.out (by omega)
        have EA : Hid (bkL (dns (l.take (k + 1))) = bkL (dns (l.take k)) ++ [.int .i64 x]) := by show _ = _; rw [eb, bkL_push]
        have EB : Hid (bkL (ups (l.take (k + 1))) = bkL (ups (l.take k))) := by show _ = _; rw [ea]
        have d1 : decide (0 < x) = false := decide_eq_false hx
        clear ea eb ly ln hx
        generalize bkL (ups (l.take k)) = us at *
        generalize bkL (dns (l.take k)) = ds at *
        go_wp2_with (at_builtin; refine wpList_pushN rfl (.tmp 28) (.tmp 33) 68 rfl 2 i0 (.int .i64 0) 8 Tryd.underlying68 hi hz0 hz1 hz2 rfl (w.heap.size + 1) u6 ds _ rfl rfl RD.out sz rfl l3 l4 ?_; intro v' w1 r1 g1 n1)
        go_roundw
        case rel =>
          have ge : ∀ g, u6.ownBlock = some g → w.heap.size + 1 ≤ g := fun g hg => RD.out.block_ge hg
          refine ⟨k + 1, by go_num, by omega, by rw [EB.out]; exact RU.out.kept g1 (fun g hg e => AP.out g hg e), by rw [EA.out]; exact r1, fun g hg hd => ?_, NB.out.grown g1 (fun e => by have := ge _ e; omega), BB.out.grown g1 (by omega) (fun g hg => by have := ge g hg; omega)⟩
          rcases n1 g hd with h1 | h1
          · exact AP.out g hg h1
          · have := RU.out.block_lt hg; omega
        case measure => simp [intOf]; omega
    · obtain rfl : k = 12 := by omega
      have S1 : Hid (RowV 2 0 wr u5 (bkL (ups l))) := by have := RU.out.mono (Nat.zero_le _); rwa [HF.out] at this
      have S2 : Hid (RowV 2 0 wr u6 (bkL (dns l))) := by have := RD.out.mono (Nat.zero_le _); rwa [HF.out] at this
      clear hlt hk LY LN CE RU RD AP l1 l2 l3 l4 LB
      have E : Hid (K = (smOk (trD l) && (smOk (total (dns l)) && !(smV (total (dns l)) == -9223372036854775808))) ∧ (K = true → x1 = smV (trD l) ∧ x2 = wrap64 (-smV (total (dns l)))) ∧ (K = false → x1 = 0 ∧ x2 = 0)) := by
        show _ ∧ _ ∧ _
        refine ⟨XK.out.symm.trans (rtr_ok l).symm, fun h => ?_, fun h => ?_⟩
        · have ok := XK.out.trans h
          obtain ⟨a, b⟩ := rtr_val l ok
          rw [a, b, ← X1.out, ← X2.out, ok]; exact ⟨rfl, rfl⟩
        · have ok := XK.out.trans h
          rw [← X1.out, ← X2.out, ok]; exact ⟨rfl, rfl⟩
      clear X1 X2 XK
      have SU1 := SU.out wr u5 S1.out
      have SD1 := SD.out wr u6 S2.out
      have SU2 : Hid (Calls Tryd.prog 34 #[u5] wr fun e w' => e = .returned (.tuple #[.int .i64 (smV (trD l)), .bool (smOk (trD l))]) ∧ w' = wr) := SU1
      have SD2 : Hid (Calls Tryd.prog 34 #[u6] wr fun e w' => e = .returned (.tuple #[.int .i64 (smV (total (dns l))), .bool (smOk (total (dns l)))]) ∧ w' = wr) := SD1
      clear SU1 SD1 SU SD S1 S2
      generalize smV (trD l) = va at *
      generalize smV (total (dns l)) = vb at *
      generalize smOk (trD l) = ka at *
      generalize smOk (total (dns l)) = kb at *
      obtain ⟨kc, KC⟩ : ∃ k, (vb == -9223372036854775808) = k := ⟨_, rfl⟩
      rw [KC] at E
      go_wp2_with fail
      refine SU2.out.mono ?_
      rintro e w1 ⟨rfl, rfl⟩
      go_wp2_with fail
      refine SD2.out.mono ?_
      rintro e w1 ⟨rfl, rfl⟩
      clear SU2 SD2
      cases ka <;> cases kb <;> cases kc
      all_goals
        go_wp2_with fail
        go_ret3
        obtain ⟨e1, e2, e3⟩ := E.out
        simp at e1 e2 e3
        subst e1
        simp at e2 e3
        try (obtain ⟨rfl, rfl⟩ := e2)
        try (obtain ⟨rfl, rfl⟩ := e3)
        exact ⟨rfl, BB.out⟩

set_option maxHeartbeats 1000000 in
theorem trials_any (l : List Int) (w : World) (hl : BkOk l) : Calls Tryd.prog 9 #[.agg (bkL l).toArray] w fun e w' => e = .returned (.bool true) ∧ Below w.heap.size w w' := by
  have BB : Hid (Below w.heap.size w (w.alloc (.cells (bkL l).toArray 25))) := below_alloc w (.cells (bkL l).toArray 25)
  have NB : Hid (Blk w.heap.size 25 (bkL l) (w.alloc (.cells (bkL l).toArray 25))) := Blk.new 25 (bkL l) w
  have B1 : Hid (∀ w', Calls Tryd.prog 29 #[.agg (bkL l).toArray] w' fun e w2 => e = .returned (trV l) ∧ Below w'.heap.size w' w2) := fun w' => trial_at l w' hl
  have B2 : Hid (∀ w', Calls Tryd.prog 30 #[.agg (bkL l).toArray] w' fun e w2 => e = .returned (trV l) ∧ Below w'.heap.size w' w2) := fun w' => rtrial_at l w' hl
  have CI : Hid ((Tryd.prog.info? 25).map (·.size) = some (bkL l).length) := by show _ = _; rw [bkL_len, hl.1]; exact cellsBk
  unfold trV at *
  generalize (if trOk l then trD l else 0) = x at *
  generalize (if trOk l then trC l else 0) = y at *
  generalize trOk l = d at *
  generalize bkL l = cs at *
  clear hl
  have e1 : (x == x) = true := beq_self_eq_true x
  have e2 : (y == y) = true := beq_self_eq_true y
  have e3 : (d == d) = true := beq_self_eq_true d
  go_enter Tryd.func9, Tryd.ntmps9
  go_wp2_with (refine step_load rfl 25 _ rfl w.heap.size 0 rfl cs _ NB.out.all Tryd.underlying25 rfl CI.out ?_)
  refine (B1.out _).mono ?_
  rintro e w1 ⟨rfl, b1⟩
  have NB1 : Hid (Blk w.heap.size 25 cs w1) := NB.out.below b1
  have BB1 : Hid (Below w.heap.size w w1) := below_trans BB.out b1
  clear BB NB b1
  go_wp2_with (refine step_load rfl 25 _ rfl w.heap.size 0 rfl cs _ NB1.out.all Tryd.underlying25 rfl CI.out ?_)
  refine (B2.out _).mono ?_
  rintro e w2 ⟨rfl, b2⟩
  have BB2 : Hid (Below w.heap.size w w2) := below_trans BB1.out b2
  clear BB1 NB1 b2
  go_wp2_with fail
  go_ret
  exact ⟨rfl, BB2.out⟩
end Go.Proofs.YtacdnigeboeleaaDoor
