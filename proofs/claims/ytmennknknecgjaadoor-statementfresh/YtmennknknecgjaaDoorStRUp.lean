/-
  Ours: the document's Upto (after LedRTot's Total).
-/
import Derived.Test.YtmennknknecgjaaDoorStUpt
namespace Go.Proofs.YtmennknknecgjaaDoor
open Go.RowKit LedM StM

namespace StM
def mN (ms : List (List Int)) (i : Nat) : List Int := ms.getD i []
theorem mN_at {ms : List (List Int)} {i : Nat} (h : i < ms.length) : ms[i]? = some (mN ms i) := by simp [mN, List.getD_eq_getElem?_getD, List.getElem?_eq_getElem h]
end StM
set_option maxRecDepth 20000 in
set_option maxHeartbeats 4000000 in
theorem rupto_at (ms : List (List Int)) (d : Int) (v : Value) (w : World) (h : RdMo w v ms) (ok : ∀ m ∈ ms, MoOk m) (hn : ms.length ≤ 1000000) : Calls Tryd.prog 27 #[v, .int .i64 d] w (UptAns ms d w) := by
  obtain ⟨i0, hi, hz0, hz1, hz2⟩ := info_parts infoL8
  have RD : Hid (∀ w', Below w.heap.size w w' → RdMo w' v ms) := fun w' hb => h.later hb
  obtain ⟨ao, cap, rfl, hcap, hno, _⟩ := h
  have CE : Hid (∀ w', Below w.heap.size w w' → ∀ i, i < ms.length → ∀ a : Nat, a < 12 → ∃ g o, ao = some ⟨g, o, none⟩ ∧ w'.cell? ⟨g, o + i * 14, none⟩ = some (.int .i64 ((mN ms i).getD 0 0)) ∧ w'.cell? ⟨g, o + i * 14 + 2 + a, none⟩ = some (.int .i64 ((mN ms i).getD (2 + a) 0))) := fun w' hb i hi a ha => by
    obtain ⟨ao', cap', e, _, _, H⟩ := RD.out w' hb
    injection e with e1 e2 e3
    subst e1
    have hm := mN_at hi
    have hml := (ok _ (List.mem_of_getElem? hm)).1
    obtain ⟨g, o, e, _, r⟩ := H i _ hm
    refine ⟨g, o, e, r 0 _ (bkL_at (by omega)), ?_⟩
    have := r (2 + a) _ (bkL_at (by omega))
    rwa [← Nat.add_assoc] at this
  have SU : Hid (∀ (a : Nat), a < 12 → ∀ base w' v', RowV 2 base w' v' (bkL (col (upl ms d) a)) → Calls Tryd.prog 41 #[v'] w' fun e w2 => e = .returned (.tuple #[.int .i64 (smV ((sumB (upl ms d)).getD a 0)), .bool (smOk ((sumB (upl ms d)).getD a 0))]) ∧ w2 = w') := fun a ha base w' v' h => by
    have := rsum_row h (col_i64 a (upl_ok ok d)) (by unfold col; rw [List.length_map]; have := upl_le ms d; omega)
    rw [sumB_at _ a ha]
    exact this
  have CK : Hid (∀ a i, i < ms.length → bkL (col (upl (ms.take (i + 1)) d) a) = bkL (col (upl (ms.take i) d) a) ++ if (mN ms i).getD 0 0 ≤ d then [.int .i64 ((mN ms i).getD (2 + a) 0)] else []) := fun a i hi => by
    rw [take_push (mN_at hi), upl_push]
    unfold col bkL
    split
    · simp [List.getD_eq_getElem?_getD, List.getElem?_drop]
    · simp
  have CLn : Hid (∀ a i, i ≤ ms.length → (bkL (col (upl (ms.take i) d) a)).length ≤ i) := fun a i hi => by rw [bkL_len]; unfold col; rw [List.length_map]; have := upl_le (ms.take i) d; rw [List.length_take] at this; omega
  have CF : Hid (∀ a, col (upl (ms.take ms.length) d) a = col (upl ms d) a) := fun a => by rw [List.take_length]
  unfold UptAns
  have S12 : Hid ((sumB (upl ms d)).length = 12) := sumB_len _
  generalize sumB (upl ms d) = S at *
  obtain ⟨L, hL⟩ : ∃ L, ms.length = L := ⟨_, rfl⟩
  rw [hL] at hcap hn CE CK CLn CF ⊢
  have B0 : Hid (Blk w.heap.size 27 (bkL zeroL) ((w.alloc z12o).alloc z12o) ∧ Blk (w.heap.size + 1) 27 (bkL (cT S 0)) ((w.alloc z12o).alloc z12o) ∧ Below w.heap.size w ((w.alloc z12o).alloc z12o)) := ⟨(Blk.new _ (bkL zeroL) w).old _, Blk.new2 _ (bkL zeroL) w _, (below_alloc w _).alloc (by simp) _⟩
  clear RD ok hL hno
  go_enter Tryd.func27, Tryd.ntmps27
  go_wp2_with fail
  go_loopw [7, 8, 9, 10, 11] (fun va _ _ _ _ wr => ∃ a : Nat, va = .int .i64 (a : Int) ∧ a ≤ 12 ∧ Hid (∀ j, j < a → smOk (S.getD j 0) = true) ∧ Blk w.heap.size 27 (bkL zeroL) wr ∧ Blk (w.heap.size + 1) 27 (bkL (cT S a)) wr ∧ Below w.heap.size w wr) (fun va _ _ _ _ _ => 12 - (intOf va).toNat)
  case atStart => exact ⟨0, rfl, by omega, fun j hj => by omega, B0.out⟩
  case round =>
    clear B0
    obtain ⟨a, rfl, ha, OKS, r0, c0, b0⟩ := hrel
    have SS : Hid (Blk w.heap.size 27 (bkL zeroL) wr ∧ Blk (w.heap.size + 1) 27 (bkL (cT S a)) wr ∧ Below w.heap.size w wr) := ⟨r0, c0, b0⟩
    clear r0 c0 b0
    by_cases hlt : (a : Int) < 12
    · have a0 : (0 : Int) ≤ (a : Int) := by omega
      obtain ⟨W, hW⟩ : ∃ y, y = wr := ⟨_, rfl⟩
      subst hW
      go_wp2_with fail
      go_loopw [8, 9] (fun vl vk wr => ∃ k : Nat, vk = .int .i64 (k : Int) ∧ k ≤ L ∧ RowV 2 W.heap.size wr vl (bkL (col (upl (ms.take k) d) a)) ∧ Below W.heap.size W wr) (fun _ vk _ => L - (intOf vk).toNat)
      case atStart => exact ⟨0, rfl, by omega, RowV.nil _ _ _, Below.refl _ _⟩
      case round =>
        obtain ⟨k, rfl, hk, rv, bb⟩ := hrel
        have BB : Hid (Below W.heap.size W wr) := bb
        by_cases hkl : (k : Int) < (L : Int)
        · obtain ⟨g, o, rfl, c0, cx⟩ := CE.out wr (below_trans SS.out.2.2 bb) k (by omega) a (by omega)
          have RV : Hid (RowV 2 W.heap.size wr u8 (bkL (col (upl (ms.take k) d) a))) := rv
          have CKk := CK.out a k (by omega)
          have ln := CLn.out a k hk
          have l1 : Hid ((bkL (col (upl (ms.take k) d) a)).length + 1 ≤ maxLen) := by show _ ≤ _; unfold maxLen; omega
          have l2 : Hid (((bkL (col (upl (ms.take k) d) a)).length + 1) * 8 ≤ 140737488355328) := by show _ ≤ _; omega
          clear ln rv bb CE CK CLn CF SU
          generalize (mN ms k).getD (2 + a) 0 = x at *
          generalize (mN ms k).getD 0 0 = y at *
          by_cases hd : y ≤ d
          · rw [if_pos hd] at CKk
            have CKk : Hid (_ = _) := CKk
            go_wp2_with (at_builtin; refine wpList_pushN rfl (.tmp 30) (.tmp 39) 67 rfl 2 i0 (.int .i64 0) 8 Tryd.underlying67 hi hz0 hz1 hz2 rfl W.heap.size u8 (bkL (col (upl (ms.take k) d) a)) (.int .i64 x) rfl rfl RV.out BB.out.size rfl l1.out l2.out ?_; intro v7 w7 r7 g7 _)
            go_roundw
            case rel => exact ⟨k + 1, by go_num, by omega, by rw [CKk.out]; exact r7, BB.out.grown g7 BB.out.size (fun q hq => (World.ownsRow.lt RV.out q hq).1)⟩
            case measure => simp [intOf]; omega
          · rw [if_neg hd, List.append_nil] at CKk
            have CKk : Hid (_ = _) := CKk
            have hd2 : decide (y ≤ d) = false := decide_eq_false hd
            go_wp2_with fail
            go_roundw
            case rel => exact ⟨k + 1, by go_num, by omega, by rw [CKk.out]; exact RV.out, BB.out⟩
            case measure => simp [intOf]; omega
        · obtain rfl : k = L := by omega
          rw [CF.out a] at rv
          have RV : Hid (RowV 2 W.heap.size wr u8 (bkL (col (upl ms d) a))) := rv
          have SX : Hid (Blk w.heap.size 27 (bkL zeroL) wr ∧ Blk (w.heap.size + 1) 27 (bkL (cT S a)) wr ∧ Below w.heap.size w wr) := ⟨SS.out.1.below bb, SS.out.2.1.below bb, below_trans SS.out.2.2 bb⟩
          have SA := SU.out a (by omega) _ _ _ RV.out
          have SA : Hid (Calls _ _ _ _ _) := SA
          clear rv bb BB CE CK CLn CF SU SS RV
          by_cases hs : smOk (S.getD a 0) = true
          · have hv : smV (S.getD a 0) = S.getD a 0 := by unfold smV; rw [hs]; rfl
            rw [hs, hv] at SA
            have OK2 : Hid (∀ j, j < a + 1 → smOk (S.getD j 0) = true) := fun j hj => by
              by_cases e : j = a
              · rw [e]; exact hs
              · exact OKS.out j (by omega)
            go_wp2_with fail
            refine SA.out.mono ?_
            rintro e w2 ⟨rfl, rfl⟩
            clear SA
            have cc := SX.out.2.1.cell a _ (bkL_at (by rw [cT_len]; omega))
            have fz := SX.out.2.1.fz a
            have NX : Hid (Blk w.heap.size 27 (bkL zeroL) (w2.setCell ⟨w.heap.size + 1, a, none⟩ (.int .i64 (S.getD a 0))) ∧ Blk (w.heap.size + 1) 27 (bkL (cT S (a + 1))) (w2.setCell ⟨w.heap.size + 1, a, none⟩ (.int .i64 (S.getD a 0))) ∧ Below w.heap.size w (w2.setCell ⟨w.heap.size + 1, a, none⟩ (.int .i64 (S.getD a 0)))) := by
              have g := setCell_grown w2 (w.heap.size + 1) a (.int .i64 (S.getD a 0))
              refine ⟨SX.out.1.grown g (by simp), ?_, SX.out.2.2.grown g SX.out.2.2.size (fun q e => by cases e; omega)⟩
              have := SX.out.2.1.set (i := a) (.int .i64 (S.getD a 0))
              have e : (bkL (cT S a)).set a (.int .i64 (S.getD a 0)) = bkL (cT S (a + 1)) := by show _ = bkL ((cT S a).set a (S.getD a 0)); unfold bkL; rw [List.map_set]
              rw [e] at this
              exact this
            generalize (cT S a).getD a 0 = old at *
            generalize S.getD a 0 = x at *
            go_wp2_with fail
            go_roundw
            case rel => exact ⟨a + 1, by go_num, by omega, OK2.out, NX.out⟩
            case measure => simp [intOf]; omega
          · have hs : smOk (S.getD a 0) = false := by simpa using hs
            have FF : Hid (fitsL S = false ∧ bookL S = zeroL) := by
              have e : fitsL S = false := fitsL_false (fun h => by have := h a (by omega); rw [hs] at this; cases this)
              exact ⟨e, by unfold bookL; rw [e]; rfl⟩
            rw [hs] at SA
            generalize smV (S.getD a 0) = y at *
            go_wp2_with fail
            refine SA.out.mono ?_
            rintro e w2 ⟨rfl, rfl⟩
            clear SA
            have NW : Hid (Blk w.heap.size 27 (bkL zeroL) (w2.alloc z12o) ∧ Below w.heap.size w (w2.alloc z12o) ∧ (w2.alloc z12o).rangeAt w2.heap.size 0 (bkL zeroL)) := ⟨SX.out.1.old _, SX.out.2.2.alloc SX.out.2.2.size _, (Blk.new _ (bkL zeroL) w2).all⟩
            clear SX OKS
            go_wp2_with (first
              | (refine step_load rfl 27 _ rfl w2.heap.size 0 rfl (bkL zeroL) _ NW.out.2.2 Tryd.underlying27 rfl (infoBl rfl) ?_)
              | (refine step_store rfl 27 _ _ rfl w.heap.size 0 27 (bkL zeroL) (bkL zeroL) rfl rfl NW.out.1 (Nat.le_refl _) (infoBl rfl) (bkL_one _) ?_; intro w9 nb9 g9; rw [store_all rfl] at nb9; have N9 : Hid (Blk w.heap.size 27 (bkL zeroL) w9 ∧ Below w.heap.size w w9) := ⟨nb9, below_row NW.out.2.1 g9 (Nat.le_refl _)⟩; clear nb9 g9))
            refine ret_blk_tmp rfl rfl w.heap.size 27 (bkL zeroL) _ rfl N9.out.1 Tryd.underlying27 rfl (infoBl rfl) ?_
            rw [FF.out.1, FF.out.2]
            exact ⟨rfl, N9.out.2⟩
    · obtain rfl : a = 12 := by omega
      have FF : Hid (fitsL S = true ∧ bookL S = S) := by
        have e : fitsL S = true := fitsL_true OKS.out
        exact ⟨e, by unfold bookL; rw [e]; rfl⟩
      rw [cT_all S12.out] at SS
      clear CE CK CLn CF SU
      go_wp2_with (first
        | (refine step_load rfl 27 _ rfl (w.heap.size + 1) 0 rfl (bkL S) _ SS.out.2.1.all Tryd.underlying27 rfl (infoBl S12.out) ?_)
        | (refine step_store rfl 27 _ _ rfl w.heap.size 0 27 (bkL zeroL) (bkL S) rfl rfl SS.out.1 (by rw [bkL_len, S12.out]; exact Nat.le_refl _) (infoBl S12.out) (bkL_one _) ?_; intro w9 nb9 g9; rw [store_all (by rw [bkL_len, S12.out]; rfl)] at nb9; have N9 : Hid (Blk w.heap.size 27 (bkL S) w9 ∧ Below w.heap.size w w9) := ⟨nb9, below_row SS.out.2.2 g9 (Nat.le_refl _)⟩; clear nb9 g9))
      refine ret_blk_tmp rfl rfl w.heap.size 27 (bkL S) _ rfl N9.out.1 Tryd.underlying27 rfl (infoBl S12.out) ?_
      rw [FF.out.1, FF.out.2]
      exact ⟨rfl, N9.out.2⟩
end Go.Proofs.YtmennknknecgjaaDoor
