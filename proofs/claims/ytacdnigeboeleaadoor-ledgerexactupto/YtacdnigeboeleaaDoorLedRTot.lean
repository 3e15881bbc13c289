/-
  Ours: the document's Total.
-/
import Derived.Test.YtacdnigeboeleaaDoorLedTotal
import Derived.Test.YtacdnigeboeleaaDoorLedRTrial
import Derived.Test.YtacdnigeboeleaaDoorLedBkR
namespace Go.Proofs.YtacdnigeboeleaaDoor
open Go.RowKit LedM

namespace LedM
/-- The books so far: the first accounts' sums. -/
def cT (S : List Int) : Nat → List Int
  | 0 => zeroL
  | a + 1 => (cT S a).set a (S.getD a 0)
theorem cT_len (S : List Int) : ∀ a, (cT S a).length = 12
  | 0 => rfl
  | a + 1 => by unfold cT; rw [List.length_set]; exact cT_len S a
theorem cT_at (S : List Int) : ∀ a j, j < 12 → (cT S a).getD j 0 = if j < a then S.getD j 0 else 0
  | 0, j, hj => by
    rw [if_neg (by omega)]
    show zeroL.getD j 0 = 0
    unfold zeroL
    rw [List.getD_eq_getElem?_getD, List.getElem?_replicate, if_pos hj]; rfl
  | a + 1, j, hj => by
    have ih := cT_at S a j hj
    unfold cT
    rw [List.getD_eq_getElem?_getD, List.getElem?_set]
    by_cases e : a = j
    · subst e
      rw [if_pos rfl, if_pos (by rw [cT_len]; exact hj), if_pos (by omega)]; rfl
    · rw [if_neg e, ← List.getD_eq_getElem?_getD, ih]
      by_cases h : j < a
      · rw [if_pos h, if_pos (by omega)]
      · rw [if_neg h, if_neg (by omega)]
theorem cT_all {S : List Int} (h : S.length = 12) : cT S 12 = S := ext12 (cT_len _ _) h fun j hj => by rw [cT_at _ _ _ hj, if_pos hj]
def col (bs : List (List Int)) (a : Nat) : List Int := bs.map fun b => b.getD a 0
theorem col_take {bs : List (List Int)} {i : Nat} (a : Nat) (h : i < bs.length) : col (bs.take (i + 1)) a = col (bs.take i) a ++ [(bN bs i).getD a 0] := by
  unfold col; rw [take_bN h, List.map_append]; rfl
theorem col_i64 {bs : List (List Int)} (a : Nat) (ok : ∀ b ∈ bs, BkOk b) : I64 (col bs a) := fun k => by
  by_cases hk : k < (col bs a).length
  · have hm : (col bs a).getD k 0 ∈ col bs a := getD_mem k hk
    obtain ⟨b, hb, e⟩ := List.mem_map.1 hm
    rw [← e]
    exact (ok b hb).2 a
  · rw [List.getD_eq_getElem?_getD, List.getElem?_eq_none (by omega)]; exact ⟨by simp, by simp⟩
end LedM
theorem infoL8 : (Tryd.prog.info? 2).map (fun i => (i.zero, i.size, i.bytes)) = some (some (.int .i64 0), 1, 8) := by kernel_rfl
abbrev z12o : Obj := .cells #[.int .i64 0, .int .i64 0, .int .i64 0, .int .i64 0, .int .i64 0, .int .i64 0, .int .i64 0, .int .i64 0, .int .i64 0, .int .i64 0, .int .i64 0, .int .i64 0] 25

set_option maxRecDepth 20000 in
set_option maxHeartbeats 4000000 in
theorem rtotal_at (bs : List (List Int)) (v : Value) (w : World) (h : RdBk w v bs) (ok : ∀ b ∈ bs, BkOk b) (hn : bs.length ≤ 1048577) :
    Calls Tryd.prog 32 #[v] w fun e w' => e = .returned (.tuple #[.agg (bkL (bookL (sumB bs))).toArray, .bool (fitsL (sumB bs))]) ∧ Below w.heap.size w w' := by
  obtain ⟨i0, hi, hz0, hz1, hz2⟩ := info_parts infoL8
  have RD : Hid (∀ w', Below w.heap.size w w' → RdBk w' v bs) := fun w' hb => h.later hb
  obtain ⟨ao, cap, rfl, hcap, hno, _⟩ := h
  have CE : Hid (∀ w', Below w.heap.size w w' → ∀ i, i < bs.length → ∀ a : Nat, a < 12 → ∃ g o, ao = some ⟨g, o, none⟩ ∧ w'.cell? ⟨g, o + i * 12 + a, none⟩ = some (.int .i64 ((bN bs i).getD a 0))) := fun w' hb i hi a ha => by
    obtain ⟨ao', cap', e, _, _, H⟩ := RD.out w' hb
    injection e with e1 e2 e3
    subst e1
    obtain ⟨g, o, e, _, r⟩ := H i hi
    refine ⟨g, o, e, r a _ (bkL_at ?_)⟩
    rw [bN_at hi, (ok _ (List.getElem_mem hi)).1]; exact ha
  have SU : Hid (∀ (a : Nat), a < 12 → ∀ base w' v', RowV 2 base w' v' (bkL (col bs a)) → Calls Tryd.prog 34 #[v'] w' fun e w2 => e = .returned (.tuple #[.int .i64 (smV ((sumB bs).getD a 0)), .bool (smOk ((sumB bs).getD a 0))]) ∧ w2 = w') := fun a ha base w' v' h => by
    have := rsum_row h (col_i64 a ok) (by unfold col; rw [List.length_map]; omega)
    rw [sumB_at _ a ha]
    exact this
  have CK : Hid (∀ a i, i < bs.length → bkL (col (bs.take (i + 1)) a) = bkL (col (bs.take i) a) ++ [.int .i64 ((bN bs i).getD a 0)]) := fun a i hi => by rw [col_take a hi]; simp [bkL]
  have CLn : Hid (∀ a i, i ≤ bs.length → (bkL (col (bs.take i) a)).length = i) := fun a i hi => by rw [bkL_len]; unfold col; rw [List.length_map, List.length_take]; omega
  have CF : Hid (∀ a, col (bs.take bs.length) a = col bs a) := fun a => by rw [List.take_length]
  have S12 : Hid ((sumB bs).length = 12) := sumB_len bs
  generalize sumB bs = S at *
  obtain ⟨L, hL⟩ : ∃ L, bs.length = L := ⟨_, rfl⟩
  rw [hL] at hcap hn CE CK CLn CF ⊢
  have B0 : Hid (Blk w.heap.size 25 (bkL zeroL) ((w.alloc z12o).alloc z12o) ∧ Blk (w.heap.size + 1) 25 (bkL (cT S 0)) ((w.alloc z12o).alloc z12o) ∧ Below w.heap.size w ((w.alloc z12o).alloc z12o)) := ⟨(Blk.new _ (bkL zeroL) w).old _, Blk.new2 _ (bkL zeroL) w _, (below_alloc w _).alloc (by simp) _⟩
  clear RD ok hL hno
  go_enter Tryd.func32, Tryd.ntmps32
  go_wp2_with fail
  go_loopw [5, 6, 7, 8, 9] (fun va _ _ _ _ wr => ∃ a : Nat, va = .int .i64 (a : Int) ∧ a ≤ 12 ∧ Hid (∀ j, j < a → smOk (S.getD j 0) = true) ∧ Blk w.heap.size 25 (bkL zeroL) wr ∧ Blk (w.heap.size + 1) 25 (bkL (cT S a)) wr ∧ Below w.heap.size w wr) (fun va _ _ _ _ _ => 12 - (intOf va).toNat)
  case atStart => exact ⟨0, rfl, by omega, fun j hj => by omega, B0.out⟩
  case round =>
    clear B0
    obtain ⟨a, rfl, ha, OKS, r0, c0, b0⟩ := hrel
    have SS : Hid (Blk w.heap.size 25 (bkL zeroL) wr ∧ Blk (w.heap.size + 1) 25 (bkL (cT S a)) wr ∧ Below w.heap.size w wr) := ⟨r0, c0, b0⟩
    clear r0 c0 b0
    by_cases hlt : (a : Int) < 12
    · have a0 : (0 : Int) ≤ (a : Int) := by omega
      obtain ⟨W, hW⟩ : ∃ y, y = wr := ⟨_, rfl⟩
      subst hW
      go_wp2_with fail
      go_loopw [6, 7] (fun vl vk wr => ∃ k : Nat, vk = .int .i64 (k : Int) ∧ k ≤ L ∧ RowV 2 W.heap.size wr vl (bkL (col (bs.take k) a)) ∧ Below W.heap.size W wr) (fun _ vk _ => L - (intOf vk).toNat)
      case atStart => exact ⟨0, rfl, by omega, RowV.nil _ _ _, Below.refl _ _⟩
      case round =>
        obtain ⟨k, rfl, hk, rv, bb⟩ := hrel
        have BB : Hid (Below W.heap.size W wr) := bb
        by_cases hkl : (k : Int) < (L : Int)
        · obtain ⟨g, o, rfl, cx⟩ := CE.out wr (below_trans SS.out.2.2 bb) k (by omega) a (by omega)
          have RV : Hid (RowV 2 W.heap.size wr u6 (bkL (col (bs.take k) a))) := rv
          have CKk : Hid (bkL (col (bs.take (k + 1)) a) = bkL (col (bs.take k) a) ++ [.int .i64 ((bN bs k).getD a 0)]) := CK.out a k (by omega)
          have ln := CLn.out a k hk
          have l1 : Hid ((bkL (col (bs.take k) a)).length + 1 ≤ maxLen) := by show _ ≤ _; unfold maxLen; omega
          have l2 : Hid (((bkL (col (bs.take k) a)).length + 1) * 8 ≤ 140737488355328) := by show _ ≤ _; omega
          clear ln rv bb CE CK CLn CF SU
          generalize (bN bs k).getD a 0 = x at *
          go_wp2_with (at_builtin; refine wpList_pushN rfl (.tmp 20) (.tmp 28) 68 rfl 2 i0 (.int .i64 0) 8 Tryd.underlying68 hi hz0 hz1 hz2 rfl W.heap.size u6 (bkL (col (bs.take k) a)) (.int .i64 x) rfl rfl RV.out BB.out.size rfl l1.out l2.out ?_; intro v7 w7 r7 g7 _)
          go_roundw
          case rel => exact ⟨k + 1, by go_num, by omega, by rw [CKk.out]; exact r7, BB.out.grown g7 BB.out.size (fun q hq => (World.ownsRow.lt RV.out q hq).1)⟩
          case measure => simp [intOf]; omega
        · obtain rfl : k = L := by omega
          rw [CF.out a] at rv
          have RV : Hid (RowV 2 W.heap.size wr u6 (bkL (col bs a))) := rv
          have SX : Hid (Blk w.heap.size 25 (bkL zeroL) wr ∧ Blk (w.heap.size + 1) 25 (bkL (cT S a)) wr ∧ Below w.heap.size w wr) := ⟨SS.out.1.below bb, SS.out.2.1.below bb, below_trans SS.out.2.2 bb⟩
          have SA := SU.out a (by omega) _ _ _ RV.out
          have SA : Hid (Calls _ _ _ _ _) := SA
          clear rv bb BB CE CK CLn CF SU SS RV
          by_cases hs : smOk (S.getD a 0) = true
          · have hv : smV (S.getD a 0) = S.getD a 0 := by unfold smV; rw [hs]; rfl
            rw [hs, hv] at SA
            have OK2 : Hid (∀ j, j < a + 1 → smOk (S.getD j 0) = true) := fun j hj => by
              by_cases e : j = a
              · rw [e]; exact hs
              · exact OKS.out j (by omega)
            go_wp2_with fail
            refine SA.out.mono ?_
            rintro e w2 ⟨rfl, rfl⟩
            clear SA
            have cc := SX.out.2.1.cell a _ (bkL_at (by rw [cT_len]; omega))
            have fz := SX.out.2.1.fz a
            have NX : Hid (Blk w.heap.size 25 (bkL zeroL) (w2.setCell ⟨w.heap.size + 1, a, none⟩ (.int .i64 (S.getD a 0))) ∧ Blk (w.heap.size + 1) 25 (bkL (cT S (a + 1))) (w2.setCell ⟨w.heap.size + 1, a, none⟩ (.int .i64 (S.getD a 0))) ∧ Below w.heap.size w (w2.setCell ⟨w.heap.size + 1, a, none⟩ (.int .i64 (S.getD a 0)))) := by
              have g := setCell_grown w2 (w.heap.size + 1) a (.int .i64 (S.getD a 0))
              refine ⟨SX.out.1.grown g (by simp), ?_, SX.out.2.2.grown g SX.out.2.2.size (fun q e => by cases e; omega)⟩
              have := SX.out.2.1.set (i := a) (.int .i64 (S.getD a 0))
              have e : (bkL (cT S a)).set a (.int .i64 (S.getD a 0)) = bkL (cT S (a + 1)) := by show _ = bkL ((cT S a).set a (S.getD a 0)); unfold bkL; rw [List.map_set]
              rw [e] at this
              exact this
            generalize (cT S a).getD a 0 = old at *
            generalize S.getD a 0 = x at *
            go_wp2_with fail
            go_roundw
            case rel => exact ⟨a + 1, by go_num, by omega, OK2.out, NX.out⟩
            case measure => simp [intOf]; omega
          · have hs : smOk (S.getD a 0) = false := by simpa using hs
            have FF : Hid (fitsL S = false ∧ bookL S = zeroL) := by
              have e : fitsL S = false := fitsL_false (fun h => by have := h a (by omega); rw [hs] at this; cases this)
              exact ⟨e, by unfold bookL; rw [e]; rfl⟩
            rw [hs] at SA
            generalize smV (S.getD a 0) = y at *
            go_wp2_with fail
            refine SA.out.mono ?_
            rintro e w2 ⟨rfl, rfl⟩
            clear SA
            go_wp2_with (refine step_store rfl 25 _ _ rfl w.heap.size 0 25 (bkL zeroL) (bkL zeroL) rfl rfl SX.out.1 (Nat.le_refl _) (infoBl rfl) (bkL_one _) ?_; intro w9 nb9 g9; rw [store_all rfl] at nb9; have N9 : Hid (Blk w.heap.size 25 (bkL zeroL) w9 ∧ Below w.heap.size w w9) := ⟨nb9, below_row SX.out.2.2 g9 (Nat.le_refl _)⟩; clear nb9 g9)
            refine ret_blk_tmp rfl rfl w.heap.size 25 (bkL zeroL) _ rfl N9.out.1 Tryd.underlying25 rfl (infoBl rfl) ?_
            rw [FF.out.1, FF.out.2]
            exact ⟨rfl, N9.out.2⟩
    · obtain rfl : a = 12 := by omega
      have FF : Hid (fitsL S = true ∧ bookL S = S) := by
        have e : fitsL S = true := fitsL_true OKS.out
        exact ⟨e, by unfold bookL; rw [e]; rfl⟩
      rw [cT_all S12.out] at SS
      clear CE CK CLn CF SU
      go_wp2_with (first
        | (refine step_load rfl 25 _ rfl (w.heap.size + 1) 0 rfl (bkL S) _ SS.out.2.1.all Tryd.underlying25 rfl (infoBl S12.out) ?_)
        | (refine step_store rfl 25 _ _ rfl w.heap.size 0 25 (bkL zeroL) (bkL S) rfl rfl SS.out.1 (by rw [bkL_len, S12.out]; exact Nat.le_refl _) (infoBl S12.out) (bkL_one _) ?_; intro w9 nb9 g9; rw [store_all (by rw [bkL_len, S12.out]; rfl)] at nb9; have N9 : Hid (Blk w.heap.size 25 (bkL S) w9 ∧ Below w.heap.size w w9) := ⟨nb9, below_row SS.out.2.2 g9 (Nat.le_refl _)⟩; clear nb9 g9))
      refine ret_blk_tmp rfl rfl w.heap.size 25 (bkL S) _ rfl N9.out.1 Tryd.underlying25 rfl (infoBl S12.out) ?_
      rw [FF.out.1, FF.out.2]
      exact ⟨rfl, N9.out.2⟩
end Go.Proofs.YtacdnigeboeleaaDoor
