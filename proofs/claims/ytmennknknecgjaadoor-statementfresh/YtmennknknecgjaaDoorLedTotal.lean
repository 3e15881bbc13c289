/-
  Ours: Total.
-/
import Derived.Test.YtmennknknecgjaaDoorLedTot
import Derived.Deep.Cut
namespace Go.Proofs.YtmennknknecgjaaDoor
open Go.RowKit LedM

theorem z24 : (smL zeroL).toArray = #[Value.int .u64 0, Value.int .u64 0, Value.int .u64 0, Value.int .u64 0, Value.int .u64 0, Value.int .u64 0, Value.int .u64 0, Value.int .u64 0, Value.int .u64 0, Value.int .u64 0, Value.int .u64 0, Value.int .u64 0, Value.int .u64 0, Value.int .u64 0, Value.int .u64 0, Value.int .u64 0, Value.int .u64 0, Value.int .u64 0, Value.int .u64 0, Value.int .u64 0, Value.int .u64 0, Value.int .u64 0, Value.int .u64 0, Value.int .u64 0] := by kernel_rfl
set_option maxRecDepth 20000 in
set_option maxHeartbeats 1000000 in
theorem total_at (bs : List (List Int)) (v : Value) (w : World) (h : RdBk w v bs) (ok : ∀ b ∈ bs, BkOk b) (hn : bs.length ≤ 1000000000) :
    Calls Tryd.prog 34 #[v] w fun e w' => e = .returned (.tuple #[.agg (bkL (bookL (sumB bs))).toArray, .bool (fitsL (sumB bs))]) ∧ Below w.heap.size w w' := by
  have R3 : Blk w.heap.size 27 (bkL zeroL) ((w.alloc (.cells #[Value.int .i64 0, Value.int .i64 0, Value.int .i64 0, Value.int .i64 0, Value.int .i64 0, Value.int .i64 0, Value.int .i64 0, Value.int .i64 0, Value.int .i64 0, Value.int .i64 0, Value.int .i64 0, Value.int .i64 0] 27)).alloc (.cells #[Value.int .u64 0, Value.int .u64 0, Value.int .u64 0, Value.int .u64 0, Value.int .u64 0, Value.int .u64 0, Value.int .u64 0, Value.int .u64 0, Value.int .u64 0, Value.int .u64 0, Value.int .u64 0, Value.int .u64 0, Value.int .u64 0, Value.int .u64 0, Value.int .u64 0, Value.int .u64 0, Value.int .u64 0, Value.int .u64 0, Value.int .u64 0, Value.int .u64 0, Value.int .u64 0, Value.int .u64 0, Value.int .u64 0, Value.int .u64 0] 75)) := (Blk.new 27 (bkL zeroL) w).old _
  have S3 : Blk (w.heap.size + 1) 75 (smL zeroL) ((w.alloc (.cells #[Value.int .i64 0, Value.int .i64 0, Value.int .i64 0, Value.int .i64 0, Value.int .i64 0, Value.int .i64 0, Value.int .i64 0, Value.int .i64 0, Value.int .i64 0, Value.int .i64 0, Value.int .i64 0, Value.int .i64 0] 27)).alloc (.cells #[Value.int .u64 0, Value.int .u64 0, Value.int .u64 0, Value.int .u64 0, Value.int .u64 0, Value.int .u64 0, Value.int .u64 0, Value.int .u64 0, Value.int .u64 0, Value.int .u64 0, Value.int .u64 0, Value.int .u64 0, Value.int .u64 0, Value.int .u64 0, Value.int .u64 0, Value.int .u64 0, Value.int .u64 0, Value.int .u64 0, Value.int .u64 0, Value.int .u64 0, Value.int .u64 0, Value.int .u64 0, Value.int .u64 0, Value.int .u64 0] 75)) := by
    have := Blk.new2 75 (smL zeroL) w (.cells #[Value.int .i64 0, Value.int .i64 0, Value.int .i64 0, Value.int .i64 0, Value.int .i64 0, Value.int .i64 0, Value.int .i64 0, Value.int .i64 0, Value.int .i64 0, Value.int .i64 0, Value.int .i64 0, Value.int .i64 0] 27)
    rw [z24] at this
    exact this
  have W3 : Below w.heap.size w ((w.alloc (.cells #[Value.int .i64 0, Value.int .i64 0, Value.int .i64 0, Value.int .i64 0, Value.int .i64 0, Value.int .i64 0, Value.int .i64 0, Value.int .i64 0, Value.int .i64 0, Value.int .i64 0, Value.int .i64 0, Value.int .i64 0] 27)).alloc (.cells #[Value.int .u64 0, Value.int .u64 0, Value.int .u64 0, Value.int .u64 0, Value.int .u64 0, Value.int .u64 0, Value.int .u64 0, Value.int .u64 0, Value.int .u64 0, Value.int .u64 0, Value.int .u64 0, Value.int .u64 0, Value.int .u64 0, Value.int .u64 0, Value.int .u64 0, Value.int .u64 0, Value.int .u64 0, Value.int .u64 0, Value.int .u64 0, Value.int .u64 0, Value.int .u64 0, Value.int .u64 0, Value.int .u64 0, Value.int .u64 0] 75)) := (below_alloc w _).alloc (by simp) _
  have SA : Hid (∀ ss b w', ss.length = 12 → BkOk b → Calls Tryd.prog 48 #[.agg (smL ss).toArray, .agg (bkL b).toArray] w' fun e w2 => e = .returned (.agg (smL (addL ss b)).toArray) ∧ Below w'.heap.size w' w2) := fun ss b w' h1 h2 => sadd_at ss b w' h1 h2
  have SB : Hid (∀ w', Calls Tryd.prog 49 #[.agg (smL (sumB bs)).toArray] w' fun e w2 => e = .returned (.tuple #[.agg (bkL (bookL (sumB bs))).toArray, .bool (fitsL (sumB bs))]) ∧ Below w'.heap.size w' w2) := fun w' => sbook_at _ w' (sumB_len _) (fun j hj => by
    have b := sum_bound j ok
    rw [sumB_at _ j hj]
    show _ ∧ _
    omega)
  have BL : Hid ((bookL (sumB bs)).length = 12) := by show _ = _; unfold bookL; split; exact sumB_len _; rfl
  have RD : Hid (∀ w', Below w.heap.size w w' → RdBk w' v bs) := fun w' hb => h.later hb
  obtain ⟨ao, cap, rfl, hcap, hno, _⟩ := h
  obtain ⟨L, hL⟩ : ∃ L, bs.length = L := ⟨_, rfl⟩
  have HL : Hid (bs.length = L) := hL
  have CE : Hid (∀ w', Below w.heap.size w w' → ∀ i, i < L → ∃ g o, ao = some ⟨g, o, none⟩ ∧ w'.rangeAt g (o + i * 12) (bkL (bN bs i))) := fun w' hb i hi => by
    obtain ⟨ao', cap', e, _, _, H⟩ := RD.out w' hb
    injection e with e1 e2 e3
    subst e1
    obtain ⟨g, o, e, _, r⟩ := H i (by omega)
    exact ⟨g, o, e, r⟩
  have OK : Hid (∀ i, i < L → BkOk (bN bs i)) := fun i hi => ok _ (by rw [bN_at (by omega)]; exact List.getElem_mem _)
  have SS : Hid (∀ i, i < L → sumB (bs.take (i + 1)) = addL (sumB (bs.take i)) (bN bs i)) := fun i hi => by rw [take_bN (by omega), sumB_push]
  have SF : Hid (sumB (bs.take L) = sumB bs ∧ sumB (bs.take 0) = zeroL) := ⟨by rw [List.take_of_length_le (by omega)], sumB_nil⟩
  have SL : Hid (∀ i, (sumB (bs.take i)).length = 12) := fun i => sumB_len _
  rw [hL] at hcap hn ⊢
  obtain ⟨B, HB⟩ : ∃ B, Hid (bookL (sumB bs) = B) := ⟨_, rfl⟩
  obtain ⟨K, HK⟩ : ∃ K, Hid (fitsL (sumB bs) = K) := ⟨_, rfl⟩
  rw [HB.out, HK.out] at SB ⊢
  rw [HB.out] at BL
  clear RD ok hL
  go_enter Tryd.func34, Tryd.ntmps34
  go_upto_region 2 with fail
  generalize (w.alloc (.cells #[Value.int .i64 0, Value.int .i64 0, Value.int .i64 0, Value.int .i64 0, Value.int .i64 0, Value.int .i64 0, Value.int .i64 0, Value.int .i64 0, Value.int .i64 0, Value.int .i64 0, Value.int .i64 0, Value.int .i64 0] 27)).alloc (.cells #[Value.int .u64 0, Value.int .u64 0, Value.int .u64 0, Value.int .u64 0, Value.int .u64 0, Value.int .u64 0, Value.int .u64 0, Value.int .u64 0, Value.int .u64 0, Value.int .u64 0, Value.int .u64 0, Value.int .u64 0, Value.int .u64 0, Value.int .u64 0, Value.int .u64 0, Value.int .u64 0, Value.int .u64 0, Value.int .u64 0, Value.int .u64 0, Value.int .u64 0, Value.int .u64 0, Value.int .u64 0, Value.int .u64 0, Value.int .u64 0] 75) = w3 at *
  obtain ⟨Q, hQ⟩ : ∃ Q, w.heap.size = Q := ⟨_, rfl⟩
  have HQ : Hid (w.heap.size = Q) := hQ
  rw [hQ] at R3 S3 ⊢
  clear hQ
  have RR : Hid (Blk Q 27 (bkL zeroL) w3) := R3
  have GG : Hid (Blk (Q + 1) 75 (smL zeroL) w3) := S3
  have WW : Hid (Below w.heap.size w w3) := W3
  clear R3 S3 W3
  go_wp2_with fail
  go_loopw [6, 9] (fun _ vk wr => ∃ k : Nat, vk = .int .i64 (k : Int) ∧ k ≤ L ∧ Blk Q 27 (bkL zeroL) wr ∧ Blk (Q + 1) 75 (smL (sumB (bs.take k))) wr ∧ Below w.heap.size w wr) (fun _ vk _ => L - (intOf vk).toNat)
  case atStart => exact ⟨0, rfl, by omega, RR.out, by rw [SF.out.2]; exact GG.out, WW.out⟩
  case round =>
    clear RR GG WW
    obtain ⟨k, rfl, hk, rr, gg, ww⟩ := hrel
    by_cases hlt : (k : Int) < (L : Int)
    · obtain ⟨g, o, rfl, rg⟩ := CE.out wr ww k (by omega)
      have lt : Q + 1 < wr.heap.size := gg.lt
      have RG : Hid (wr.rangeAt g (o + k * 12) (bkL (bN bs k))) := rg
      have OB : Hid (BkOk (bN bs k)) := OK.out k (by omega)
      have NE : Hid (Blk wr.heap.size 27 (bkL zeroL) (wr.alloc (.cells #[Value.int .i64 0, Value.int .i64 0, Value.int .i64 0, Value.int .i64 0, Value.int .i64 0, Value.int .i64 0, Value.int .i64 0, Value.int .i64 0, Value.int .i64 0, Value.int .i64 0, Value.int .i64 0, Value.int .i64 0] 27))) := Blk.new 27 (bkL zeroL) wr
      have RR : Hid (Blk Q 27 (bkL zeroL) (wr.alloc (.cells #[Value.int .i64 0, Value.int .i64 0, Value.int .i64 0, Value.int .i64 0, Value.int .i64 0, Value.int .i64 0, Value.int .i64 0, Value.int .i64 0, Value.int .i64 0, Value.int .i64 0, Value.int .i64 0, Value.int .i64 0] 27))) := rr.old _
      have GG : Hid (Blk (Q + 1) 75 (smL (sumB (bs.take k))) (wr.alloc (.cells #[Value.int .i64 0, Value.int .i64 0, Value.int .i64 0, Value.int .i64 0, Value.int .i64 0, Value.int .i64 0, Value.int .i64 0, Value.int .i64 0, Value.int .i64 0, Value.int .i64 0, Value.int .i64 0, Value.int .i64 0] 27))) := gg.old _
      have WW : Hid (Below w.heap.size w (wr.alloc (.cells #[Value.int .i64 0, Value.int .i64 0, Value.int .i64 0, Value.int .i64 0, Value.int .i64 0, Value.int .i64 0, Value.int .i64 0, Value.int .i64 0, Value.int .i64 0, Value.int .i64 0, Value.int .i64 0, Value.int .i64 0] 27))) := ww.alloc ww.size _
      have SK : Hid (∀ w', Calls Tryd.prog 48 #[.agg (smL (sumB (bs.take k))).toArray, .agg (bkL (bN bs k)).toArray] w' fun e w2 => e = .returned (.agg (smL (sumB (bs.take (k + 1)))).toArray) ∧ Below w'.heap.size w' w2) := fun w' => by rw [SS.out k (by omega)]; exact SA.out _ _ w' (SL.out k) OB.out
      have L1 := SL.out k
      have L2 := SL.out (k + 1)
      have HL1 : Hid ((sumB (bs.take k)).length = 12 ∧ (sumB (bs.take (k + 1))).length = 12) := ⟨L1, L2⟩
      obtain ⟨s2, SX⟩ : ∃ s2, Hid (sumB (bs.take (k + 1)) = s2) := ⟨_, rfl⟩
      rw [SX.out] at SK HL1
      generalize sumB (bs.take k) = s1 at *
      generalize bN bs k = b at *
      clear rg rr gg ww CE SA SB OK SS L1 L2
      go_wp2_with (first
        | (refine step_load rfl 27 _ rfl g (o + k * 12) rfl (bkL b) _ RG.out Tryd.underlying27 rfl (infoBl OB.out.1) ?_)
        | (refine step_store rfl 27 _ _ rfl wr.heap.size 0 27 (bkL zeroL) (bkL b) rfl rfl NE.out (by rw [bkL_len, OB.out.1]; exact Nat.le_refl _) (infoBl OB.out.1) (bkL_one _) ?_; intro w4 nb4 g4; rw [store_all (by rw [bkL_len, OB.out.1]; rfl)] at nb4; have N4 : Hid (Blk wr.heap.size 27 (bkL b) w4) := nb4; have R4 : Hid (Blk Q 27 (bkL zeroL) w4) := RR.out.grown g4 (by simp; omega); have G4 : Hid (Blk (Q + 1) 75 (smL s1) w4) := GG.out.grown g4 (by simp; omega); have W4 : Hid (Below w.heap.size w w4) := below_row WW.out g4 (by have := HQ.out; omega); clear nb4 g4 NE RR GG WW)
        | (refine step_load rfl 75 _ rfl (Q + 1) 0 rfl (smL s1) _ G4.out.all Tryd.underlying75 rfl (infoSl HL1.out.1) ?_)
        | (refine step_load rfl 27 _ rfl wr.heap.size 0 rfl (bkL b) _ N4.out.all Tryd.underlying27 rfl (infoBl OB.out.1) ?_))
      refine (SK.out _).mono ?_
      rintro e w5 ⟨rfl, b5⟩
      have R5 : Hid (Blk Q 27 (bkL zeroL) w5) := R4.out.below b5
      have G5 : Hid (Blk (Q + 1) 75 (smL s1) w5) := G4.out.below b5
      have W5 : Hid (Below w.heap.size w w5) := below_trans W4.out b5
      clear R4 G4 W4 N4 b5 SK
      go_wp2_with (refine step_store rfl 75 _ _ rfl (Q + 1) 0 75 (smL s1) (smL s2) rfl rfl G5.out (by rw [smL_len, smL_len, HL1.out.1, HL1.out.2]; exact Nat.le_refl _) (infoSl HL1.out.2) (smL_one _) ?_; intro w6 nb6 g6)
      rw [store_all (by rw [smL_len, smL_len, HL1.out.1, HL1.out.2])] at nb6
      go_roundw
      case rel => exact ⟨k + 1, by go_num, by omega, R5.out.grown g6 (by simp), by rw [SX.out]; exact nb6, below_row W5.out g6 (by have := HQ.out; omega)⟩
      case measure => simp [intOf]; omega
    · obtain rfl : k = L := by omega
      rw [SF.out.1] at gg
      have RR : Hid (Blk Q 27 (bkL zeroL) wr) := rr
      have GG : Hid (Blk (Q + 1) 75 (smL (sumB bs)) wr) := gg
      have WW : Hid (Below w.heap.size w wr) := ww
      have SN : Hid ((sumB bs).length = 12) := sumB_len bs
      clear rr gg ww CE SA OK SS HB HK SF SL
      go_wp2_with (refine step_load rfl 75 _ rfl (Q + 1) 0 rfl (smL (sumB bs)) _ GG.out.all Tryd.underlying75 rfl (infoSl SN.out) ?_)
      refine (SB.out _).mono ?_
      rintro e w5 ⟨rfl, b5⟩
      have R5 : Hid (Blk Q 27 (bkL zeroL) w5) := RR.out.below b5
      have W5 : Hid (Below w.heap.size w w5) := below_trans WW.out b5
      clear RR WW GG b5 SB
      go_wp2_with (refine step_store rfl 27 _ _ rfl Q 0 27 (bkL zeroL) (bkL B) rfl rfl R5.out (by rw [bkL_len, BL.out]; exact Nat.le_refl _) (infoBl BL.out) (bkL_one _) ?_; intro w6 nb6 g6)
      rw [store_all (by rw [bkL_len, BL.out]; rfl)] at nb6
      refine ret_blk_tmp rfl rfl Q 27 (bkL B) _ rfl nb6 Tryd.underlying27 rfl (infoBl BL.out) ?_
      exact ⟨rfl, below_row W5.out g6 (by have := HQ.out; omega)⟩
end Go.Proofs.YtmennknknecgjaaDoor
