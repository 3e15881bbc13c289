/-
  Ours: frame.Encode and frame.Join.
-/
import Derived.Test.YtcmfehabcklbpaaDoorFrmWord
import Derived.Test.YtcmfehabcklbpaaDoorDskNear
namespace Go.Proofs.YtcmfehabcklbpaaDoor
open Go.RowKit

theorem enc_eq (p : List Nat) : CrcM.enc p = CrcM.four p.length ++ p ++ CrcM.four (CrcM.sum (CrcM.four p.length ++ p)) := by unfold CrcM.enc; rfl
/-- New bytes, and true. -/
def NewT (w : World) (bs : List Nat) (e : Ending) (w' : World) : Prop := ∃ a c, e = .returned (.tuple #[.slice a bs.length c, .bool true]) ∧ RowB 5 w.heap.size w' (.slice a bs.length c) bs ∧ Below w.heap.size w w'

set_option maxHeartbeats 1000000 in
theorem encode_at (p : List Nat) (v : Value) (w : World) (hb : ∀ b ∈ p, b < 256) (hl : p.length ≤ 4194304) (h : RdB w v p) (hT : TabS w) : Calls Tryd.prog 47 #[v] w (NewT w (CrcM.enc p)) := by
  obtain ⟨i0, hi, hz0, hz1, hz2⟩ := info_parts infoB
  obtain ⟨ao, cap, rfl, _, _⟩ := h.len
  have hl0 : (p.map bv).length = p.length := List.length_map ..
  rw [hl0] at h ⊢
  have RD : Hid (∀ w', Below w.heap.size w w' → RdB w' (.slice ao p.length cap) p) := fun w' b => Rd.later h b
  have TT : Hid (∀ w', Below w.heap.size w w' → TabS w') := fun w' b => hT.below b
  have one := one_bv p
  have HB : Hid (∀ b ∈ CrcM.four p.length ++ p, b < 256) := fun b hb' => by
    rcases List.mem_append.1 hb' with h1 | h1
    · exact CrcM.four_lt _ b h1
    · exact hb b h1
  have HE : Hid (CrcM.enc p = CrcM.four p.length ++ p ++ CrcM.four (CrcM.sum (CrcM.four p.length ++ p))) := enc_eq p
  have HEL : Hid ((CrcM.enc p).length = p.length + 8) := CrcM.enc_len p
  have HF : Hid (∀ x, (CrcM.four x).length = 4) := fun x => CrcM.four_len x
  have HS : Hid (CrcM.sum (CrcM.four p.length ++ p) < 4294967296) := CrcM.sum_lt
  obtain ⟨L, hL⟩ : ∃ L, p.length = L := ⟨_, rfl⟩
  have HL : Hid (p.length = L) := hL
  rw [hL] at RD HB HE HEL HS hl ⊢
  clear h hT hb hl0 hL
  have d0 : ¬ (4194304 : Int) < (L : Int) := by omega
  have b2 : i0.bytes * (L + 8) ≤ 281474976710656 := by rw [hz2]; omega
  have b3 : L + 8 ≤ maxLen := by unfold maxLen; omega
  go_enter Tryd.func47, Tryd.ntmps47
  go_wp2_with (refine wpList_make_own _ rfl (.const (.int .i64 0)) (.tmp 10) 22 rfl w.heap.size 5 i0 (.int .u8 0) 1 underB hi hz0 hz1 .i64 .i64 _ (L + 8) rfl rfl (by simp) b2 b3 (Nat.le_refl _) ?_; intro w2 r2 g2)
  have r2' : RowB 5 w.heap.size w2 (.slice (some ⟨w.heap.size, 0, none⟩) 0 (L + 8)) [] := r2
  have B2 := below_none g2
  have PW := putWord_at [] L w.heap.size _ w2 (by omega) (by simp) B2.size r2'
  have PW' : Hid (Calls Tryd.prog 52 #[.slice (some ⟨w.heap.size, 0, none⟩) 0 (L + 8), .int .u32 (L : Int)] w2 fun e w' => ∃ u, e = .returned u ∧ RowB 5 w.heap.size w' u ([] ++ CrcM.four L) ∧ w2.grownBy w' (Value.slice (some ⟨w.heap.size, 0, none⟩) 0 (L + 8)).ownBlock) := PW
  have R2 : Hid (RowB 5 w.heap.size w2 (.slice (some ⟨w.heap.size, 0, none⟩) 0 (L + 8)) []) := r2'
  have HB2 : Hid (Below w.heap.size w w2) := B2
  clear PW r2 r2' g2 B2
  go_wp2_with fail
  refine PW'.out.mono ?_
  rintro e w3 ⟨u3, rfl, r3, g3⟩
  have B3 : Below w.heap.size w w3 := below_grown HB2.out R2.out (Nat.le_refl _) HB2.out.size g3
  rw [List.nil_append] at r3
  have hsz3 := B3.size
  have rd3 := RD.out w3 B3
  have l1 : ((CrcM.four L).map bv).length + (p.map bv).length ≤ maxLen := by have := HL.out; have := HF.out L; rw [List.length_map, List.length_map]; unfold maxLen; omega
  have l2 : (((CrcM.four L).map bv).length + (p.map bv).length) * 1 ≤ 140737488355328 := by have := HL.out; have := HF.out L; rw [List.length_map, List.length_map]; omega
  obtain ⟨us, hus⟩ : ∃ us, p.map bv = us := ⟨_, rfl⟩
  obtain ⟨fs, hfs⟩ : ∃ fs, (CrcM.four L).map bv = fs := ⟨_, rfl⟩
  have HU : Hid (fs ++ us = (CrcM.four L ++ p).map bv) := by show _ = _; rw [List.map_append, hus, hfs]
  have rd3' : Rd w3 (.slice ao L cap) us := by rw [← hus]; exact rd3
  have r3' : RowV 5 w.heap.size w3 u3 fs := by rw [← hfs]; exact r3
  rw [hus] at one l1 l2
  rw [hfs] at l1 l2
  have HB3 : Hid (Below w.heap.size w w3) := B3
  clear hus hfs rd3 r3 B3 R2 HB2 PW' g3
  go_wp2_with (at_builtin; refine wpList_catV rfl (.tmp 17) (.tmp 18) 22 rfl 5 i0 (.int .u8 0) 1 underB hi hz0 hz1 hz2 rfl w.heap.size _ _ _ _ one rfl r3' hsz3 rfl rd3' l1 l2 ?_; intro v4 w4 r4 g4)
  have B4 : Below w.heap.size w w4 := below_grown HB3.out r3' (Nat.le_refl _) hsz3 g4
  have R4 : Hid (RowB 5 w.heap.size w4 v4 (CrcM.four L ++ p)) := by show RowV _ _ _ _ _; rw [← HU.out]; exact r4
  have HB4 : Hid (Below w.heap.size w w4) := B4
  obtain ⟨a4, c4, rfl, _, _⟩ := (RowV.rd R4.out).len
  have SM : Hid (Calls Tryd.prog 53 #[.slice a4 ((CrcM.four L ++ p).map bv).length c4] w4 fun e w' => e = .returned (.int .u32 ((CrcM.sum (CrcM.four L ++ p) : Nat) : Int)) ∧ w' = w4) := sum_same _ _ w4 HB.out (by have := HL.out; have := HF.out L; rw [List.length_append]; omega) (RowV.rd R4.out) (TT.out _ B4)
  have PW2 : Hid (Calls Tryd.prog 52 #[.slice a4 ((CrcM.four L ++ p).map bv).length c4, .int .u32 ((CrcM.sum (CrcM.four L ++ p) : Nat) : Int)] w4 fun e w' => ∃ u, e = .returned u ∧ RowB 5 w.heap.size w' u (CrcM.four L ++ p ++ CrcM.four (CrcM.sum (CrcM.four L ++ p))) ∧ w4.grownBy w' (Value.slice a4 ((CrcM.four L ++ p).map bv).length c4).ownBlock) := putWord_at _ _ w.heap.size _ w4 HS.out (by have := HL.out; have := HF.out L; rw [List.length_append]; omega) B4.size R4.out
  have DONE : Hid (∀ w' a c, RowB 5 w.heap.size w' (.slice a (CrcM.enc p).length c) (CrcM.enc p) → w4.grownBy w' (Value.slice a4 ((CrcM.four L ++ p).map bv).length c4).ownBlock → NewT w (CrcM.enc p) (.returned (.tuple #[.slice a (CrcM.enc p).length c, .bool true])) w') := fun w' a c h1 h2 => ⟨a, c, rfl, h1, below_grown HB4.out R4.out (Nat.le_refl _) HB4.out.size h2⟩
  clear r4 g4 B4 R4 HB4 r3' rd3' one l1 l2 HU
  rw [← HE.out] at PW2
  generalize ((CrcM.four L ++ p).map bv).length = M at *
  generalize CrcM.sum (CrcM.four L ++ p) = S at *
  go_wp2_with fail
  refine SM.out.mono ?_
  rintro e w5 ⟨rfl, rfl⟩
  go_wp2_with fail
  refine PW2.out.mono ?_
  rintro e w6 ⟨u6, rfl, r6, g6⟩
  obtain ⟨a6, c6, rfl, _, _⟩ := (RowV.rd r6).len
  rw [List.length_map] at r6 ⊢
  have FIN : Hid (NewT w (CrcM.enc p) (.returned (.tuple #[.slice a6 (CrcM.enc p).length c6, .bool true])) w6) := DONE.out w6 a6 c6 r6 g6
  clear DONE PW2 r6 g6
  go_wp2_with fail
  go_ret2
  exact FIN.out
end Go.Proofs.YtcmfehabcklbpaaDoor
