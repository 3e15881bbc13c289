/-
  Ours: the reference's Load.
-/
import Derived.Test.YtiefnomldfhhnaaDskRf5
import Derived.Deep.RegionWith
namespace Go.Proofs.Ytiefnomldfhhnaa
open Go.RowKit

set_option maxRecDepth 100000 in
set_option maxHeartbeats 400000 in
theorem rload_at (xa bs : List Nat) (va vb : Value) (w : World) (hla : xa.length ≤ 1000000000) (hlb : bs.length ≤ 1000000000) (ha : RdB w va xa) (hb : RdB w vb bs) : Calls Try.prog 12 #[va, vb] w fun e w' => ∃ y0 y1, e = .returned (.agg (RV y0 y1 Sl.z Sl.z Sl.z 0 false 0).toArray) ∧ RfNew (fun _ => False) w (Dk.load xa bs) y0 y1 Sl.z Sl.z Sl.z 0 w' := by
  obtain ⟨MB, hMB⟩ : ∃ m : Nat, m = 16777216 := ⟨_, rfl⟩
  have MBI : (MB : Int) = 16777216 := by omega
  have BA := below_alloc w (.cells RZ.toArray 34)
  have Z1 := Blk.new 34 RZ w
  have U1 : Hid (∀ w', Below w.heap.size w w' → Calls Try.prog 20 #[va, .int .i64 16777216] w' (NewB w' (loadL xa))) := fun w' h => by have := rupTo_at xa va MB w' (by rw [hMB]; decide) hla (Rd.later ha h); rw [MBI, hMB] at this; exact this
  have U2 : Hid (∀ w', Below w.heap.size w w' → Calls Try.prog 20 #[vb, .int .i64 16777216] w' (NewB w' (loadL bs))) := fun w' h => by have := rupTo_at bs vb MB w' (by rw [hMB]; decide) hlb (Rd.later hb h); rw [MBI, hMB] at this; exact this
  clear ha hb MBI hMB
  unfold Dk.load
  generalize loadL xa = la at *
  generalize loadL bs = lb at *
  go_enter Try.func12, Try.ntmps12
  go_upto_region 1 with fail
  generalize w.alloc (.cells RZ.toArray 34) = w1 at *
  obtain ⟨Q, hQ⟩ : ∃ Q, w.heap.size = Q := ⟨_, rfl⟩
  have HQ : Hid (w.heap.size = Q) := hQ
  rw [hQ] at Z1 ⊢
  clear hQ
  go_wp2_with fail
  refine (U1.out _ BA).mono ?_
  rintro e w2 ⟨v2, rfl, r2, b2⟩
  obtain ⟨y0, e2, n2⟩ := sl_of r2
  clear n2
  subst e2
  have W2 := below_trans BA b2
  go_wp2_with fail
  refine (U2.out _ W2).mono ?_
  rintro e w3 ⟨v3, rfl, r3, b3⟩
  obtain ⟨y1, e3, n3⟩ := sl_of r3
  clear n3
  subst e3
  have W3 := below_trans W2 b3
  have Z3 := (Z1.below b2).below b3
  have r2 := RowV.later r2 b3
  have s1 := Z1.lt
  have s2 := b2.size
  obtain ⟨b9, g9⟩ := Blk.eight Z3 (Value.slice y0.a y0.n y0.c) (Value.slice y1.a y1.n y1.c) (Value.slice none 0 0) (Value.slice none 0 0) (Value.slice none 0 0) (Value.int .i64 (0)) (Value.bool (false)) (Value.int .i64 (0))
  have B9 : Hid (Blk _ _ _ _) := b9
  have R0 := RowV.kept r2 g9 (fun g hg e => by have := r2.block_ge hg; injection e with e; omega)
  have R1 := RowV.kept r3 g9 (fun g hg e => by have := r3.block_ge hg; injection e with e; omega)
  have W9 := grownBy_to_below W3 g9 (Nat.le_of_eq HQ.out)
  have R9 : Hid (RfNew (fun _ => False) w ⟨la, la.length, lb, lb.length, [], 0, false⟩ y0 y1 Sl.z Sl.z Sl.z 0 _) := RfNew.mk (t := ⟨la, la.length, lb, lb.length, [], 0, false⟩) (fun _ h => h.elim) W9
    (by show RowB _ 0 _ _ (la.take la.length); rw [List.take_of_length_le (Nat.le_refl _)]; exact R0.mono (Nat.zero_le _))
    (by show RowB _ 0 _ _ (lb.take lb.length); rw [List.take_of_length_le (Nat.le_refl _)]; exact R1.mono (Nat.zero_le _))
    (by show RowB _ 0 _ _ (la.drop la.length); rw [List.drop_of_length_le (Nat.le_refl _)]; exact RowV.nil _ _ _)
    (by show RowB _ 0 _ _ (lb.drop lb.length); rw [List.drop_of_length_le (Nat.le_refl _)]; exact RowV.nil _ _ _)
    ⟨[], RowK.nil _ _ _, rfl, rfl⟩ (new_block R0 BA.size) (new_block R1 W2.size) nil_block nil_block nil_block
  have m0 := Z3.cell 0 _ rfl
  have m1 := Z3.cell 1 _ rfl
  have m2 := Z3.cell 2 _ rfl
  have m3 := Z3.cell 3 _ rfl
  have m4 := Z3.cell 4 _ rfl
  have m5 := Z3.cell 5 _ rfl
  have m6 := Z3.cell 6 _ rfl
  have m7 := Z3.cell 7 _ rfl
  have mf0 := Z3.fz 0
  have mf1 := Z3.fz 1
  have mf2 := Z3.fz 2
  have mf3 := Z3.fz 3
  have mf4 := Z3.fz 4
  have mf5 := Z3.fz 5
  have mf6 := Z3.fz 6
  have mf7 := Z3.fz 7
  clear b9 g9 Z1 Z3 R0 R1 W9 r2 r3 b2 b3 W2 W3 BA U1 U2
  go_wp2_with fail
  generalize (((((((w3.setCell ⟨Q, 0, none⟩ (Value.slice y0.a y0.n y0.c)).setCell ⟨Q, 1, none⟩ (Value.slice y1.a y1.n y1.c)).setCell ⟨Q, 2, none⟩ (Value.slice none 0 0)).setCell ⟨Q, 3, none⟩ (Value.slice none 0 0)).setCell ⟨Q, 4, none⟩ (Value.slice none 0 0)).setCell ⟨Q, 5, none⟩ (Value.int .i64 (0))).setCell ⟨Q, 6, none⟩ (Value.bool (false))).setCell ⟨Q, 7, none⟩ (Value.int .i64 (0)) = V9 at *
  exact bodyPost_cell rfl rfl Q _ _ _ _ rfl B9.out Try.underlying34 rfl (by kernel_rfl) ⟨y0, y1, rfl, R9.out⟩
end Go.Proofs.Ytiefnomldfhhnaa
