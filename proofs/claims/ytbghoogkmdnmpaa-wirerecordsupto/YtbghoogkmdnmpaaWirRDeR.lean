/-
  Ours: the reference's DecodeRecord.
-/
import Derived.Test.YtbghoogkmdnmpaaWirInR
import Derived.Test.YtbghoogkmdnmpaaWirRDec
namespace Go.Proofs.Ytbghoogkmdnmpaa
open Go.RowKit

set_option maxRecDepth 20000 in
set_option maxHeartbeats 2000000 in
theorem rdecodeRecord_at (bs : List Nat) (hb : Bytes bs) (hl : bs.length ≤ 1000000000000) (v : Value) (w : World) (hr : RdB w v bs) :
    Calls Try.prog 34 #[v] w fun e w' => (∃ va, e = .returned (.tuple #[recV (decR bs).1.1 (decR bs).1.2.1 va, .bool (decR bs).2]) ∧ RowN w.heap.size w' va (decR bs).1.2.2) ∧ Below w.heap.size w w' := by
  obtain ⟨ao, cap, ev, -, -⟩ := hr.len
  obtain ⟨L, hL⟩ : ∃ L, (bs.map bv).length = L := ⟨_, rfl⟩
  rw [hL] at ev
  subst ev
  have BA := below_alloc w (.cells #[.int .i64 0, .int .i64 0, .int .i64 0, .int .i64 0, .int .i64 0, .int .i64 0, .int .i64 0, .string ⟨#[]⟩, .slice none 0 0] 26)
  have BD0 := Blk.new 26 [.int .i64 0, .int .i64 0, .int .i64 0, .int .i64 0, .int .i64 0, .int .i64 0, .int .i64 0, .string ⟨#[]⟩, .slice none 0 0] w
  have BA1 := below_alloc (w.alloc (.cells #[.int .i64 0, .int .i64 0, .int .i64 0, .int .i64 0, .int .i64 0, .int .i64 0, .int .i64 0, .string ⟨#[]⟩, .slice none 0 0] 26)) (.cells #[.slice ao L cap, .int .i64 0, .bool false] 128)
  have BR1 := Blk.new 128 [.slice ao L cap, .int .i64 0, .bool false] (w.alloc (.cells #[.int .i64 0, .int .i64 0, .int .i64 0, .int .i64 0, .int .i64 0, .int .i64 0, .int .i64 0, .string ⟨#[]⟩, .slice none 0 0] 26))
  have BD1 := BD0.below BA1
  have BB := below_trans BA BA1
  have hr1 := Rd.later hr BB
  obtain ⟨D, hDe⟩ : ∃ D, w.heap.size = D := ⟨_, rfl⟩
  obtain ⟨R, hRe⟩ : ∃ R, (w.alloc (.cells #[.int .i64 0, .int .i64 0, .int .i64 0, .int .i64 0, .int .i64 0, .int .i64 0, .int .i64 0, .string ⟨#[]⟩, .slice none 0 0] 26)).heap.size = R := ⟨_, rfl⟩
  have hRe2 : D + 1 = R := by rw [← hRe, ← hDe]; simp
  have hV : 0 < bs.length → (Value.slice ao L cap).ownBlock ≠ some R := fun h0 e => by
    have := Rd.block hr (by rw [List.length_map]; exact h0) e
    omega
  rw [hRe] at BR1
  rw [hDe] at BD1
  have I1 := IS.start BR1 hr1 hV
  have RC : Hid (∀ w, IS bs R (.slice ao L cap) (some 0) w → Calls Try.prog 70 #[.pointer (some ⟨R, 0, none⟩)] w (InRec bs R (.slice ao L cap) w (recR bs))) := fun w h => inRecord_at bs R (.slice ao L cap) w hb hl h
  have DN : Hid (∀ w, IS bs R (.slice ao L cap) (recR bs).2 w → Calls Try.prog 71 #[.pointer (some ⟨R, 0, none⟩)] w fun e w' => e = .returned (.bool (decide ((recR bs).2 = some bs.length))) ∧ Below w.heap.size w w') := fun w h => inDone_at bs hl R (.slice ao L cap) _ w h
  have DE : Hid (decR bs = match (recR bs).2 with | some q => if q = bs.length then ((recR bs).1, true) else ((0, opZ, []), false) | none => ((0, opZ, []), false)) := rfl
  generalize decR bs = dd at *
  generalize recR bs = rr at *
  have hDe' : Hid (w.heap.size = D) := hDe
  clear BD0 BA BA1 hr hb hl hV BR1 hr1
  go_enter Try.func34, Try.ntmps34
  go_wp2_with fail
  clear hRe hDe
  generalize (w.alloc (.cells #[.int .i64 0, .int .i64 0, .int .i64 0, .int .i64 0, .int .i64 0, .int .i64 0, .int .i64 0, .string ⟨#[]⟩, .slice none 0 0] 26)).alloc (.cells #[.slice ao L cap, .int .i64 0, .bool false] 128) = W0 at *
  refine (RC.out _ I1).mono ?_
  rintro e w2 ⟨kk, o, va, xs, rfl, r2, I2, hsp, g2⟩
  obtain ⟨f0, f1, f2, f3, f4, f5, f6⟩ := o
  have HSP : Hid (rr.2.isSome = true → (kk, (⟨f0, f1, f2, f3, f4, f5, f6⟩ : OpV), xs) = rr.1) := hsp
  have S0 : Hid (D + 1 < W0.heap.size) := by have := I1.rs.lt; show _ < _; omega
  obtain ⟨al, cl, el, _, _⟩ := r2.rd.len
  generalize (List.map (Value.int .i64) xs).length = nl at el
  subst el
  have BD2 := BD1.grown g2 (by omega)
  have W2 : Below w.heap.size w w2 := below_past BB g2 (by have := hDe'.out; omega)
  have R2 : RowN (D + 2) w2 (.slice al nl cl) xs := RowV.mono r2 (by have := S0.out; omega)
  clear BD1 g2 BB I1 hsp r2 S0 RC
  unfold recV
  simp only
  have BA2 := below_alloc w2 (.cells #[.int .i64 kk, .int .i64 f0, .int .i64 f1, .int .i64 f2, .int .i64 f3, .int .i64 f4, .int .i64 f5, .string f6, .slice al nl cl] 26)
  have BG3 := Blk.new 26 [.int .i64 kk, .int .i64 f0, .int .i64 f1, .int .i64 f2, .int .i64 f3, .int .i64 f4, .int .i64 f5, .string f6, .slice al nl cl] w2
  have BD3 := BD2.below BA2
  have I3 := I2.below BA2
  have R3 := RowV.later R2 BA2
  have hlt := BD2.lt
  have W3' := below_trans W2 BA2
  clear BA2 BD2 I2 W2 R2
  go_wp2_with fail
  obtain ⟨G, hGe⟩ : ∃ G, w2.heap.size = G := ⟨_, rfl⟩
  rw [hGe] at BG3 hlt ⊢
  have BG4 : Blk G 26 [.int .i64 kk, .int .i64 f0, .int .i64 f1, .int .i64 f2, .int .i64 f3, .int .i64 f4, .int .i64 f5, .string f6, .slice al nl cl] (w2.alloc (.cells #[.int .i64 kk, .int .i64 f0, .int .i64 f1, .int .i64 f2, .int .i64 f3, .int .i64 f4, .int .i64 f5, .string f6, .slice al nl cl] 26)) := BG3
  clear BG3 hGe
  generalize w2.alloc (.cells #[.int .i64 kk, .int .i64 f0, .int .i64 f1, .int .i64 f2, .int .i64 f3, .int .i64 f4, .int .i64 f5, .string f6, .slice al nl cl] 26) = W3 at *
  refine (DN.out _ I3).mono ?_
  rintro e w4 ⟨rfl, b4⟩
  have BG5 := BG4.below b4
  have BD5 := BD3.below b4
  have W5 := below_trans W3' b4
  have R5 := RowV.later R3 b4
  have RO : Hid (∀ g, (Value.slice al nl cl).ownBlock = some g → D ≠ g) := fun g hg e => by have := R5.block_ge hg; omega
  have ld0 := BG5.cell 0 _ rfl
  have lz0 := BD5.cell 0 _ rfl
  have lf0 := BD5.fz 0
  have ld1 := BG5.cell 1 _ rfl
  have lz1 := BD5.cell 1 _ rfl
  have lf1 := BD5.fz 1
  have ld2 := BG5.cell 2 _ rfl
  have lz2 := BD5.cell 2 _ rfl
  have lf2 := BD5.fz 2
  have ld3 := BG5.cell 3 _ rfl
  have lz3 := BD5.cell 3 _ rfl
  have lf3 := BD5.fz 3
  have ld4 := BG5.cell 4 _ rfl
  have lz4 := BD5.cell 4 _ rfl
  have lf4 := BD5.fz 4
  have ld5 := BG5.cell 5 _ rfl
  have lz5 := BD5.cell 5 _ rfl
  have lf5 := BD5.fz 5
  have ld6 := BG5.cell 6 _ rfl
  have lz6 := BD5.cell 6 _ rfl
  have lf6 := BD5.fz 6
  have ld7 := BG5.cell 7 _ rfl
  have lz7 := BD5.cell 7 _ rfl
  have lf7 := BD5.fz 7
  have ld8 := BG5.cell 8 _ rfl
  have lz8 := BD5.cell 8 _ rfl
  have lf8 := BD5.fz 8
  clear BG5 BG4 BD3 b4 W3' R3 I3 DN
  by_cases hs : rr.2 = some bs.length
  · obtain ⟨b9, g9⟩ := Blk.nine BD5 (.int .i64 kk) (.int .i64 f0) (.int .i64 f1) (.int .i64 f2) (.int .i64 f3) (.int .i64 f4) (.int .i64 f5) (.string f6) (.slice al nl cl)
    have B9 : Hid (Blk _ _ _ _) := b9
    have GF : Hid (Below _ _ _) := below_past2 W5 g9 (Nat.le_of_eq hDe'.out)
    have RF : Hid (RowN D _ _ _) := RowV.mono (RowV.kept R5 g9 (fun g hg e => RO.out g hg (by injection e))) (by omega)
    have HD : Hid (dd = ((kk, ⟨f0, f1, f2, f3, f4, f5, f6⟩, xs), true)) := by show _ = _; rw [DE.out, hs]; simp only [if_true]; rw [HSP.out (by rw [hs]; rfl)]
    have hd : decide (rr.2 = some bs.length) = true := by simpa using hs
    rw [hd]
    clear b9 g9 BD5 W5 R5 hd hs DE HSP
    go_upto_region 5 with fail
    repeat (first | go_guarded | go_step)
    generalize (((((((((w4).setCell ⟨D, 0, none⟩ (.int .i64 kk)).setCell ⟨D, 1, none⟩ (.int .i64 f0)).setCell ⟨D, 2, none⟩ (.int .i64 f1)).setCell ⟨D, 3, none⟩ (.int .i64 f2)).setCell ⟨D, 4, none⟩ (.int .i64 f3)).setCell ⟨D, 5, none⟩ (.int .i64 f4)).setCell ⟨D, 6, none⟩ (.int .i64 f5)).setCell ⟨D, 7, none⟩ (.string f6)).setCell ⟨D, 8, none⟩ (.slice al nl cl) = V9 at *
    exact bodyPost_cell_tmp rfl rfl D _ _ _ _ rfl B9.out Try.underlying26 rfl (by kernel_rfl) ⟨⟨_, by rw [HD.out]; rfl, by rw [HD.out, hDe'.out]; exact RF.out⟩, GF.out⟩
  · obtain ⟨b9, g9⟩ := Blk.nine BD5 (.int .i64 0) (.int .i64 0) (.int .i64 0) (.int .i64 0) (.int .i64 0) (.int .i64 0) (.int .i64 0) (.string ⟨#[]⟩) (.slice none 0 0)
    have B9 : Hid (Blk _ _ _ _) := b9
    have GF : Hid (Below _ _ _) := below_past2 W5 g9 (Nat.le_of_eq hDe'.out)
    have HD : Hid (dd = ((0, opZ, []), false)) := by
      show _ = _
      rw [DE.out]
      cases he : rr.2 with
      | none => rfl
      | some q => simp only; rw [if_neg (fun e => hs (by rw [he, e]))]
    have hd : decide (rr.2 = some bs.length) = false := by simpa using hs
    rw [hd]
    clear b9 g9 BD5 W5 R5 hd hs DE HSP
    go_upto_region 4 with fail
    repeat (first | go_guarded | go_step)
    generalize (((((((((w4).setCell ⟨D, 0, none⟩ (.int .i64 0)).setCell ⟨D, 1, none⟩ (.int .i64 0)).setCell ⟨D, 2, none⟩ (.int .i64 0)).setCell ⟨D, 3, none⟩ (.int .i64 0)).setCell ⟨D, 4, none⟩ (.int .i64 0)).setCell ⟨D, 5, none⟩ (.int .i64 0)).setCell ⟨D, 6, none⟩ (.int .i64 0)).setCell ⟨D, 7, none⟩ (.string ⟨#[]⟩)).setCell ⟨D, 8, none⟩ (.slice none 0 0) = V9 at *
    exact bodyPost_cell_tmp rfl rfl D _ _ _ _ rfl B9.out Try.underlying26 rfl (by kernel_rfl) ⟨⟨.slice none 0 0, by rw [HD.out]; rfl, by rw [HD.out]; exact RowV.nil _ _ _⟩, GF.out⟩
end Go.Proofs.Ytbghoogkmdnmpaa
