/-
  Ours: the walk of ReportLetters. (gen_rpls.py)
-/
import Derived.Test.YtpkgdkgbbbbaoaaDoorRpLb
import Derived.Test.YtpkgdkgbbbbaoaaDoorRpRl
namespace Go.Proofs.YtpkgdkgbbbbaoaaDoor
open Go.RowKit Go.Lib CalM RpM
set_option maxRecDepth 100000 in
set_option maxHeartbeats 4000000 in
theorem letters_any (n : RpM.Nt) (on : n.Ok) (l : List UInt8) (hl : l.length ≤ 1048576) (w : World) (hw : RpW w) : Calls Tryd.prog 4 #[ntV n, .string ⟨l.toArray⟩] w fun e w' => e = .returned (.bool true) ∧ Below w.heap.size w w' := by
  have HW : Hid (RpW w) := hw
  have LC : Hid (∀ w, RpW w → Calls Tryd.prog 5 #[ntV n] w fun e w' => e = .returned (letA n) ∧ Below w.heap.size w w') := fun w hw => letter_at n on w hw
  have LR : Hid (∀ w, RpW w → Calls Tryd.prog 7 #[ntV n] w fun e w' => e = .returned (letA n) ∧ Below w.heap.size w w') := fun w hw => rletter_at n on w hw.tab
  have RC : Hid (∀ w, RpW w → Calls Tryd.prog 6 #[.string ⟨l.toArray⟩] w (RdPost l w)) := fun w hw => readLetter_at l (by omega) w hw
  have RR : Hid (∀ w, RpW w → Calls Tryd.prog 8 #[.string ⟨l.toArray⟩] w (RdPost l w)) := fun w hw => rreadLetter_at l hl w hw.tab
  have NB : Hid (Blk w.heap.size 23 (ntC n).toList (w.alloc (.cells (ntC n) 23)) ∧ Below w.heap.size w (w.alloc (.cells (ntC n) 23))) := ⟨Blk.new _ _ _, below_alloc _ _⟩
  obtain ⟨T, B, hT⟩ : ∃ (T : ByteArray) (B : Bool), letA n = .tuple #[.string T, .bool B] := by
    unfold letA
    split
    · exact ⟨_, _, rfl⟩
    · exact ⟨_, _, rfl⟩
  rw [hT] at LC LR
  clear hw hT on hl
  obtain ⟨id, loan, kind, day, amt, ack⟩ := n
  go_enter Tryd.func4, Tryd.ntmps4
  go_upto_region 1 with fail
  generalize w.alloc (.cells #[.int .i64 id, .int .i64 loan, .int .i64 kind, .int .i64 day, .int .i64 amt, .bool ack] 23) = W at *
  have n0 := NB.out.1.cell 0 _ rfl
  have n1 := NB.out.1.cell 1 _ rfl
  have n2 := NB.out.1.cell 2 _ rfl
  have n3 := NB.out.1.cell 3 _ rfl
  have n4 := NB.out.1.cell 4 _ rfl
  have n5 := NB.out.1.cell 5 _ rfl
  go_wp2_with fail
  refine (LC.out _ (HW.out.later NB.out.2)).mono ?_
  rintro e w2 ⟨rfl, b2⟩
  have S2 : Hid (Below w.heap.size w w2 ∧ Blk w.heap.size 23 (ntC ⟨id, loan, kind, day, amt, ack⟩).toList w2) := ⟨below_trans NB.out.2 b2, NB.out.1.below b2⟩
  clear b2 n0 n1 n2 n3 n4 n5 NB LC
  have n0 := S2.out.2.cell 0 _ rfl
  have n1 := S2.out.2.cell 1 _ rfl
  have n2 := S2.out.2.cell 2 _ rfl
  have n3 := S2.out.2.cell 3 _ rfl
  have n4 := S2.out.2.cell 4 _ rfl
  have n5 := S2.out.2.cell 5 _ rfl
  go_wp2_with fail
  refine (LR.out _ (HW.out.later S2.out.1)).mono ?_
  rintro e w3 ⟨rfl, b3⟩
  have S3 : Hid (Below w.heap.size w w3) := below_trans S2.out.1 b3
  clear b3 n0 n1 n2 n3 n4 n5 S2 LR
  go_wp2_with fail
  refine (RC.out _ (HW.out.later S3.out)).mono ?_
  rintro e w4 ⟨m, b, hR, rfl, b4⟩
  have HR : Hid (RdL l m b) := hR
  have S4 : Hid (Below w.heap.size w (w4.alloc (.cells (ntC m) 23)) ∧ Blk w4.heap.size 23 (ntC m).toList (w4.alloc (.cells (ntC m) 23))) := ⟨below_trans (below_trans S3.out b4) (below_alloc _ _), Blk.new _ _ _⟩
  clear b4 S3 hR
  obtain ⟨mi, ml, mk, md, ma, mc⟩ := m
  go_upto_region 6 with fail
  generalize w4.alloc (.cells #[.int .i64 mi, .int .i64 ml, .int .i64 mk, .int .i64 md, .int .i64 ma, .bool mc] 23) = W4 at *
  generalize w4.heap.size = N9 at *
  go_wp2_with fail
  refine (RR.out _ (HW.out.later S4.out.1)).mono ?_
  rintro e w5 ⟨m2, b2, hR2, rfl, b5⟩
  obtain ⟨e1, e2⟩ := RdL.uniq HR.out hR2
  subst e1 e2
  clear hR2 HR
  have S5 : Hid (Below w.heap.size w (w5.alloc (.cells (ntC ⟨mi, ml, mk, md, ma, mc⟩) 23)) ∧ Blk N9 23 (ntC ⟨mi, ml, mk, md, ma, mc⟩).toList (w5.alloc (.cells (ntC ⟨mi, ml, mk, md, ma, mc⟩) 23)) ∧ Blk w5.heap.size 23 (ntC ⟨mi, ml, mk, md, ma, mc⟩).toList (w5.alloc (.cells (ntC ⟨mi, ml, mk, md, ma, mc⟩) 23))) := ⟨below_trans (below_trans S4.out.1 b5) (below_alloc _ _), (S4.out.2.below b5).old _, Blk.new _ _ _⟩
  clear b5 S4
  go_upto_region 7 with fail
  generalize w5.alloc (.cells #[.int .i64 mi, .int .i64 ml, .int .i64 mk, .int .i64 md, .int .i64 ma, .bool mc] 23) = W5 at *
  generalize w5.heap.size = N8 at *
  have n0 := S5.out.2.1.cell 0 _ rfl
  have n1 := S5.out.2.1.cell 1 _ rfl
  have n2 := S5.out.2.1.cell 2 _ rfl
  have n3 := S5.out.2.1.cell 3 _ rfl
  have n4 := S5.out.2.1.cell 4 _ rfl
  have n5 := S5.out.2.1.cell 5 _ rfl
  have m0 := S5.out.2.2.cell 0 _ rfl
  have m1 := S5.out.2.2.cell 1 _ rfl
  have m2 := S5.out.2.2.cell 2 _ rfl
  have m3 := S5.out.2.2.cell 3 _ rfl
  have m4 := S5.out.2.2.cell 4 _ rfl
  have m5 := S5.out.2.2.cell 5 _ rfl
  have EQ := nt_eql ⟨mi, ml, mk, md, ma, mc⟩
  go_wp2_with fail
  go_ret
  exact ⟨by simp, S5.out.1⟩
end Go.Proofs.YtpkgdkgbbbbaoaaDoor
