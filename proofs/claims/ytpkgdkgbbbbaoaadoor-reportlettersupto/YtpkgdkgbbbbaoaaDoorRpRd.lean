/-
  Ours: report.ReadLetter.
-/
import Derived.Test.YtpkgdkgbbbbaoaaDoorRpLet
namespace Go.Proofs.YtpkgdkgbbbbaoaaDoor
open Go.RowKit Go.Lib CalM RpM

/-- What ReadLetter answers. -/
def RdPost (l : List UInt8) (w : World) (e : Ending) (w' : World) : Prop := ∃ n b, RdL l n b ∧ e = .returned (.tuple #[ntV n, .bool b]) ∧ Below w.heap.size w w'
set_option maxRecDepth 100000 in
set_option maxHeartbeats 4000000 in
theorem readLetter_at (l : List UInt8) (hl : l.length < 4294967281) (w : World) (hw : RpW w) : Calls Tryd.prog 6 #[.string ⟨l.toArray⟩] w (RdPost l w) := by
  have HW : Hid (RpW w) := hw
  have HL : Hid (l.length < 4294967281) := hl
  have Z0 : Hid (Blk w.heap.size 23 (ntC Nt.zero).toList (w.alloc (.cells #[.int .i64 0, .int .i64 0, .int .i64 0, .int .i64 0, .int .i64 0, .bool false] 23))) := Blk.new _ _ _
  have AB : Hid (Below w.heap.size w (w.alloc (.cells #[.int .i64 0, .int .i64 0, .int .i64 0, .int .i64 0, .int .i64 0, .bool false] 23))) := below_alloc _ _
  have NW : Hid (∀ m : RpM.Nt, may m → m.Ok → m.kind < 0 → letN m ≠ l) := fun m hm _ h => by
    obtain ⟨_, _, h3, _⟩ := hm
    omega
  clear hw hl
  go_enter Tryd.func6, Tryd.ntmps6
  go_upto_region 1 with fail
  generalize w.alloc (.cells #[.int .i64 0, .int .i64 0, .int .i64 0, .int .i64 0, .int .i64 0, .bool false] 23) = W at *
  go_wp2_with fail
  go_loopw [8] (fun vi wr => ∃ i : Nat, vi = .int .i64 (i : Int) ∧ i ≤ 10 ∧ Hid (Below w.heap.size w wr ∧ Blk w.heap.size 23 (ntC Nt.zero).toList wr ∧ ∀ m : RpM.Nt, may m → m.Ok → m.kind < (i : Int) → letN m ≠ l)) (fun vi _ => 10 - (Go.RowKit.intOf vi).toNat)
  case atStart => exact ⟨0, rfl, by omega, AB.out, Z0.out, NW.out⟩
  case round =>
    obtain ⟨i, rfl, hi, HR⟩ := hrel
    clear NW Z0 AB
    by_cases hlt : i < 10
    · obtain ⟨n, gu, C⟩ := guess_at i hlt l HL.out
      have GC : Hid (∀ w, RpW w → Calls Tryd.prog 12 #[.string ⟨l.toArray⟩, .int .i64 (i : Int)] w fun e w' => e = .returned (ntV n) ∧ Below w.heap.size w w') := C
      have LC : Hid (∀ w, RpW w → Calls Tryd.prog 5 #[ntV n] w fun e w' => e = .returned (letA n) ∧ Below w.heap.size w w') := fun w hw => letter_at n gu.ok w hw
      have GU : Hid (Gu i l n) := gu
      have h10 : (i : Int) < 10 := by omega
      clear C gu
      go_wp2_with fail
      refine (GC.out _ (HW.out.later HR.out.1)).mono ?_
      rintro e w1 ⟨rfl, b1⟩
      have S1 : Hid (Below w.heap.size w w1 ∧ Blk w.heap.size 23 (ntC Nt.zero).toList w1) := ⟨below_trans HR.out.1 b1, HR.out.2.1.below b1⟩
      have S2 : Hid (Below w.heap.size w (w1.alloc (.cells (ntC n) 23)) ∧ Blk w.heap.size 23 (ntC Nt.zero).toList (w1.alloc (.cells (ntC n) 23)) ∧ Blk w1.heap.size 23 (ntC n).toList (w1.alloc (.cells (ntC n) 23))) := ⟨below_trans S1.out.1 (below_alloc _ _), S1.out.2.old _, Blk.new _ _ _⟩
      clear b1 S1 GC
      by_cases hm : may n
      · by_cases he : letN n = l
        · have EA : Hid (letA n = .tuple #[.string ⟨l.toArray⟩, .bool true]) := by
            show _ = _
            unfold letA
            rw [if_pos hm, he]
          have YS : Hid (RdL l n true) := ⟨fun _ => ⟨hm, GU.out.ok, GU.out.ack, he⟩, (fun e => by cases e)⟩
          clear hm he GU HR
          rw [EA.out] at LC
          clear EA
          obtain ⟨id, loan, kind, day, amt, ack⟩ := n
          go_upto_region 5 with fail
          generalize w1.alloc (.cells #[.int .i64 id, .int .i64 loan, .int .i64 kind, .int .i64 day, .int .i64 amt, .bool ack] 23) = W2 at *
          generalize w1.heap.size = N at *
          have n0 := S2.out.2.2.cell 0 _ rfl
          have n1 := S2.out.2.2.cell 1 _ rfl
          have n2 := S2.out.2.2.cell 2 _ rfl
          have n3 := S2.out.2.2.cell 3 _ rfl
          have n4 := S2.out.2.2.cell 4 _ rfl
          have n5 := S2.out.2.2.cell 5 _ rfl
          go_wp2_with fail
          refine (LC.out _ (HW.out.later S2.out.1)).mono ?_
          rintro e w3 ⟨rfl, b3⟩
          have S3 : Hid (Below w.heap.size w w3 ∧ Blk w.heap.size 23 (ntC Nt.zero).toList w3 ∧ Blk N 23 (ntC ⟨id, loan, kind, day, amt, ack⟩).toList w3) := ⟨below_trans S2.out.1 b3, S2.out.2.1.below b3, S2.out.2.2.below b3⟩
          clear b3 S2 n0 n1 n2 n3 n4 n5 LC
          go_wp2_with (first
            | (refine step_load rfl 23 _ rfl N 0 rfl (ntC ⟨id, loan, kind, day, amt, ack⟩).toList _ S3.out.2.2.all Tryd.underlying23 rfl (sizeNt _) ?_)
            | (refine step_store rfl 23 _ _ rfl w.heap.size 0 23 (ntC Nt.zero).toList (ntC ⟨id, loan, kind, day, amt, ack⟩).toList rfl rfl S3.out.2.1 (Nat.le_refl _) (sizeNt _) (oneNt _) ?_; intro w14 n14 g14))
          have S14 : Hid (Blk w.heap.size 23 (ntC ⟨id, loan, kind, day, amt, ack⟩).toList w14 ∧ Below w.heap.size w w14) := ⟨n14, below_row S3.out.1 g14 (Nat.le_refl _)⟩
          refine ret_blk_tmp rfl rfl w.heap.size 23 (ntC ⟨id, loan, kind, day, amt, ack⟩).toList _ rfl S14.out.1 Tryd.underlying23 rfl (sizeNt _) ?_
          exact ⟨_, _, YS.out, rfl, S14.out.2⟩
        · have EA : Hid (letA n = .tuple #[.string ⟨(letN n).toArray⟩, .bool true]) := if_pos hm
          have NX : Hid (∀ m : RpM.Nt, may m → m.Ok → m.kind < (i : Int) + 1 → letN m ≠ l) := fun m hm2 om hk h => by
            by_cases hki : m.kind < (i : Int)
            · exact HR.out.2.2 m hm2 om hki h
            · have e := gu_let (k := i) hm2 om (by omega) (by rw [h]; exact GU.out)
              apply he
              rw [e]
              exact h
          have hb : (({ data := (letN n).toArray } : ByteArray).toList == ({ data := l.toArray } : ByteArray).toList) = false := by rw [bytes_ne, decide_eq_false he]
          have hb2 : (letN n == l) = false := by simpa using he
          generalize letN n = LN at *
          clear hm GU HR
          rw [EA.out] at LC
          clear EA
          obtain ⟨id, loan, kind, day, amt, ack⟩ := n
          go_upto_region 5 with fail
          generalize w1.alloc (.cells #[.int .i64 id, .int .i64 loan, .int .i64 kind, .int .i64 day, .int .i64 amt, .bool ack] 23) = W2 at *
          generalize w1.heap.size = N at *
          have n0 := S2.out.2.2.cell 0 _ rfl
          have n1 := S2.out.2.2.cell 1 _ rfl
          have n2 := S2.out.2.2.cell 2 _ rfl
          have n3 := S2.out.2.2.cell 3 _ rfl
          have n4 := S2.out.2.2.cell 4 _ rfl
          have n5 := S2.out.2.2.cell 5 _ rfl
          go_wp2_with fail
          refine (LC.out _ (HW.out.later S2.out.1)).mono ?_
          rintro e w3 ⟨rfl, b3⟩
          have S3 : Hid (Below w.heap.size w w3 ∧ Blk w.heap.size 23 (ntC Nt.zero).toList w3 ∧ Blk N 23 (ntC ⟨id, loan, kind, day, amt, ack⟩).toList w3) := ⟨below_trans S2.out.1 b3, S2.out.2.1.below b3, S2.out.2.2.below b3⟩
          clear b3 S2 n0 n1 n2 n3 n4 n5 LC
          go_wp2_with fail
          go_roundw
          case rel => exact ⟨i + 1, by go_num, by omega, S3.out.1, S3.out.2.1, by rw [Int.natCast_add]; exact NX.out⟩
          case measure => simp [Go.RowKit.intOf]; omega
      · have EA : Hid (letA n = .tuple #[.string ⟨#[]⟩, .bool false]) := if_neg hm
        have NX : Hid (∀ m : RpM.Nt, may m → m.Ok → m.kind < (i : Int) + 1 → letN m ≠ l) := fun m hm2 om hk h => by
          by_cases hki : m.kind < (i : Int)
          · exact HR.out.2.2 m hm2 om hki h
          · have e := gu_let (k := i) hm2 om (by omega) (by rw [h]; exact GU.out)
            apply hm
            rw [e]
            exact hm2
        clear hm GU HR
        rw [EA.out] at LC
        clear EA
        obtain ⟨id, loan, kind, day, amt, ack⟩ := n
        go_upto_region 5 with fail
        generalize w1.alloc (.cells #[.int .i64 id, .int .i64 loan, .int .i64 kind, .int .i64 day, .int .i64 amt, .bool ack] 23) = W2 at *
        generalize w1.heap.size = N at *
        have n0 := S2.out.2.2.cell 0 _ rfl
        have n1 := S2.out.2.2.cell 1 _ rfl
        have n2 := S2.out.2.2.cell 2 _ rfl
        have n3 := S2.out.2.2.cell 3 _ rfl
        have n4 := S2.out.2.2.cell 4 _ rfl
        have n5 := S2.out.2.2.cell 5 _ rfl
        go_wp2_with fail
        refine (LC.out _ (HW.out.later S2.out.1)).mono ?_
        rintro e w3 ⟨rfl, b3⟩
        have S3 : Hid (Below w.heap.size w w3 ∧ Blk w.heap.size 23 (ntC Nt.zero).toList w3 ∧ Blk N 23 (ntC ⟨id, loan, kind, day, amt, ack⟩).toList w3) := ⟨below_trans S2.out.1 b3, S2.out.2.1.below b3, S2.out.2.2.below b3⟩
        clear b3 S2 n0 n1 n2 n3 n4 n5 LC
        go_wp2_with fail
        go_roundw
        case rel => exact ⟨i + 1, by go_num, by omega, S3.out.1, S3.out.2.1, by rw [Int.natCast_add]; exact NX.out⟩
        case measure => simp [Go.RowKit.intOf]; omega
    · have h10 : ¬ (i : Int) < 10 := by omega
      have NS : Hid (RdL l Nt.zero false) := ⟨(fun e => by cases e), fun _ => ⟨rfl, fun m hm om => HR.out.2.2 m hm om (by obtain ⟨_, _, _, h4, _⟩ := hm; omega)⟩⟩
      have S3 : Hid (Below w.heap.size w wr ∧ Blk w.heap.size 23 (ntC Nt.zero).toList wr) := ⟨HR.out.1, HR.out.2.1⟩
      clear HR
      go_wp2_with (refine step_store rfl 23 _ _ rfl w.heap.size 0 23 (ntC Nt.zero).toList (ntC Nt.zero).toList rfl rfl S3.out.2 (Nat.le_refl _) (sizeNt _) (oneNt _) ?_; intro w14 n14 g14)
      have S14 : Hid (Blk w.heap.size 23 (ntC Nt.zero).toList w14 ∧ Below w.heap.size w w14) := ⟨n14, below_row S3.out.1 g14 (Nat.le_refl _)⟩
      refine ret_blk_tmp rfl rfl w.heap.size 23 (ntC Nt.zero).toList _ rfl S14.out.1 Tryd.underlying23 rfl (sizeNt _) ?_
      exact ⟨_, _, NS.out, rfl, S14.out.2⟩
end Go.Proofs.YtpkgdkgbbbbaoaaDoor
