/-
  Ours: the walk of ReportLetterBack. (gen_rplb.py)
-/
import Derived.Test.YtpkgdkgbbbbaoaaDoorRpRd
namespace Go.Proofs.YtpkgdkgbbbbaoaaDoor
open Go.RowKit Go.Lib CalM RpM
set_option maxRecDepth 20000 in
theorem nt_same (n : RpM.Nt) (w : World) : (Op.equalIn 10000 23 (ntV n) (ntV n)).run Tryd.prog w = .ok true w := by
  have u3 := Tryd.underlying3
  have u2 := Tryd.underlying2
  have u4 := Tryd.underlying4
  have a3 : ∀ w, (isAgg 3).run Tryd.prog w = .ok false w := fun w => by unfold isAgg; rw [Sem.run_bind, run_underlying u3 w]; rfl
  have a2 : ∀ w, (isAgg 2).run Tryd.prog w = .ok false w := fun w => by unfold isAgg; rw [Sem.run_bind, run_underlying u2 w]; rfl
  have a4 : ∀ w, (isAgg 4).run Tryd.prog w = .ok false w := fun w => by unfold isAgg; rw [Sem.run_bind, run_underlying u4 w]; rfl
  have z3 : (Tryd.prog.info? 3).map (·.size) = some 1 := by kernel_rfl
  have z2 : (Tryd.prog.info? 2).map (·.size) = some 1 := by kernel_rfl
  have z4 : (Tryd.prog.info? 4).map (·.size) = some 1 := by kernel_rfl
  have s3 : ∀ w, (sizeOf 3).run Tryd.prog w = .ok 1 w := fun w => by
    cases hq : Tryd.prog.info? 3 with
    | none => simp [hq] at z3
    | some i => have : i.size = 1 := by simpa [hq] using z3
                simp [sizeOf, typeInfo, hq, this]
  have s2 : ∀ w, (sizeOf 2).run Tryd.prog w = .ok 1 w := fun w => by
    cases hq : Tryd.prog.info? 2 with
    | none => simp [hq] at z2
    | some i => have : i.size = 1 := by simpa [hq] using z2
                simp [sizeOf, typeInfo, hq, this]
  have s4 : ∀ w, (sizeOf 4).run Tryd.prog w = .ok 1 w := fun w => by
    cases hq : Tryd.prog.info? 4 with
    | none => simp [hq] at z4
    | some i => have : i.size = 1 := by simpa [hq] using z4
                simp [sizeOf, typeInfo, hq, this]
  have hS : Tryd.prog.underlying 23 = some (.struct (Tryd.prog.fieldsOf 23)) := by kernel_rfl
  have hp : Tryd.prog.stoodInHeld 23 = false := by kernel_rfl
  rw [show (10000 : Nat) = 9999 + 1 from rfl, run_equalIn_agg w 9999 23 _ _ hS hp]
  simp only [Program.fieldsOf, Tryd.underlying23]
  go_simp
theorem nt_neq (n : RpM.Nt) (w : World) : (binOp .neq 23 (ntV n) (ntV n)).run Tryd.prog w = .ok (.bool false) w := by
  rw [run_neq_struct, nt_same]; rfl
theorem nt_eql (n : RpM.Nt) (w : World) : (binOp .eql 23 (ntV n) (ntV n)).run Tryd.prog w = .ok (.bool true) w := by
  rw [run_eql_struct, nt_same]; rfl

set_option maxRecDepth 100000 in
set_option maxHeartbeats 4000000 in
theorem letterBack_any (n : RpM.Nt) (on : n.Ok) (l : List UInt8) (hl : l.length < 4294967281) (w : World) (hw : RpW w) : Calls Tryd.prog 3 #[ntV n, .string ⟨l.toArray⟩] w fun e w' => e = .returned (.bool true) ∧ Below w.heap.size w w' := by
  have HW : Hid (RpW w) := hw
  have LC : ∀ m : RpM.Nt, m.Ok → Hid (∀ w, RpW w → Calls Tryd.prog 5 #[ntV m] w fun e w' => e = .returned (letA m) ∧ Below w.heap.size w w') := fun m om w hw => letter_at m om w hw
  have RC : Hid (∀ l : List UInt8, l.length < 4294967281 → ∀ w, RpW w → Calls Tryd.prog 6 #[.string ⟨l.toArray⟩] w (RdPost l w)) := fun l hl w hw => readLetter_at l hl w hw
  have HL : Hid (l.length < 4294967281) := hl
  have ON : Hid n.Ok := on
  have AN0 : Hid (¬ may n → letA n = .tuple #[.string ⟨#[]⟩, .bool false]) := fun h => if_neg h
  have AN1 : Hid (may n → letA n = .tuple #[.string ⟨(letN n).toArray⟩, .bool true]) := fun h => if_pos h
  have RD : Hid (may n → ∀ (m : RpM.Nt) (b : Bool), RdL (letN n) m b → m = { n with ack := false } ∧ b = true) := fun h m b hR => RdL.uniq (c := true) hR ⟨fun _ => ⟨h, ⟨on.id, on.loan, on.kind, on.day, on.amt⟩, rfl, rfl⟩, (fun e => by cases e)⟩
  have LN : Hid (may n → (letN n).length < 4294967281) := fun h => by have := letN_len h on; omega
  have Hm : Hid (may n ↔ (1 ≤ n.id ∧ 1 ≤ n.loan ∧ 1 ≤ n.kind ∧ n.kind ≤ 9 ∧ 1 ≤ n.day ∧ n.day ≤ 3652059 ∧ 0 ≤ n.amt)) := Iff.rfl
  have LC1 : Hid (∀ w, RpW w → Calls Tryd.prog 5 #[ntV n] w fun e w' => e = .returned (letA n) ∧ Below w.heap.size w w') := LC n on
  generalize letA n = LA at *
  generalize letN n = LT at *
  obtain ⟨D, hD⟩ : ∃ D : Bool, decide (may n) = D := ⟨_, rfl⟩
  have HD : Hid (decide (may n) = D) := hD
  clear hw on hD
  obtain ⟨id, loan, kind, day, amt, ack⟩ := n
  have NB : Hid (Blk w.heap.size 23 (ntC ⟨id, loan, kind, day, amt, ack⟩).toList (w.alloc (.cells (ntC ⟨id, loan, kind, day, amt, ack⟩) 23)) ∧ Below w.heap.size w (w.alloc (.cells (ntC ⟨id, loan, kind, day, amt, ack⟩) 23))) := ⟨Blk.new _ _ _, below_alloc _ _⟩
  go_enter Tryd.func3, Tryd.ntmps3
  go_upto_region 1 with fail
  generalize w.alloc (.cells #[.int .i64 id, .int .i64 loan, .int .i64 kind, .int .i64 day, .int .i64 amt, .bool ack] 23) = W at *
  have n0 := NB.out.1.cell 0 _ rfl
  have n1 := NB.out.1.cell 1 _ rfl
  have n2 := NB.out.1.cell 2 _ rfl
  have n3 := NB.out.1.cell 3 _ rfl
  have n4 := NB.out.1.cell 4 _ rfl
  have n5 := NB.out.1.cell 5 _ rfl
  go_cut [5] from 14 to 46 (fun c wx => c = .bool D ∧ wx = W)
  case first =>
    by_cases h0 : 1 ≤ id
    · skip
      by_cases h1 : 1 ≤ loan
      · skip
        by_cases h2 : 1 ≤ kind
        · skip
          by_cases h3 : kind ≤ 9
          · skip
            by_cases h4 : 1 ≤ day
            · skip
              by_cases h5 : day ≤ 3652059
              · skip
                by_cases h6 : 0 ≤ amt
                · skip
                  have E : Hid (D = true) := by
                    show _ = _
                    rw [← HD.out, decide_eq_true]
                    exact Hm.out.2 (by simp only; omega)
                  go_wp2_with fail
                  go_meet
                  case rel => exact ⟨by rw [E.out], rfl⟩
                · skip
                  have E : Hid (D = false) := by
                    show _ = _
                    rw [← HD.out, decide_eq_false]
                    intro h
                    have := Hm.out.1 h
                    simp only at this
                    omega
                  go_wp2_with fail
                  go_meet
                  case rel => exact ⟨by rw [E.out], rfl⟩
              · skip
                have E : Hid (D = false) := by
                  show _ = _
                  rw [← HD.out, decide_eq_false]
                  intro h
                  have := Hm.out.1 h
                  simp only at this
                  omega
                go_wp2_with fail
                go_meet
                case rel => exact ⟨by rw [E.out], rfl⟩
            · skip
              have E : Hid (D = false) := by
                show _ = _
                rw [← HD.out, decide_eq_false]
                intro h
                have := Hm.out.1 h
                simp only at this
                omega
              go_wp2_with fail
              go_meet
              case rel => exact ⟨by rw [E.out], rfl⟩
          · skip
            have E : Hid (D = false) := by
              show _ = _
              rw [← HD.out, decide_eq_false]
              intro h
              have := Hm.out.1 h
              simp only at this
              omega
            go_wp2_with fail
            go_meet
            case rel => exact ⟨by rw [E.out], rfl⟩
        · skip
          have E : Hid (D = false) := by
            show _ = _
            rw [← HD.out, decide_eq_false]
            intro h
            have := Hm.out.1 h
            simp only at this
            omega
          go_wp2_with fail
          go_meet
          case rel => exact ⟨by rw [E.out], rfl⟩
      · skip
        have E : Hid (D = false) := by
          show _ = _
          rw [← HD.out, decide_eq_false]
          intro h
          have := Hm.out.1 h
          simp only at this
          omega
        go_wp2_with fail
        go_meet
        case rel => exact ⟨by rw [E.out], rfl⟩
    · skip
      have E : Hid (D = false) := by
        show _ = _
        rw [← HD.out, decide_eq_false]
        intro h
        have := Hm.out.1 h
        simp only at this
        omega
      go_wp2_with fail
      go_meet
      case rel => exact ⟨by rw [E.out], rfl⟩
  case rest =>
    obtain ⟨rfl, rfl⟩ := hcut
    go_wp2_with fail
    refine (LC1.out _ (HW.out.later NB.out.2)).mono ?_
    rintro e w2 ⟨rfl, b2⟩
    have S2 : Hid (Below w.heap.size w w2 ∧ Blk w.heap.size 23 (ntC ⟨id, loan, kind, day, amt, ack⟩).toList w2) := ⟨below_trans NB.out.2 b2, NB.out.1.below b2⟩
    clear b2 n0 n1 n2 n3 n4 n5 NB LC1
    by_cases hm : may ⟨id, loan, kind, day, amt, ack⟩
    · have EA : Hid (LA = _) := AN1.out hm
      have ED : Hid (D = true) := by show _ = _; rw [← HD.out]; exact decide_eq_true hm
      have RX : Hid (∀ (m : RpM.Nt) (b : Bool), RdL LT m b → m = ⟨id, loan, kind, day, amt, false⟩ ∧ b = true) := RD.out hm
      have LX : Hid (LT.length < 4294967281) := LN.out hm
      rw [EA.out, ED.out]
      clear EA ED hm AN0 AN1 RD LN Hm HD
      go_wp2_with fail
      refine (RC.out _ LX.out _ (HW.out.later S2.out.1)).mono ?_
      rintro e w4 ⟨m, b, hR, rfl, b4⟩
      obtain ⟨rfl, rfl⟩ := RX.out m b hR
      clear hR
      have S4 : Hid (Below w.heap.size w (w4.alloc (.cells (ntC ⟨id, loan, kind, day, amt, false⟩) 23)) ∧ Blk w.heap.size 23 (ntC ⟨id, loan, kind, day, amt, ack⟩).toList (w4.alloc (.cells (ntC ⟨id, loan, kind, day, amt, false⟩) 23)) ∧ Blk w4.heap.size 23 (ntC ⟨id, loan, kind, day, amt, false⟩).toList (w4.alloc (.cells (ntC ⟨id, loan, kind, day, amt, false⟩) 23))) := ⟨below_trans (below_trans S2.out.1 b4) (below_alloc _ _), (S2.out.2.below b4).old _, Blk.new _ _ _⟩
      clear b4 S2
      go_upto_region 7 with fail
      generalize w4.alloc (.cells #[.int .i64 id, .int .i64 loan, .int .i64 kind, .int .i64 day, .int .i64 amt, .bool false] 23) = W4 at *
      generalize w4.heap.size = N at *
      have n0 := S4.out.2.1.cell 0 _ rfl
      have n1 := S4.out.2.1.cell 1 _ rfl
      have n2 := S4.out.2.1.cell 2 _ rfl
      have n3 := S4.out.2.1.cell 3 _ rfl
      have n4 := S4.out.2.1.cell 4 _ rfl
      have m0 := S4.out.2.2.cell 0 _ rfl
      have m1 := S4.out.2.2.cell 1 _ rfl
      have m2 := S4.out.2.2.cell 2 _ rfl
      have m3 := S4.out.2.2.cell 3 _ rfl
      have m4 := S4.out.2.2.cell 4 _ rfl
      have m5 := S4.out.2.2.cell 5 _ rfl
      have NQ := nt_neq ⟨id, loan, kind, day, amt, false⟩
      go_wp2_with fail
      refine (RC.out _ HL.out _ (HW.out.later S4.out.1)).mono ?_
      rintro e w6 ⟨m, b, hR, rfl, b6⟩
      have S6 : Hid (Below w.heap.size w w6) := below_trans S4.out.1 b6
      clear b6
      have Z6 : Hid (Below w.heap.size w (w6.alloc (.cells (ntC m) 23)) ∧ Blk w6.heap.size 23 (ntC m).toList (w6.alloc (.cells (ntC m) 23))) := ⟨below_trans S6.out (below_alloc _ _), Blk.new _ _ _⟩
      cases b with
      | false =>
        obtain ⟨rfl, _⟩ := hR.no rfl
        have EZ := nt_eql Nt.zero
        go_wp2_with fail
        go_ret
        exact ⟨rfl, Z6.out.1⟩
      | true =>
        obtain ⟨hm, om, ha, ht⟩ := hR.yes rfl
        have LM : Hid (∀ w, RpW w → Calls Tryd.prog 5 #[ntV m] w fun e w' => e = .returned (.tuple #[.string ⟨l.toArray⟩, .bool true]) ∧ Below w.heap.size w w') := by
          have := (LC m om)
          rw [show letA m = .tuple #[.string ⟨l.toArray⟩, .bool true] by unfold letA; rw [if_pos hm, ht]] at this
          exact this
        obtain ⟨mi, ml, mk, md, ma, mc⟩ := m
        simp only at ha
        subst ha
        clear hR hm om ht
        go_wp2_with fail
        refine (LM.out _ (HW.out.later Z6.out.1)).mono ?_
        rintro e w7 ⟨rfl, b7⟩
        have S7 : Hid (Below w.heap.size w w7) := below_trans Z6.out.1 b7
        have c5 : w7.cell? ⟨w6.heap.size, 5, none⟩ = some (.bool false) := (Z6.out.2.below b7).cell 5 _ rfl
        clear b7
        go_wp2_with fail
        go_ret
        exact ⟨rfl, S7.out⟩
    · have EA : Hid (LA = _) := AN0.out hm
      have ED : Hid (D = false) := by show _ = _; rw [← HD.out]; exact decide_eq_false hm
      rw [EA.out, ED.out]
      clear EA ED hm AN0 AN1 RD LN Hm HD
      go_wp2_with fail
      refine (RC.out _ HL.out _ (HW.out.later S2.out.1)).mono ?_
      rintro e w6 ⟨m, b, hR, rfl, b6⟩
      have S6 : Hid (Below w.heap.size w w6) := below_trans S2.out.1 b6
      clear b6
      have Z6 : Hid (Below w.heap.size w (w6.alloc (.cells (ntC m) 23)) ∧ Blk w6.heap.size 23 (ntC m).toList (w6.alloc (.cells (ntC m) 23))) := ⟨below_trans S6.out (below_alloc _ _), Blk.new _ _ _⟩
      cases b with
      | false =>
        obtain ⟨rfl, _⟩ := hR.no rfl
        have EZ := nt_eql Nt.zero
        go_wp2_with fail
        go_ret
        exact ⟨rfl, Z6.out.1⟩
      | true =>
        obtain ⟨hm, om, ha, ht⟩ := hR.yes rfl
        have LM : Hid (∀ w, RpW w → Calls Tryd.prog 5 #[ntV m] w fun e w' => e = .returned (.tuple #[.string ⟨l.toArray⟩, .bool true]) ∧ Below w.heap.size w w') := by
          have := (LC m om)
          rw [show letA m = .tuple #[.string ⟨l.toArray⟩, .bool true] by unfold letA; rw [if_pos hm, ht]] at this
          exact this
        obtain ⟨mi, ml, mk, md, ma, mc⟩ := m
        simp only at ha
        subst ha
        clear hR hm om ht
        go_wp2_with fail
        refine (LM.out _ (HW.out.later Z6.out.1)).mono ?_
        rintro e w7 ⟨rfl, b7⟩
        have S7 : Hid (Below w.heap.size w w7) := below_trans Z6.out.1 b7
        have c5 : w7.cell? ⟨w6.heap.size, 5, none⟩ = some (.bool false) := (Z6.out.2.below b7).cell 5 _ rfl
        clear b7
        go_wp2_with fail
        go_ret
        exact ⟨rfl, S7.out⟩
end Go.Proofs.YtpkgdkgbbbbaoaaDoor
