/-
  Ours: NetworkQueue, where every letter is a fate.
-/
import Derived.Test.YtblfolaakblcfaaNwQue
namespace Go.Proofs.Ytblfolaakblcfaa
open Go.RowKit NwM

abbrev Sm0 := Sm
theorem sm_fs {ls : List Nat} (h : ls.length ≤ 4096) : Sm0 0 { nt0 with fs := ls } := ⟨rfl, Nat.le_refl _, Nat.le_refl _, h⟩
set_option maxRecDepth 40000 in
set_option maxHeartbeats 8000000 in
theorem queue_good (s : ByteArray) (A : Nat) (w : World) (h0 : 0 < s.size) (h64 : s.size ≤ 64) (hA : A ≤ s.size) (hF : ∀ b ∈ bytesOf s, isF b) :
    Calls Try.prog 4 #[.string s, .int .i64 ((A : Nat) : Int)] w fun e w' => e = .returned (.bool true) ∧ Below w.heap.size w w' := by
  have HF : Hid (∀ b ∈ bytesOf s, isF b) := hF
  clear hF
  have NW : Hid (∀ w, Calls Try.prog 9 #[] w (NewN w)) := new_at
  have HH : Hid (0 < s.size ∧ s.size ≤ 64 ∧ A ≤ s.size) := ⟨h0, h64, hA⟩
  have e1 : ((s.size : Int) == 0) = false := by rw [beq_eq_false_iff_ne]; omega
  have e2 : decide ((64 : Int) < (s.size : Int)) = false := decide_eq_false (by omega)
  have e3 : decide (((A : Nat) : Int) < 0) = false := decide_eq_false (by omega)
  have e4 : decide ((s.size : Int) < ((A : Nat) : Int)) = false := decide_eq_false (by omega)
  have e4n : decide (s.size < A) = false := decide_eq_false (by omega)
  clear h0 hA
  go_enter Try.func4, Try.ntmps4
  go_wp2_with fail
  refine (NW.out w).mono ?_
  intro e w1 h1
  obtain ⟨R, S, rfl, n1⟩ := NO.new h1
  have N1 : Hid (NO w R S (fun _ => False) nt0 w1) := n1
  clear h1 n1
  go_wp2_with fail
  refine (NW.out w1).mono ?_
  intro e w2 h2
  obtain ⟨R2, S2, rfl, n2⟩ := TwoN.new N1.out h2
  have N2 : Hid (TwoN w R S (fun _ => False) nt0 R2 S2 (fun _ => False) nt0 w2) := n2
  clear h2 n2 NW N1
  have FA : Hid (Calls Try.prog 10 #[.pointer (some ⟨R, 0, none⟩), .string s] w2 fun e w' => e = .returned (.int .i64 0) ∧ ∃ S', NPost R S (fun _ => False) w2 { nt0 with fs := bytesOf s } S' (fun _ => False) w') := by
    have q := fate_all (t := nt0) (s := s) HF.out HH.out.1 HH.out.2.1 (by show 0 + s.size ≤ 4096; omega)
    have := fate_at R S (fun _ => False) nt0 s w2 N2.out.a.net (by decide)
    rw [q.1, q.2] at this
    exact this
  go_wp2_with fail
  refine FA.out.mono ?_
  rintro e w3 ⟨rfl, S3, p3⟩
  have N3 : Hid (TwoN w R S3 (fun _ => False) { nt0 with fs := bytesOf s } R2 S2 (fun _ => False) nt0 w3) := N2.out.stepA p3
  clear FA p3 N2
  go_wp2_with fail
  go_loopw [8] (fun vk wr => ∃ k : Nat, vk = .int .i64 (k : Int) ∧ k ≤ s.size ∧ w3 = wr) (fun vk _ => s.size - (intOf vk).toNat)
  case atStart => exact ⟨0, rfl, by omega, rfl⟩
  case round =>
    obtain ⟨k, rfl, hk, rfl⟩ := hrel
    by_cases hlt : (k : Int) < (s.size : Int)
    · obtain ⟨c, hc⟩ : ∃ c, (bytesOf s)[k]? = some c := ⟨(bytesOf s)[k]'(by rw [bytesOf_len]; omega), List.getElem?_eq_getElem _⟩
      have ix := index_at s hc
      have hFc : isF c := HF.out c (List.mem_of_getElem? hc)
      have hks : k < s.size := by omega
      clear hc
      rcases hFc with cx | cd | ⟨c1, c2⟩
      · subst cx
        go_wp2_with fail
        go_roundw
        case rel => exact ⟨k + 1, by go_num, by omega, trivial⟩
        case measure => simp [intOf]; omega
      · subst cd
        go_wp2_with fail
        go_roundw
        case rel => exact ⟨k + 1, by go_num, by omega, trivial⟩
        case measure => simp [intOf]; omega
      · have t1 : (((c : Nat) : Int) != 120) = true := by rw [bne_iff_ne]; omega
        have t2 : (((c : Nat) : Int) != 100) = true := by rw [bne_iff_ne]; omega
        have t3 : decide (((c : Nat) : Int) < 49) = false := decide_eq_false (by omega)
        have t4 : decide ((57 : Int) < ((c : Nat) : Int)) = false := decide_eq_false (by omega)
        have c256 : c ≤ 57 := c2
        clear c1 c2
        go_wp2_with fail
        go_roundw
        case rel => exact ⟨k + 1, by go_num, by omega, trivial⟩
        case measure => simp [intOf]; omega
    · obtain rfl : k = s.size := by omega
      clear hlt hk
      go_upto_region 14 with fail
      go_cut [101] from 74 to 101 (fun v wx => v = .bool false ∧ ∃ S5, Hid (TwoN w R S3 (fun _ => False) { nt0 with fs := bytesOf s } R2 S5 (fun _ => False) { nt0 with fs := bytesOf s } wx))
      case first =>
        have HG : Hid (∀ b ∈ bytesOf s, isF b) := HF.out
        by_cases a0 : A = 0
        · have sf := fun W => str_from s A (by omega) W
          have FB : Hid (Calls Try.prog 10 #[.pointer (some ⟨R2, 0, none⟩), .string (s.extract A s.size)] w3 fun e w' => e = .returned (.int .i64 0) ∧ ∃ S', NPost R2 S2 (fun _ => False) w3 { nt0 with fs := bytesOf s } S' (fun _ => False) w') := by
            have eb : bytesOf (s.extract A s.size) = bytesOf s := by rw [bytesOf_cut, a0, List.drop_zero, List.take_of_length_le (by rw [bytesOf_len]; exact Nat.le_refl _)]
            have es : (s.extract A s.size).size = s.size := by rw [← bytesOf_len, eb, bytesOf_len]
            have q := fate_all (t := nt0) (s := s.extract A s.size) (by rw [eb]; exact HG.out) (by rw [es]; exact HH.out.1) (by rw [es]; exact HH.out.2.1) (by rw [es]; show 0 + s.size ≤ 4096; omega)
            have := fate_at R2 S2 (fun _ => False) nt0 (s.extract A s.size) w3 N3.out.b.net (by decide)
            rw [q.1, q.2, eb] at this
            exact this
          have d1 : decide ((0 : Int) < ((A : Nat) : Int)) = false := decide_eq_false (by omega)
          have d1n : decide (0 < A) = false := decide_eq_false (by omega)
          have d2 : decide (((A : Nat) : Int) < (s.size : Int)) = true := decide_eq_true (by have := HH.out.1; omega)
          have d2n : decide (A < s.size) = true := decide_eq_true (by have := HH.out.1; omega)
          have hAle : A ≤ s.size := by omega
          generalize s.extract A s.size = s2 at *
          clear a0
          go_wp2_with fail
          refine FB.out.mono ?_
          rintro e w4 ⟨rfl, S4, p4⟩
          have T4 : Hid (TwoN w R S3 (fun _ => False) { nt0 with fs := bytesOf s } R2 S4 (fun _ => False) { nt0 with fs := bytesOf s } w4) := N3.out.stepB p4
          clear FB p4
          go_wp2_with fail
          go_meet
          case rel => exact ⟨rfl, S4, T4⟩
        · by_cases aL : A = s.size
          · have st := fun W => str_to s A (by omega) W
            have FB : Hid (Calls Try.prog 10 #[.pointer (some ⟨R2, 0, none⟩), .string (s.extract 0 A)] w3 fun e w' => e = .returned (.int .i64 0) ∧ ∃ S', NPost R2 S2 (fun _ => False) w3 { nt0 with fs := bytesOf s } S' (fun _ => False) w') := by
              have eb : bytesOf (s.extract 0 A) = bytesOf s := by rw [bytesOf_cut, List.drop_zero, List.take_of_length_le (by rw [bytesOf_len]; omega)]
              have es : (s.extract 0 A).size = s.size := by rw [← bytesOf_len, eb, bytesOf_len]
              have q := fate_all (t := nt0) (s := s.extract 0 A) (by rw [eb]; exact HG.out) (by rw [es]; exact HH.out.1) (by rw [es]; exact HH.out.2.1) (by rw [es]; show 0 + s.size ≤ 4096; omega)
              have := fate_at R2 S2 (fun _ => False) nt0 (s.extract 0 A) w3 N3.out.b.net (by decide)
              rw [q.1, q.2, eb] at this
              exact this
            have d1 : decide ((0 : Int) < ((A : Nat) : Int)) = true := decide_eq_true (by omega)
            have d1n : decide (0 < A) = true := decide_eq_true (by omega)
            have d2 : decide (((A : Nat) : Int) < (s.size : Int)) = false := decide_eq_false (by omega)
            have d2n : decide (A < s.size) = false := decide_eq_false (by omega)
            have hAle : A ≤ s.size := by omega
            generalize s.extract 0 A = s2 at *
            clear a0 aL
            go_wp2_with fail
            refine FB.out.mono ?_
            rintro e w4 ⟨rfl, S4, p4⟩
            have T4 : Hid (TwoN w R S3 (fun _ => False) { nt0 with fs := bytesOf s } R2 S4 (fun _ => False) { nt0 with fs := bytesOf s } w4) := N3.out.stepB p4
            clear FB p4
            go_wp2_with fail
            go_meet
            case rel => exact ⟨rfl, S4, T4⟩
          · have hAle : A ≤ s.size := HH.out.2.2
            have st := fun W => str_to s A hAle W
            have sf := fun W => str_from s A hAle W
            have eb1 : bytesOf (s.extract 0 A) = (bytesOf s).take A := by rw [bytesOf_cut, List.drop_zero]
            have eb2 : bytesOf (s.extract A s.size) = (bytesOf s).drop A := by rw [bytesOf_cut, List.take_of_length_le (by rw [bytesOf_len]; exact Nat.le_refl _)]
            have es1 : (s.extract 0 A).size = A := by rw [← bytesOf_len, eb1, List.length_take, bytesOf_len]; omega
            have es2 : (s.extract A s.size).size = s.size - A := by rw [← bytesOf_len, eb2, List.length_drop, bytesOf_len]
            have FB : Hid (Calls Try.prog 10 #[.pointer (some ⟨R2, 0, none⟩), .string (s.extract 0 A)] w3 fun e w' => e = .returned (.int .i64 0) ∧ ∃ S', NPost R2 S2 (fun _ => False) w3 { nt0 with fs := (bytesOf s).take A } S' (fun _ => False) w') := by
              have q := fate_all (t := nt0) (s := s.extract 0 A) (by rw [eb1]; exact fun b hb => HG.out b (List.mem_of_mem_take hb)) (by rw [es1]; omega) (by rw [es1]; omega) (by rw [es1]; show 0 + A ≤ 4096; omega)
              have := fate_at R2 S2 (fun _ => False) nt0 (s.extract 0 A) w3 N3.out.b.net (by decide)
              rw [q.1, q.2, eb1] at this
              exact this
            have FC : Hid (∀ w' S', NetAt R2 S' (fun _ => False) { nt0 with fs := (bytesOf s).take A } w' → Calls Try.prog 10 #[.pointer (some ⟨R2, 0, none⟩), .string (s.extract A s.size)] w' fun e w'' => e = .returned (.int .i64 0) ∧ ∃ S'', NPost R2 S' (fun _ => False) w' { nt0 with fs := bytesOf s } S'' (fun _ => False) w'') := fun w' S' hn => by
              have hl : ((bytesOf s).take A).length = A := by rw [List.length_take, bytesOf_len]; omega
              have q := fate_all (t := { nt0 with fs := (bytesOf s).take A }) (s := s.extract A s.size) (by rw [eb2]; exact fun b hb => HG.out b (List.mem_of_mem_drop hb)) (by rw [es2]; omega) (by rw [es2]; omega) (by rw [es2]; show ((bytesOf s).take A).length + (s.size - A) ≤ 4096; omega)
              have := fate_at R2 S' (fun _ => False) { nt0 with fs := (bytesOf s).take A } (s.extract A s.size) w' hn (by show ((bytesOf s).take A).length ≤ 4096; omega)
              rw [q.1, q.2, eb2] at this
              rw [show ((bytesOf s).take A ++ (bytesOf s).drop A) = bytesOf s from List.take_append_drop _ _] at this
              exact this
            have d1 : decide ((0 : Int) < ((A : Nat) : Int)) = true := decide_eq_true (by omega)
            have d1n : decide (0 < A) = true := decide_eq_true (by omega)
            have d2 : decide (((A : Nat) : Int) < (s.size : Int)) = true := decide_eq_true (by omega)
            have d2n : decide (A < s.size) = true := decide_eq_true (by omega)
            generalize s.extract 0 A = s2 at *
            generalize s.extract A s.size = s4 at *
            clear a0 aL eb1 eb2 es1 es2
            go_wp2_with fail
            refine FB.out.mono ?_
            rintro e w4 ⟨rfl, S4, p4⟩
            have T4 : Hid (TwoN w R S3 (fun _ => False) { nt0 with fs := bytesOf s } R2 S4 (fun _ => False) { nt0 with fs := (bytesOf s).take A } w4) := N3.out.stepB p4
            clear FB p4
            go_wp2_with fail
            refine (FC.out w4 S4 T4.out.b.net).mono ?_
            rintro e w5 ⟨rfl, S5, p5⟩
            have T5 : Hid (TwoN w R S3 (fun _ => False) { nt0 with fs := bytesOf s } R2 S5 (fun _ => False) { nt0 with fs := bytesOf s } w5) := T4.out.stepB p5
            clear FC p5 T4
            go_wp2_with fail
            go_meet
            case rel => exact ⟨rfl, S5, T5⟩
      case rest =>
        obtain ⟨rfl, S5, T5⟩ := hcut
        clear N3
        go_wp2_with fail
        go_loopw [11, 10] (fun vi vf wr => ∃ i : Nat, ∃ Sn Bn Tn Sm Bm Tm, vi = .int .i64 (i : Int) ∧ vf = .int .i64 ((sumQ (bytesOf s) i : Nat) : Int) ∧ i ≤ s.size ∧ TwoN w R Sn Bn Tn R2 Sm Bm Tm wr ∧ QS (bytesOf s) i Tn ∧ er Tn = er Tm ∧ Sm0 i Tn ∧ Sm0 i Tm) (fun vi _ _ => s.size - (intOf vi).toNat)
        case atStart => exact ⟨0, S3, _, _, S5, _, _, rfl, rfl, by omega, T5.out, QS.start, rfl, sm_fs (by rw [bytesOf_len]; omega), sm_fs (by rw [bytesOf_len]; omega)⟩
        case round =>
          obtain ⟨i, Sn, Bn, Tn, Sm, Bm, Tm, rfl, rfl, hi, htw, hqs, her, hs1, hs2⟩ := hrel
          by_cases hil : (i : Int) < (s.size : Int)
          · obtain ⟨c, hc⟩ : ∃ c, (bytesOf s)[i]? = some c := ⟨(bytesOf s)[i]'(by rw [bytesOf_len]; omega), List.getElem?_eq_getElem _⟩
            have ix := index_at s hc
            have hFc : isF c := HF.out c (List.mem_of_getElem? hc)
            have his : i < s.size := by omega
            have D : Hid (TwoN w R Sn Bn Tn R2 Sm Bm Tm wr ∧ QS (bytesOf s) i Tn ∧ er Tn = er Tm ∧ Sm0 i Tn ∧ Sm0 i Tm ∧ (bytesOf s)[i]? = some c) := ⟨htw, hqs, her, hs1, hs2, hc⟩
            have SN : Hid (Calls Try.prog 11 #[.pointer (some ⟨R, 0, none⟩), .agg #[.bool false, .int .i64 ((i : Int) + 1), .slice none 0 0]] wr (SendAns R Sn Bn Tn ((i : Int) + 1) [] wr)) := send_at R Sn Bn Tn false _ none 0 0 [] wr htw.a.net (RowV.rd (RowV.nil 5 0 wr)) (by decide) (by have := hs1.sz; omega) (by have := hs1.now; omega)
            have sq := sumQ_le (bytesOf s) (i + 1) (by rw [bytesOf_len]; omega)
            have sq0 := sumQ_le (bytesOf s) i (by rw [bytesOf_len]; omega)
            have sn := sumQ_next hc
            have SQ : Hid (sumQ (bytesOf s) (i + 1) = sumQ (bytesOf s) i + (dl c).length) := sn
            clear htw hqs her hs1 hs2 hc sn
            go_wp2_with fail
            refine SN.out.mono ?_
            rintro e w6 ⟨rfl, S6, B6, p, p6, pa, pi, pb⟩
            have T6 : Hid (TwoN w R S6 B6 (hand Tn p) R2 Sm Bm Tm w6) := D.out.1.stepA p6
            have SM : Hid (Calls Try.prog 11 #[.pointer (some ⟨R2, 0, none⟩), .agg #[.bool false, .int .i64 ((i : Int) + 1), .slice none 0 0]] w6 (SendAns R2 Sm Bm Tm ((i : Int) + 1) [] w6)) := send_at R2 Sm Bm Tm false _ none 0 0 [] w6 T6.out.b.net (RowV.rd (RowV.nil 5 0 w6)) (by decide) (by have := D.out.2.2.2.2.1.sz; omega) (by have := D.out.2.2.2.2.1.now; omega)
            have HP : Hid (p.ack = false ∧ p.id = (i : Int) + 1 ∧ p.bs = []) := ⟨pa, pi, pb⟩
            clear SN p6 pa pi pb
            go_wp2_with fail
            refine SM.out.mono ?_
            rintro e w7 ⟨rfl, S7, B7, q, p7, qa, qi, qb⟩
            have T7 : Hid (TwoN w R S6 B6 (hand Tn p) R2 S7 B7 (hand Tm q) w7 ∧ QS (bytesOf s) (i + 1) (hand Tn p) ∧ er (hand Tn p) = er (hand Tm q) ∧ Sm0 (i + 1) (hand Tn p) ∧ Sm0 (i + 1) (hand Tm q)) := by
              refine ⟨T6.out.stepB p7, D.out.2.1.next (by rw [bytesOf_len]; exact his) HF.out HP.out.1 HP.out.2.1 HP.out.2.2, er_eq_hand D.out.2.2.1 ?_, D.out.2.2.2.1.hand p HP.out.1, D.out.2.2.2.2.1.hand q qa⟩
              unfold erP
              rw [HP.out.1, HP.out.2.1, HP.out.2.2, qa, qi, qb]
            have FN : Hid (∀ F : Int, F = ((sumQ (bytesOf s) (i + 1) : Nat) : Int) → Calls Try.prog 13 #[.pointer (some ⟨R, 0, none⟩)] w7 fun e w' => e = .returned (.int .i64 F) ∧ w7 = w') := fun F hF => by
              have := flying_at R S6 B6 _ w7 T7.out.1.a.net (by have := T7.out.2.2.2.1.sz; omega)
              rw [T7.out.2.1.fly] at this
              rw [hF]
              exact this
            have FM : Hid (∀ F : Int, F = ((sumQ (bytesOf s) (i + 1) : Nat) : Int) → Calls Try.prog 13 #[.pointer (some ⟨R2, 0, none⟩)] w7 fun e w' => e = .returned (.int .i64 F) ∧ w7 = w') := fun F hF => by
              have := flying_at R2 S7 B7 _ w7 T7.out.1.b.net (by have := T7.out.2.2.2.2.sz; omega)
              rw [← er_fly T7.out.2.2.1, T7.out.2.1.fly] at this
              rw [hF]
              exact this
            clear SM p7 qa qi qb T6 HP
            rcases hFc with cx | cd | ⟨c1, c2⟩
            · subst cx
              have EF : ((sumQ (bytesOf s) i : Nat) : Int) = ((sumQ (bytesOf s) (i + 1) : Nat) : Int) := by rw [SQ.out]; rfl
              have F1 : Hid (Calls Try.prog 13 #[.pointer (some ⟨R, 0, none⟩)] w7 fun e w' => e = .returned (.int .i64 ((sumQ (bytesOf s) i : Nat) : Int)) ∧ w7 = w') := FN.out _ EF
              have F2 : Hid (Calls Try.prog 13 #[.pointer (some ⟨R2, 0, none⟩)] w7 fun e w' => e = .returned (.int .i64 ((sumQ (bytesOf s) i : Nat) : Int)) ∧ w7 = w') := FM.out _ EF
              have EH : Hid (((sumQ (bytesOf s) i : Nat) : Int) = ((sumQ (bytesOf s) (i + 1) : Nat) : Int)) := EF
              have ne : (((sumQ (bytesOf s) i : Nat) : Int) != ((sumQ (bytesOf s) i : Nat) : Int)) = false := by simp
              clear EF FN FM SQ
              generalize sumQ (bytesOf s) i = f0 at *
              go_wp2_with fail
              refine F1.out.mono ?_
              rintro e _ ⟨rfl, rfl⟩
              go_wp2_with fail
              refine F2.out.mono ?_
              rintro e _ ⟨rfl, rfl⟩
              go_wp2_with fail
              go_roundw
              case rel => exact ⟨i + 1, S6, B6, _, S7, B7, _, by go_num, by rw [← EH.out], by omega, T7.out⟩
              case measure => simp [intOf]; omega
            · subst cd
              have EF : (((sumQ (bytesOf s) i : Nat) : Int) + 2) = ((sumQ (bytesOf s) (i + 1) : Nat) : Int) := by rw [SQ.out]; show _ = ((sumQ (bytesOf s) i + 2 : Nat) : Int); omega
              have F1 : Hid (Calls Try.prog 13 #[.pointer (some ⟨R, 0, none⟩)] w7 fun e w' => e = .returned (.int .i64 (((sumQ (bytesOf s) i : Nat) : Int) + 2)) ∧ w7 = w') := FN.out _ EF
              have F2 : Hid (Calls Try.prog 13 #[.pointer (some ⟨R2, 0, none⟩)] w7 fun e w' => e = .returned (.int .i64 (((sumQ (bytesOf s) i : Nat) : Int) + 2)) ∧ w7 = w') := FM.out _ EF
              have EH : Hid ((((sumQ (bytesOf s) i : Nat) : Int) + 2) = ((sumQ (bytesOf s) (i + 1) : Nat) : Int)) := EF
              have ne : ((((sumQ (bytesOf s) i : Nat) : Int) + 2) != (((sumQ (bytesOf s) i : Nat) : Int) + 2)) = false := by simp
              clear EF FN FM SQ
              generalize sumQ (bytesOf s) i = f0 at *
              go_wp2_with fail
              refine F1.out.mono ?_
              rintro e _ ⟨rfl, rfl⟩
              go_wp2_with fail
              refine F2.out.mono ?_
              rintro e _ ⟨rfl, rfl⟩
              go_wp2_with fail
              go_roundw
              case rel => exact ⟨i + 1, S6, B6, _, S7, B7, _, by go_num, by rw [← EH.out], by omega, T7.out⟩
              case measure => simp [intOf]; omega
            · have t1 : (((c : Nat) : Int) == 120) = false := by rw [beq_eq_false_iff_ne]; omega
              have t2 : (((c : Nat) : Int) == 100) = false := by rw [beq_eq_false_iff_ne]; omega
              have HC12 : Hid (49 ≤ c ∧ c ≤ 57) := ⟨c1, c2⟩
              have c256 : c ≤ 57 := c2
              clear c1 c2
              have EF : (((sumQ (bytesOf s) i : Nat) : Int) + 1) = ((sumQ (bytesOf s) (i + 1) : Nat) : Int) := by rw [SQ.out, dl_n (by have := HC12.out; omega) (by have := HC12.out; omega)]; omega
              have F1 : Hid (Calls Try.prog 13 #[.pointer (some ⟨R, 0, none⟩)] w7 fun e w' => e = .returned (.int .i64 (((sumQ (bytesOf s) i : Nat) : Int) + 1)) ∧ w7 = w') := FN.out _ EF
              have F2 : Hid (Calls Try.prog 13 #[.pointer (some ⟨R2, 0, none⟩)] w7 fun e w' => e = .returned (.int .i64 (((sumQ (bytesOf s) i : Nat) : Int) + 1)) ∧ w7 = w') := FM.out _ EF
              have EH : Hid ((((sumQ (bytesOf s) i : Nat) : Int) + 1) = ((sumQ (bytesOf s) (i + 1) : Nat) : Int)) := EF
              have ne : ((((sumQ (bytesOf s) i : Nat) : Int) + 1) != (((sumQ (bytesOf s) i : Nat) : Int) + 1)) = false := by simp
              clear EF FN FM SQ
              generalize sumQ (bytesOf s) i = f0 at *
              go_wp2_with fail
              refine F1.out.mono ?_
              rintro e _ ⟨rfl, rfl⟩
              go_wp2_with fail
              refine F2.out.mono ?_
              rintro e _ ⟨rfl, rfl⟩
              go_wp2_with fail
              go_roundw
              case rel => exact ⟨i + 1, S6, B6, _, S7, B7, _, by go_num, by rw [← EH.out], by omega, T7.out⟩
              case measure => simp [intOf]; omega
          · obtain rfl : i = s.size := by omega
            have Q0 : Hid (QI (bytesOf s) 0 Tn ∧ er Tn = er Tm ∧ Sm0 s.size Tn ∧ Sm0 s.size Tm) := ⟨QI.start (by rw [bytesOf_len]; exact hqs) HF.out, her, hs1, hs2⟩
            have T8 : Hid (TwoN w R Sn Bn Tn R2 Sm Bm Tm wr) := htw
            clear htw hqs her hs1 hs2
            go_wp2_with fail
            go_loopw [12] (fun vk wq => ∃ k : Nat, ∃ Sk Sl, vk = .int .i64 ((k : Int) + 1) ∧ k ≤ 12 ∧ TwoN w R Sk Bn (run Tn k) R2 Sl Bm (run Tm k) wq) (fun vk _ => 13 - (intOf vk).toNat)
            case atStart => exact ⟨0, Sn, Sm, rfl, by omega, T8.out⟩
            case round =>
              obtain ⟨k, Sk, Sl, rfl, hk, htw⟩ := hrel
              by_cases hkl : (k : Int) + 1 ≤ 12
              · have d12 : decide ((k : Int) + 1 ≤ 12) = true := decide_eq_true hkl
                have D : Hid (TwoN w R Sk Bn (run Tn k) R2 Sl Bm (run Tm k) wr) := htw
                have bn : ∀ j, sz (run Tn j) ≤ 999999999000 ∧ sz (run Tm j) ≤ 999999999000 ∧ (run Tn j).now ≤ 64 + j ∧ (run Tm j).now ≤ 64 + j := fun j => ⟨Nat.le_trans (run_sz Tn Q0.out.2.2.1.fl j) (by have := Q0.out.2.2.1.sz; omega), Nat.le_trans (run_sz Tm Q0.out.2.2.2.fl j) (by have := Q0.out.2.2.2.sz; omega), by rw [run_now]; have := Q0.out.2.2.1.now; omega, by rw [run_now]; have := Q0.out.2.2.2.now; omega⟩
                have BN : Hid (∀ j, sz (run Tn j) ≤ 999999999000 ∧ sz (run Tm j) ≤ 999999999000 ∧ (run Tn j).now ≤ 64 + j ∧ (run Tm j).now ≤ 64 + j) := bn
                have T1 : Hid (Calls Try.prog 14 #[.pointer (some ⟨R, 0, none⟩)] wr (TickAns R Sk Bn (run Tn k) wr)) := tick_at R Sk Bn _ wr htw.a.net (bn k).1 (by have := (bn k).2.2.1; omega)
                have ei : (tick (run Tn k)).2 = (tick (run Tm k)).2 := (er_eq_tick (run_er Q0.out.2.1 k)).2
                have EI : Hid ((tick (run Tn k)).2 = (tick (run Tm k)).2) := ei
                clear htw bn ei
                go_wp2_with fail
                refine T1.out.mono ?_
                rintro e w9 ⟨a9, n9, c9, S9, rfl, r9, p9, x9⟩
                have D9 : Hid (TwoN w R S9 Bn (run Tn (k + 1)) R2 Sl Bm (run Tm k) w9 ∧ Rd w9 (.slice a9 n9 c9) ((tick (run Tn k)).2.map iv) ∧ (∀ g, (Value.slice a9 n9 c9).ownBlock = some g → ¬ Sl g)) := ⟨D.out.stepA p9, RowV.rd r9, fun g e q => by have := RowV.block_ge r9 e; have := D.out.b.net.s q; omega⟩
                have T2 : Hid (Calls Try.prog 14 #[.pointer (some ⟨R2, 0, none⟩)] w9 (TickAns R2 Sl Bm (run Tm k) w9)) := tick_at R2 Sl Bm _ w9 D9.out.1.b.net (BN.out k).2.1 (by have := (BN.out k).2.2.2; omega)
                clear T1 r9 p9 x9 D
                go_wp2_with fail
                refine T2.out.mono ?_
                rintro e wa ⟨aa, na, ca, Sa, rfl, ra, pa, xa⟩
                have Da : Hid (TwoN w R S9 Bn (run Tn (k + 1)) R2 Sa Bm (run Tm (k + 1)) wa) := D9.out.1.stepB pa
                have SI : Hid (Calls Try.prog 17 #[.slice a9 n9 c9, .slice aa na ca] wa fun e w' => e = .returned (.bool true) ∧ ∃ n, w' = wa.drewN n) := by
                  have hl9 : (tick (run Tn k)).2.length ≤ 140737488355328 := by
                    have h1 := foldA_ids (arrs (run Tn k)) (beg (run Tn k), [])
                    have h2 := row_len (run Tn k) (((run Tn k).now + 1) % 10)
                    have h3 := (BN.out k).1
                    unfold sz at h3
                    simp only [List.length_nil] at h1
                    show ((arrs (run Tn k)).foldl arr1 (beg (run Tn k), [])).2.length ≤ _
                    unfold arrs at h1 ⊢
                    omega
                  have := sameIDs_at (tick (run Tn k)).2 (tick (run Tm k)).2 _ _ wa hl9 (Rd.kp D9.out.2.1 pa.k D9.out.2.2) (RowV.rd ra)
                  have ed : decide ((tick (run Tn k)).2 = (tick (run Tm k)).2) = true := decide_eq_true EI.out
                  rw [ed] at this
                  exact this
                clear T2 D9 ra pa xa
                go_wp2_with fail
                refine SI.out.mono ?_
                rintro e _ ⟨rfl, mb, rfl⟩
                have Db : Hid (TwoN w R S9 Bn (run Tn (k + 1)) R2 Sa Bm (run Tm (k + 1)) (wa.drewN mb)) := Da.out.later ⟨rfl, rfl, rfl, Nat.le_refl _, fun _ _ => rfl⟩
                clear SI Da
                generalize wa.drewN mb = wb at *
                go_wp2_with fail
                go_loopw [13] (fun vi wq => ∃ i : Nat, vi = .int .i64 (i : Int) ∧ i ≤ s.size ∧ Below wb.heap.size wb wq) (fun vi _ => s.size - (intOf vi).toNat)
                case atStart => exact ⟨0, rfl, by omega, Below.refl _ _⟩
                case round =>
                  obtain ⟨i, rfl, hi, hbq⟩ := hrel
                  by_cases hil : (i : Int) < (s.size : Int)
                  · obtain ⟨c, hc⟩ : ∃ c, (bytesOf s)[i]? = some c := ⟨(bytesOf s)[i]'(by rw [bytesOf_len]; omega), List.getElem?_eq_getElem _⟩
                    have ix := index_at s hc
                    have hFc : isF c := HF.out c (List.mem_of_getElem? hc)
                    have his : i < s.size := by omega
                    have hgd : (bytesOf s).getD i 0 = c := by rw [List.getD_eq_getElem?_getD, hc]; rfl
                    have qa := (Q0.out.1.run HF.out (k + 1) (by omega)).acc (j := i) (by rw [bytesOf_len]; exact his)
                    rw [hgd] at qa
                    have QA : Hid ((lateQ c ≤ k + 1 → 1 ≤ accT (run Tn (k + 1)).ac (((i : Nat) : Int) + 1)) ∧ (k + 1 < lateQ c → accT (run Tn (k + 1)).ac (((i : Nat) : Int) + 1) = 0)) := qa
                    have Dq : Hid (TwoN w R S9 Bn (run Tn (k + 1)) R2 Sa Bm (run Tm (k + 1)) wr ∧ Below wb.heap.size wb wr) := ⟨Db.out.later hbq, hbq⟩
                    have AC : Hid (Calls Try.prog 16 #[.pointer (some ⟨R, 0, none⟩)] wr (AccAns (run Tn (k + 1)) wr)) := accepted_at R S9 Bn _ wr Dq.out.1.a.net (by have := (BN.out (k + 1)).1; unfold sz at this; omega) (fun x hx => by rw [((Q0.out.1.run HF.out (k + 1) (by omega)).a x hx).2.1]; decide)
                    clear hc hgd qa hbq
                    rcases hFc with cx | cd | ⟨c1, c2⟩
                    · subst cx
                      have LT : Hid (k + 1 < lateQ 120) := (by show k + 1 < 100; omega)
                      have d3 : decide ((100 : Int) ≤ (k : Int) + 1) = false := decide_eq_false (by omega)
                      go_wp2_with fail
                      refine AC.out.mono ?_
                      rintro e wf ⟨af, nf, cf, ys, rfl, lf, qf, bf⟩
                      have hq : accT ys (((i : Nat) : Int) + 1) = 0 := by
                        rw [accT_core qf]
                        exact QA.out.2 LT.out
                      have TO : Hid (Calls Try.prog 15 #[.slice af nf cf, .int .i64 ((i : Int) + 1)] wf fun e w' => e = .returned (.int .i64 (accT ys (((i : Nat) : Int) + 1))) ∧ wf = w') := tickOf_at ys _ _ wf (by rw [core_len qf]; have := (BN.out (k + 1)).1; unfold sz at this; omega) (own_mono lf.row (Nat.zero_le _))
                      have FF : Hid (Below wb.heap.size wb wf) := below_trans Dq.out.2 bf
                      rw [hq] at TO
                      clear AC lf qf bf hq QA
                      go_wp2_with fail
                      refine TO.out.mono ?_
                      rintro e _ ⟨rfl, rfl⟩
                      go_wp2_with fail
                      go_roundw
                      case rel => exact ⟨i + 1, by go_num, by omega, FF.out⟩
                      case measure => simp [intOf]; omega
                    · subst cd
                      have LT : Hid (lateQ 100 ≤ k + 1) := (by show 1 ≤ k + 1; omega)
                      have d3 : decide ((1 : Int) ≤ (k : Int) + 1) = true := decide_eq_true (by omega)
                      go_wp2_with fail
                      refine AC.out.mono ?_
                      rintro e wf ⟨af, nf, cf, ys, rfl, lf, qf, bf⟩
                      have hq : 1 ≤ accT ys (((i : Nat) : Int) + 1) := by
                        rw [accT_core qf]
                        exact QA.out.1 LT.out
                      have TO : Hid (Calls Try.prog 15 #[.slice af nf cf, .int .i64 ((i : Int) + 1)] wf fun e w' => e = .returned (.int .i64 (accT ys (((i : Nat) : Int) + 1))) ∧ wf = w') := tickOf_at ys _ _ wf (by rw [core_len qf]; have := (BN.out (k + 1)).1; unfold sz at this; omega) (own_mono lf.row (Nat.zero_le _))
                      have FF : Hid (Below wb.heap.size wb wf) := below_trans Dq.out.2 bf
                      have b1 : (accT ys (((i : Nat) : Int) + 1) != 0) = true := by rw [bne_iff_ne]; omega
                      generalize accT ys (((i : Nat) : Int) + 1) = qq at *
                      clear AC lf qf bf hq QA
                      go_wp2_with fail
                      refine TO.out.mono ?_
                      rintro e _ ⟨rfl, rfl⟩
                      go_wp2_with fail
                      go_roundw
                      case rel => exact ⟨i + 1, by go_num, by omega, FF.out⟩
                      case measure => simp [intOf]; omega
                    · have t1 : (((c : Nat) : Int) == 120) = false := by rw [beq_eq_false_iff_ne]; omega
                      have t2 : (((c : Nat) : Int) == 100) = false := by rw [beq_eq_false_iff_ne]; omega
                      have HC12 : Hid (49 ≤ c ∧ c ≤ 57) := ⟨c1, c2⟩
                      have c256 : c ≤ 57 := c2
                      clear c1 c2
                      obtain ⟨dd, hdd⟩ : ∃ dd, lateQ c = dd := ⟨_, rfl⟩
                      have hdc : c = 48 + dd := by rw [← hdd]; unfold lateQ; have := HC12.out; rw [if_neg (by omega), if_neg (by omega)]; omega
                      have e5 : IntKind.u8.wrap (((c : Nat) : Int) - 48) = (dd : Int) := by rw [IntKind.wrap_u8]; have := HC12.out; omega
                      have dd9 : dd ≤ 9 := by have := HC12.out; omega
                      rw [hdd] at QA
                      clear hdd hdc
                      by_cases hle : (dd : Int) ≤ (k : Int) + 1
                      · have LT : Hid (dd ≤ k + 1) := (by show dd ≤ k + 1; omega)
                        have d3 : decide ((dd : Int) ≤ (k : Int) + 1) = true := decide_eq_true hle
                        clear hle
                        go_wp2_with fail
                        refine AC.out.mono ?_
                        rintro e wf ⟨af, nf, cf, ys, rfl, lf, qf, bf⟩
                        have hq : 1 ≤ accT ys (((i : Nat) : Int) + 1) := by
                          rw [accT_core qf]
                          exact QA.out.1 LT.out
                        have TO : Hid (Calls Try.prog 15 #[.slice af nf cf, .int .i64 ((i : Int) + 1)] wf fun e w' => e = .returned (.int .i64 (accT ys (((i : Nat) : Int) + 1))) ∧ wf = w') := tickOf_at ys _ _ wf (by rw [core_len qf]; have := (BN.out (k + 1)).1; unfold sz at this; omega) (own_mono lf.row (Nat.zero_le _))
                        have FF : Hid (Below wb.heap.size wb wf) := below_trans Dq.out.2 bf
                        have b1 : (accT ys (((i : Nat) : Int) + 1) != 0) = true := by rw [bne_iff_ne]; omega
                        generalize accT ys (((i : Nat) : Int) + 1) = qq at *
                        clear AC lf qf bf hq QA
                        go_wp2_with fail
                        refine TO.out.mono ?_
                        rintro e _ ⟨rfl, rfl⟩
                        go_wp2_with fail
                        go_roundw
                        case rel => exact ⟨i + 1, by go_num, by omega, FF.out⟩
                        case measure => simp [intOf]; omega
                      · have LT : Hid (k + 1 < dd) := (by show k + 1 < dd; omega)
                        have d3 : decide ((dd : Int) ≤ (k : Int) + 1) = false := decide_eq_false hle
                        clear hle
                        go_wp2_with fail
                        refine AC.out.mono ?_
                        rintro e wf ⟨af, nf, cf, ys, rfl, lf, qf, bf⟩
                        have hq : accT ys (((i : Nat) : Int) + 1) = 0 := by
                          rw [accT_core qf]
                          exact QA.out.2 LT.out
                        have TO : Hid (Calls Try.prog 15 #[.slice af nf cf, .int .i64 ((i : Int) + 1)] wf fun e w' => e = .returned (.int .i64 (accT ys (((i : Nat) : Int) + 1))) ∧ wf = w') := tickOf_at ys _ _ wf (by rw [core_len qf]; have := (BN.out (k + 1)).1; unfold sz at this; omega) (own_mono lf.row (Nat.zero_le _))
                        have FF : Hid (Below wb.heap.size wb wf) := below_trans Dq.out.2 bf
                        rw [hq] at TO
                        clear AC lf qf bf hq QA
                        go_wp2_with fail
                        refine TO.out.mono ?_
                        rintro e _ ⟨rfl, rfl⟩
                        go_wp2_with fail
                        go_roundw
                        case rel => exact ⟨i + 1, by go_num, by omega, FF.out⟩
                        case measure => simp [intOf]; omega
                  · obtain rfl : i = s.size := by omega
                    have De : Hid (TwoN w R S9 Bn (run Tn (k + 1)) R2 Sa Bm (run Tm (k + 1)) wr) := Db.out.later hbq
                    clear hbq Db
                    go_wp2_with fail
                    go_roundw
                    case rel => exact ⟨k + 1, S9, Sa, by go_num, by omega, De.out⟩
                    case measure => simp [intOf]; omega
              · have d12 : decide ((k : Int) + 1 ≤ 12) = false := decide_eq_false hkl
                obtain rfl : k = 12 := by omega
                have Q12 := Q0.out.1.run HF.out 12 (by omega)
                have BX : Hid (∀ x ∈ (run Tn 12).ac, x.bs.length ≤ 140737488351232) := fun x hx => by rw [(Q12.a x hx).2.1]; decide
                have ec := er_core (run_er Q0.out.2.1 12)
                have BY : Hid (∀ x ∈ (run Tm 12).ac, x.bs.length ≤ 140737488351232) := core_bs (P := fun b => b.length ≤ 140737488351232) ec.symm BX.out
                have EC : Hid ((run Tn 12).ac.map core = (run Tm 12).ac.map core ∧ (run Tn 12).ac.length ≤ 1000000000000 ∧ (run Tm 12).ac.length ≤ 1000000000000) := by
                  have h1 := Nat.le_trans (run_sz Tn Q0.out.2.2.1.fl 12) Q0.out.2.2.1.sz
                  have h2 := Nat.le_trans (run_sz Tm Q0.out.2.2.2.fl 12) Q0.out.2.2.2.sz
                  unfold sz at h1 h2
                  exact ⟨ec, by omega, by omega⟩
                have D : Hid (TwoN w R Sk Bn (run Tn 12) R2 Sl Bm (run Tm 12) wr) := htw
                have A1 : Hid (Calls Try.prog 16 #[.pointer (some ⟨R, 0, none⟩)] wr (AccAns (run Tn 12) wr)) := accepted_at R Sk Bn _ wr htw.a.net EC.out.2.1 BX.out
                clear htw Q12 ec
                go_wp2_with fail
                refine A1.out.mono ?_
                rintro e wc ⟨a1, n1, c1, ys, rfl, l1, q1, b1⟩
                have D1 : Hid (TwoN w R Sk Bn (run Tn 12) R2 Sl Bm (run Tm 12) wc ∧ RdA wc (.slice a1 n1 c1) ys ∧ ys.map core = (run Tn 12).ac.map core) := ⟨D.out.later b1, l1.rd (core_bs (P := fun b => b.length ≤ 140737488351232) q1 BX.out), q1⟩
                have A2 : Hid (Calls Try.prog 16 #[.pointer (some ⟨R2, 0, none⟩)] wc (AccAns (run Tm 12) wc)) := accepted_at R2 Sl Bm _ wc D1.out.1.b.net EC.out.2.2 BY.out
                clear A1 D l1 q1 b1
                go_wp2_with fail
                refine A2.out.mono ?_
                rintro e wd ⟨a2, n2, c2, zs, rfl, l2, q2, b2⟩
                have SA : Hid (Calls Try.prog 18 #[.slice a1 n1 c1, .slice a2 n2 c2] wd fun e w' => e = .returned (.bool true) ∧ Below wd.heap.size wd w') := sameAcc_yes ys zs _ _ wd (by rw [core_len D1.out.2.2]; exact EC.out.2.1) (D1.out.2.1.later b2) (l2.rd (core_bs (P := fun b => b.length ≤ 140737488351232) q2 BY.out)) (by rw [D1.out.2.2, EC.out.1, q2])
                have FB : Hid (Below w.heap.size w wd) := below_trans D1.out.1.a.below b2
                clear A2 D1 l2 q2 b2
                go_wp2_with fail
                refine SA.out.mono ?_
                rintro e we ⟨rfl, be⟩
                have FE : Hid (Below w.heap.size w we) := below_trans FB.out be
                clear SA FB be
                go_wp2_with fail
                go_ret
                exact ⟨rfl, FE.out⟩
theorem queue_any (s : ByteArray) (a : Int) (w : World) : Calls Try.prog 4 #[.string s, .int .i64 a] w fun e w' => e = .returned (.bool true) ∧ Below w.heap.size w w' := by
  by_cases h : s.size = 0 ∨ 64 < s.size ∨ a < 0 ∨ (s.size : Int) < a
  · exact queue_out s a w h
  · obtain ⟨A, rfl⟩ : ∃ A : Nat, a = (A : Int) := ⟨a.toNat, by omega⟩
    by_cases hF : ∀ b ∈ bytesOf s, isF b
    · exact queue_good s A w (by omega) (by omega) (by omega) hF
    · exact queue_bad s A w (by omega) (by omega) (by omega) hF
end Go.Proofs.Ytblfolaakblcfaa
