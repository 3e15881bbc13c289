/-
  Ours: the reference's runs. (gen_rprn.py)
-/
import Derived.Test.YtpkgdkgbbbbaoaaDoorRpRf
namespace Go.Proofs.YtpkgdkgbbbbaoaaDoor
open Go.RowKit Go.Lib CalM RpM
theorem infoIn : (Tryd.prog.info? 3).map (fun i => (i.zero, i.size, i.bytes)) = some (some (.int .i64 0), 1, 8) := by kernel_rfl
/-- What the loop of runs keeps. -/
structure RSt (l : List UInt8) (w : World) (i : Nat) (s : Rs) (v : Value) (wr : World) : Prop where
  e : s = rs ((l ++ [32]).take i)
  ok : RsOk i s
  row : RowV 3 w.heap.size wr v (s.out.map iv)
  b : Below w.heap.size w wr
theorem RSt.next {l : List UInt8} {w : World} {i : Nat} {s : Rs} {v v' : Value} {wr wr' : World} (h : RSt l w i s v wr) (hi : i < (l ++ [32]).length) (c : UInt8) (hc : (l ++ [32])[i] = c) (s' : Rs) (hs : rstep s c = s') (row : RowV 3 w.heap.size wr' v' (s'.out.map iv)) (b : Below w.heap.size w wr') : RSt l w (i + 1) s' v' wr' :=
  ⟨by rw [rs_take _ _ hi, hc, ← h.e, hs], by rw [← hs]; exact rstep_ok h.ok c, row, b⟩
theorem step_digit {s : Rs} {c : UInt8} (h : dgB c = true) : rstep s c = ⟨s.out, if s.k < 19 then wrap64 (wrap64 (10 * s.n) + ((c.toNat : Int) - 48)) else s.n, s.k + 1⟩ := by unfold rstep; rw [if_pos h]
theorem step_push {s : Rs} {c : UInt8} (h : dgB c = false) (hk : 0 < s.k) : rstep s c = ⟨s.out ++ [s.n], 0, 0⟩ := by unfold rstep; rw [if_neg (by rw [h]; decide), if_pos hk]
theorem step_skip {s : Rs} {c : UInt8} (h : dgB c = false) (hk : ¬ 0 < s.k) : rstep s c = s := by unfold rstep; rw [if_neg (by rw [h]; decide), if_neg hk]
set_option maxRecDepth 100000 in
set_option maxHeartbeats 4000000 in
theorem runs_at (l : List UInt8) (hl : l.length ≤ 1048576) (w : World) : Calls Tryd.prog 17 #[.string ⟨l.toArray⟩] w fun e w' => ∃ v, e = .returned v ∧ RowV 3 w.heap.size w' v ((runsL l).map iv) ∧ Below w.heap.size w w' := by
  obtain ⟨i0, hi, hz0, hz1, hz2⟩ := info_parts infoIn
  have underI := Tryd.underlying39
  have DG : Hid (∀ (c : UInt8) w, Calls Tryd.prog 34 #[.int .u8 (c.toNat : Int)] w fun e w' => e = .returned (.bool (dgB c)) ∧ w = w') := fun c w => rdigit_at c w
  have HF : Hid (∀ v w', RowV 3 w.heap.size w' v ((runsL l).map iv) → Below w.heap.size w w' → ∃ v', Ending.returned v = .returned v' ∧ RowV 3 w.heap.size w' v' ((runsL l).map iv) ∧ Below w.heap.size w w') := fun v w' h b => ⟨v, rfl, h, b⟩
  go_enter Tryd.func17, Tryd.ntmps17
  go_wp2_with fail
  go_loopw [3, 4, 5, 6] (fun vo vn vk vi wr => ∃ (i : Nat) (a : Option Addr) (m c : Nat) (s : Rs), vi = .int .i64 (i : Int) ∧ i ≤ l.length + 1 ∧ vo = .slice a m c ∧ vn = .int .i64 s.n ∧ vk = .int .i64 (s.k : Int) ∧ s.k ≤ i ∧ Hid (RSt l w i s (.slice a m c) wr)) (fun _ _ _ vi _ => l.length + 1 - (Go.RowKit.intOf vi).toNat)
  case atStart => exact ⟨0, none, 0, 0, ⟨[], 0, 0⟩, rfl, by omega, rfl, rfl, rfl, Nat.le_refl _, by rw [List.take_zero]; rfl, ⟨⟨by show (-9223372036854775808 : Int) ≤ 0; omega, by show (0 : Int) ≤ 9223372036854775807; omega⟩, fun x hx => by simp at hx, by simp, by simp⟩, RowV.nil _ _ _, Below.refl _ _⟩
  case round =>
    obtain ⟨i, a, m, c, s, rfl, hi1, rfl, rfl, rfl, hk, HR⟩ := hrel
    obtain ⟨so, sn, sk⟩ := s
    simp only at hk
    by_cases hle : (i : Int) ≤ (l.length : Int)
    · have hil : i < (l ++ [32]).length := by simp; omega
      by_cases hlt : (i : Int) < (l.length : Int)
      · have hkl : i < l.length := by omega
        have ix : (ByteArray.mk l.toArray)[i]'(by show i < l.toArray.size; rw [List.size_toArray]; exact hkl) = l[i]'hkl := rfl
        obtain ⟨C, hC⟩ : ∃ C, l[i]'hkl = C := ⟨_, rfl⟩
        have HC : Hid ((l ++ [32])[i]'hil = C) := by show _ = _; rw [List.getElem_append_left hkl]; exact hC
        rw [hC] at ix
        have u8 : (C.toNat : Int) < 256 := by have := C.toNat_lt; omega
        have HI : Hid (i < (l ++ [32]).length) := hil
        clear hC
        by_cases hd : dgB C = true
        · have HD : Hid (dgB C = true) := hd
          have hcb : 48 ≤ C.toNat ∧ C.toNat ≤ 57 := of_decide_eq_true hd
          have c2 : (48 : Int) ≤ (C.toNat : Int) := by omega
          have c3 : (C.toNat : Int) ≤ 57 := by omega
          clear hd hcb
          by_cases hk19 : (sk : Int) < 19
          · have ST : Hid (rstep ⟨so, sn, sk⟩ C = ⟨so, wrap64 (wrap64 (10 * sn) + ((C.toNat : Int) - 48)), sk + 1⟩) := by
              show _ = _
              rw [step_digit HD.out]
              simp only
              rw [if_pos (by omega)]
            go_wp2_with fail
            refine (DG.out C wr).mono ?_
            rintro e w1 ⟨rfl, rfl⟩
            rw [HD.out]
            go_wp2_with fail
            go_roundw
            case rel => exact ⟨i + 1, a, m, c, ⟨so, wrap64 (wrap64 (10 * sn) + ((C.toNat : Int) - 48)), sk + 1⟩, by go_num, by omega, rfl, rfl, by go_num, by simp only; omega, RSt.next HR.out HI.out C HC.out _ ST.out HR.out.row HR.out.b⟩
            case measure => simp [Go.RowKit.intOf]; omega
          · have ST : Hid (rstep ⟨so, sn, sk⟩ C = ⟨so, sn, sk + 1⟩) := by
              show _ = _
              rw [step_digit HD.out]
              simp only
              rw [if_neg (by omega)]
            go_wp2_with fail
            refine (DG.out C wr).mono ?_
            rintro e w1 ⟨rfl, rfl⟩
            rw [HD.out]
            go_wp2_with fail
            go_roundw
            case rel => exact ⟨i + 1, a, m, c, ⟨so, sn, sk + 1⟩, by go_num, by omega, rfl, rfl, by go_num, by simp only; omega, RSt.next HR.out HI.out C HC.out _ ST.out HR.out.row HR.out.b⟩
            case measure => simp [Go.RowKit.intOf]; omega
        · have HD : Hid (dgB C = false) := by
            show _ = _
            simpa using hd
          clear hd
          by_cases hk0 : (0 : Int) < (sk : Int)
          · have hsn : RsOk i ⟨so, sn, sk⟩ := HR.out.ok
            have own1 : RowV 3 w.heap.size wr (.slice a m c) (so.map iv) := HR.out.row
            have hsz1 : w.heap.size ≤ wr.heap.size := HR.out.b.size
            have hlo : (so.map iv).length ≤ 1048577 := by have := hsn.len; rw [List.length_map]; simp only at this; omega
            have l1 : (so.map iv).length + 1 ≤ maxLen := by unfold maxLen; omega
            have l2 : ((so.map iv).length + 1) * 8 ≤ 140737488355328 := by omega
            clear hsn hlo
            have ST : Hid (rstep ⟨so, sn, sk⟩ C = ⟨so ++ [sn], 0, 0⟩) := step_push HD.out (by simp only; omega)
            go_wp2_with fail
            refine (DG.out C wr).mono ?_
            rintro e w1 ⟨rfl, rfl⟩
            rw [HD.out]
            go_wp2_with (at_builtin; refine wpList_pushV rfl (.tmp 37) (.tmp 39) 39 rfl 3 i0 (.int .i64 0) 8 underI hi hz0 hz1 hz2 rfl w.heap.size _ _ _ rfl rfl own1 hsz1 rfl l1 l2 ?_; intro v5 w5 r5 g5)
            have R5 : Hid (RowV 3 w.heap.size w5 v5 ((so ++ [sn]).map iv) ∧ Below w.heap.size w w5) := ⟨by rw [List.map_append]; exact r5, below_grown HR.out.b own1 (Nat.le_refl _) HR.out.b.size g5⟩
            obtain ⟨a5, m5, c5, rfl⟩ : ∃ a m c, v5 = .slice a m c := by obtain ⟨a5, c5, e, -, -⟩ := (RowV.rd r5).len; exact ⟨_, _, _, e⟩
            clear r5 g5 own1 l1 l2 hsz1
            go_wp2_with fail
            go_roundw
            case rel => exact ⟨i + 1, a5, m5, c5, ⟨so ++ [sn], 0, 0⟩, by go_num, by omega, rfl, rfl, rfl, Nat.zero_le _, RSt.next HR.out HI.out C HC.out _ ST.out R5.out.1 R5.out.2⟩
            case measure => simp [Go.RowKit.intOf]; omega
          · have ST : Hid (rstep ⟨so, sn, sk⟩ C = ⟨so, sn, sk⟩) := step_skip HD.out (by simp only; omega)
            go_wp2_with fail
            refine (DG.out C wr).mono ?_
            rintro e w1 ⟨rfl, rfl⟩
            rw [HD.out]
            go_wp2_with fail
            go_roundw
            case rel => exact ⟨i + 1, a, m, c, ⟨so, sn, sk⟩, by go_num, by omega, rfl, rfl, rfl, by simp only; omega, RSt.next HR.out HI.out C HC.out _ ST.out HR.out.row HR.out.b⟩
            case measure => simp [Go.RowKit.intOf]; omega
      · have ei : i = l.length := by omega
        obtain ⟨C, hC⟩ : ∃ C : UInt8, 32 = C := ⟨_, rfl⟩
        have HC : Hid ((l ++ [32])[i]'hil = C) := by
          show _ = _
          rw [List.getElem_append_right (by omega)]
          simpa using hC
        have HI : Hid (i < (l ++ [32]).length) := hil
        have HD : Hid (dgB C = false) := by rw [← hC]; exact (by decide : dgB 32 = false)
        clear hC ei
        by_cases hk0 : (0 : Int) < (sk : Int)
        · have hsn : RsOk i ⟨so, sn, sk⟩ := HR.out.ok
          have own1 : RowV 3 w.heap.size wr (.slice a m c) (so.map iv) := HR.out.row
          have hsz1 : w.heap.size ≤ wr.heap.size := HR.out.b.size
          have hlo : (so.map iv).length ≤ 1048577 := by have := hsn.len; rw [List.length_map]; simp only at this; omega
          have l1 : (so.map iv).length + 1 ≤ maxLen := by unfold maxLen; omega
          have l2 : ((so.map iv).length + 1) * 8 ≤ 140737488355328 := by omega
          clear hsn hlo
          have ST : Hid (rstep ⟨so, sn, sk⟩ C = ⟨so ++ [sn], 0, 0⟩) := step_push HD.out (by simp only; omega)
          go_wp2_with (at_builtin; refine wpList_pushV rfl (.tmp 37) (.tmp 39) 39 rfl 3 i0 (.int .i64 0) 8 underI hi hz0 hz1 hz2 rfl w.heap.size _ _ _ rfl rfl own1 hsz1 rfl l1 l2 ?_; intro v5 w5 r5 g5)
          have R5 : Hid (RowV 3 w.heap.size w5 v5 ((so ++ [sn]).map iv) ∧ Below w.heap.size w w5) := ⟨by rw [List.map_append]; exact r5, below_grown HR.out.b own1 (Nat.le_refl _) HR.out.b.size g5⟩
          obtain ⟨a5, m5, c5, rfl⟩ : ∃ a m c, v5 = .slice a m c := by obtain ⟨a5, c5, e, -, -⟩ := (RowV.rd r5).len; exact ⟨_, _, _, e⟩
          clear r5 g5 own1 l1 l2 hsz1
          go_wp2_with fail
          go_roundw
          case rel => exact ⟨i + 1, a5, m5, c5, ⟨so ++ [sn], 0, 0⟩, by go_num, by omega, rfl, rfl, rfl, Nat.zero_le _, RSt.next HR.out HI.out C HC.out _ ST.out R5.out.1 R5.out.2⟩
          case measure => simp [Go.RowKit.intOf]; omega
        · have ST : Hid (rstep ⟨so, sn, sk⟩ C = ⟨so, sn, sk⟩) := step_skip HD.out (by simp only; omega)
          go_wp2_with fail
          go_roundw
          case rel => exact ⟨i + 1, a, m, c, ⟨so, sn, sk⟩, by go_num, by omega, rfl, rfl, rfl, by simp only; omega, RSt.next HR.out HI.out C HC.out _ ST.out HR.out.row HR.out.b⟩
          case measure => simp [Go.RowKit.intOf]; omega
    · have e : i = l.length + 1 := by omega
      have HN : Hid (so = runsL l) := by
        have := congrArg Rs.out HR.out.e
        show _ = _
        simp only at this
        rw [this, e, List.take_of_length_le (by simp)]
        rfl
      have HX : Hid (RowV 3 w.heap.size wr (.slice a m c) ((runsL l).map iv) ∧ Below w.heap.size w wr) := ⟨by rw [← HN.out]; exact HR.out.row, HR.out.b⟩
      clear HR HN e
      go_wp2_with fail
      go_ret
      exact HF.out _ _ HX.out.1 HX.out.2
    end Go.Proofs.YtpkgdkgbbbbaoaaDoor
