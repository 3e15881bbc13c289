/-
  Ours: script.readWhole, planOf, kindOf (gen_scrdw.py).
-/
import Derived.Test.YtkjnklagjhhhkaaGreatDoorScP
import Derived.Test.YtkjnklagjhhhkaaGreatDoorScAny
namespace Go.Proofs.YtkjnklagjhhhkaaGreatDoor
open Go.RowKit Go.Lib ScF

theorem valD_lt : ∀ l : List UInt8, digs l = true → valD l < 10 ^ l.length := by
  intro l
  have H : ∀ (l : List UInt8) (a : Nat), digs l = true → l.foldl (fun a b => 10 * a + (b.toNat - 48)) a < (a + 1) * 10 ^ l.length := by
    intro l
    induction l with
    | nil => intro a _; simp
    | cons c r ih =>
      intro a h
      simp only [digs, List.all_cons, Bool.and_eq_true, isD, decide_eq_true_eq] at h
      have h1 := ih (10 * a + (c.toNat - 48)) (by unfold digs; exact h.2)
      simp only [List.foldl_cons, List.length_cons]
      have h2 : 10 * a + (c.toNat - 48) + 1 ≤ (a + 1) * 10 := by omega
      have h3 := Nat.mul_le_mul_right (10 ^ r.length) h2
      rw [Nat.pow_succ, Nat.mul_comm (10 ^ r.length) 10, ← Nat.mul_assoc]
      omega
  intro h
  have := H l 0 h
  simpa [valD] using this
theorem digs_take {l : List UInt8} {k : Nat} (hk : k < l.length) (h : digs (l.take k) = true) (hc : 48 ≤ (l.getD k 0).toNat ∧ (l.getD k 0).toNat ≤ 57) : digs (l.take (k + 1)) = true ∧ valD (l.take (k + 1)) = 10 * valD (l.take k) + ((l.getD k 0).toNat - 48) := by
  rw [List.take_add_one, List.getElem?_eq_getElem hk]
  rw [List.getD_eq_getElem?_getD, List.getElem?_eq_getElem hk] at hc ⊢
  refine ⟨?_, valD_snoc _ _⟩
  unfold digs at h ⊢
  rw [List.all_append, h]
  simp only [Option.toList_some, List.all_cons, List.all_nil, Bool.and_true, Bool.true_and, isD]
  exact decide_eq_true hc
theorem digs_no {l : List UInt8} {k : Nat} (hk : k < l.length) (hc : ¬ (48 ≤ (l.getD k 0).toNat ∧ (l.getD k 0).toNat ≤ 57)) : digs l = false := by
  unfold digs
  rw [List.all_eq_false]
  rw [List.getD_eq_getElem?_getD, List.getElem?_eq_getElem hk] at hc
  exact ⟨l[k], List.getElem_mem hk, by simp only [isD]; rw [decide_eq_false (p := 48 ≤ l[k].toNat ∧ l[k].toNat ≤ 57) hc]; decide⟩
theorem str_at (l : List UInt8) (k : Nat) (h : k < ({ data := l.toArray } : ByteArray).size) : (({ data := l.toArray } : ByteArray)[k]'h).toNat = (l.getD k 0).toNat := by
  have hk : k < l.length := h
  rw [List.getD_eq_getElem?_getD, List.getElem?_eq_getElem hk]
  rfl
set_option maxRecDepth 40000 in
set_option maxHeartbeats 1000000 in
theorem digit_yes (r : Int) (h0 : 48 ≤ r) (h1 : r ≤ 57) (w : World) : Calls Tryz.prog 79 #[.int .i32 r] w fun e w' => e = .returned (.tuple #[.int .i64 (r - 48), .bool true]) ∧ w' = w := by
  have d0 : ¬ r < 48 := by omega
  have d1 : ¬ 57 < r := by omega
  go_enter Tryz.func79, Tryz.ntmps79
  go_wp2_with fail
  go_ret2
  exact ⟨rfl, rfl⟩
set_option maxRecDepth 40000 in
set_option maxHeartbeats 1000000 in
theorem digit_no (r : Int) (h : r < 48 ∨ 57 < r) (w : World) : Calls Tryz.prog 79 #[.int .i32 r] w fun e w' => e = .returned (.tuple #[.int .i64 0, .bool false]) ∧ w' = w := by
  by_cases d0 : r < 48
  · clear h
    go_enter Tryz.func79, Tryz.ntmps79
    go_wp2_with fail
    go_ret2
    exact ⟨rfl, rfl⟩
  · have d1 : 57 < r := by omega
    clear h
    go_enter Tryz.func79, Tryz.ntmps79
    go_wp2_with fail
    go_ret2
    exact ⟨rfl, rfl⟩
def OptI (r : Option Int) (e : Ending) : Prop := e = .returned (.tuple #[.int .i64 (r.getD 0), .bool r.isSome])

set_option maxRecDepth 40000 in
set_option maxHeartbeats 4000000 in
theorem rdInt_at (l : List UInt8) (hl : l.length ≤ 1000000) (w : World) : Calls Tryz.prog 62 #[.string ⟨l.toArray⟩] w fun e w' => OptI (rdW l) e ∧ Below w.heap.size w w' := by
  have CP : Hid (∀ w, Calls Tryz.prog 78 #[.string ⟨l.toArray⟩, .string ⟨#[45]⟩] w fun e w' => e = .returned (.tuple #[.string ⟨(body l).toArray⟩, .bool (neg l)]) ∧ w' = w) := fun w => Tryz.strings_CutPrefix ⟨l.toArray⟩ ⟨#[45]⟩ w
  have RW : Hid (rdW l = if (body l).length = 0 ∨ 18 < (body l).length then none else if ((body l).getD 0 0).toNat = 48 ∧ l ≠ [48] then none else if digs (body l) then some (signV (neg l) (valD (body l))) else none) := rfl
  have hbl : (body l).length ≤ 1000000 := by unfold body trimPrefix; split; (rw [List.length_drop]; omega); exact hl
  have T1 : ((({ data := l.toArray } : ByteArray).toList == [48]) = decide (l = [48])) := by
    rw [ByteArray.toList_eq, Bool.eq_iff_iff]; simp
  have EM : (({ data := (body l).toArray } : ByteArray).toList.isEmpty) = decide ((body l).length = 0) := by
    rw [ByteArray.toList_eq]
    cases body l <;> simp
  have HS : Hid (∀ k, ∀ h : k < ({ data := (body l).toArray } : ByteArray).size, (({ data := (body l).toArray } : ByteArray)[k]'h).toNat = ((body l).getD k 0).toNat) := fun k h => str_at (body l) k h
  have SZ : ({ data := (body l).toArray } : ByteArray).size = (body l).length := rfl
  have DT : Hid (∀ k, k < (body l).length → digs ((body l).take k) = true → (48 ≤ ((body l).getD k 0).toNat ∧ ((body l).getD k 0).toNat ≤ 57) → digs ((body l).take (k + 1)) = true ∧ valD ((body l).take (k + 1)) = 10 * valD ((body l).take k) + (((body l).getD k 0).toNat - 48)) := fun k h1 h2 h3 => digs_take h1 h2 h3
  have DN : Hid (∀ k, k < (body l).length → ¬ (48 ≤ ((body l).getD k 0).toNat ∧ ((body l).getD k 0).toNat ≤ 57) → digs (body l) = false) := fun k h1 h2 => digs_no h1 h2
  have VL : Hid (∀ k, (body l).length ≤ 18 → digs ((body l).take k) = true → valD ((body l).take k) < 1000000000000000000) := fun k h0 h => by
    have h1 := valD_lt _ h
    have h2 : ((body l).take k).length ≤ 18 := by rw [List.length_take]; omega
    have h3 := Nat.pow_le_pow_right (n := 10) (by decide) h2
    rw [show 10 ^ 18 = 1000000000000000000 by decide] at h3
    omega
  have TE : Hid ((body l).take (body l).length = body l) := List.take_of_length_le (Nat.le_refl _)
  have IX : Hid (∀ k, k < (body l).length → ∀ W, (Instr.index 9 (.string ⟨(body l).toArray⟩) (.int .i64 ((k : Nat) : Int))).run Tryz.prog W = .ok (.int .u8 ((((body l).getD k 0).toNat : Nat) : Int)) W) := fun k hk W => idx_str (body l) k hk W
  generalize neg l = ng at *
  generalize hl48 : decide (l = [48]) = b48 at T1
  have H48 : Hid (decide (l = [48]) = b48) := hl48
  clear hl48
  generalize ({ data := l.toArray } : ByteArray) = TX at *
  generalize hbd : body l = d at *
  clear hbd
  obtain ⟨D, hD⟩ : ∃ D, ({ data := d.toArray } : ByteArray) = D := ⟨_, rfl⟩
  rw [hD] at CP EM IX SZ
  have HSD : Hid (∀ k, ∀ h : k < D.size, (D[k]'h).toNat = (d.getD k 0).toNat) := by rw [← hD]; exact HS
  clear hD HS
  obtain ⟨n, hn⟩ : ∃ n, d.length = n := ⟨_, rfl⟩
  rw [hn] at RW hbl EM SZ DT DN VL TE IX
  clear hn
  by_cases h0 : n = 0
  · have E : Hid (rdW l = none) := by show _ = _; rw [RW.out, if_pos (.inl h0)]
    rw [decide_eq_true h0] at EM
    rw [E.out]
    clear RW T1 DT DN VL TE IX HSD H48
    go_enter Tryz.func62, Tryz.ntmps62
    go_wp2_with fail
    refine (CP.out _).mono ?_
    rintro e w1 ⟨rfl, hw⟩; rw [hw]; clear hw w1
    go_wp2_with fail
    go_ret2
    exact ⟨rfl, Below.refl _ _⟩
  rw [decide_eq_false h0] at EM
  by_cases h18 : (18 : Int) < (n : Int)
  · have E : Hid (rdW l = none) := by show _ = _; rw [RW.out, if_pos (.inr (by omega))]
    rw [E.out]
    clear RW T1 DT DN VL TE IX HSD H48
    go_enter Tryz.func62, Tryz.ntmps62
    go_wp2_with fail
    refine (CP.out _).mono ?_
    rintro e w1 ⟨rfl, hw⟩; rw [hw]; clear hw w1
    go_wp2_with fail
    go_ret2
    exact ⟨rfl, Below.refl _ _⟩
  have E1 : rdW l = if (d.getD 0 0).toNat = 48 ∧ l ≠ [48] then none else if digs d then some (signV ng (valD d)) else none := by rw [RW.out, if_neg (by omega)]
  have RW1 : Hid (rdW l = if (d.getD 0 0).toNat = 48 ∧ l ≠ [48] then none else if digs d then some (signV ng (valD d)) else none) := E1
  clear RW E1
  have ix0 : ∀ W, (Instr.index 9 (.string D) (.int .i64 0)).run Tryz.prog W = .ok (.int .u8 (((d.getD 0 0).toNat : Nat) : Int)) W := IX.out 0 (by omega)
  have n18 : n ≤ 18 := by omega
  generalize hc0 : (d.getD 0 0).toNat = c0 at ix0
  rw [hc0] at RW1
  have key : ∀ (q : Bool), q = true ∨ q = false := fun q => by cases q <;> simp
  by_cases hz : c0 = 48 ∧ b48 = false
  · have E : Hid (rdW l = none) := by
      have h48 : l ≠ [48] := of_decide_eq_false (H48.out.trans hz.2)
      show _ = _
      rw [RW1.out, if_pos ⟨hz.1, h48⟩]
    have dz : ((c0 : Int) == 48) = true := by rw [hz.1]; rfl
    have T2 : (TX.toList == [48]) = false := by rw [T1]; exact hz.2
    rw [E.out]
    clear RW1 T1 DT DN VL TE IX HSD H48 hz hc0 key
    go_enter Tryz.func62, Tryz.ntmps62
    go_wp2_with fail
    refine (CP.out _).mono ?_
    rintro e w1 ⟨rfl, hw⟩; rw [hw]; clear hw w1
    go_wp2_with fail
    go_ret2
    exact ⟨rfl, Below.refl _ _⟩
  have RW2 : Hid (rdW l = if digs d then some (signV ng (valD d)) else none) := by
    show _ = _
    rw [RW1.out, if_neg]
    rintro ⟨h1, h2⟩
    apply hz
    refine ⟨h1, ?_⟩
    have := H48.out
    rw [decide_eq_false h2] at this
    exact this.symm
  clear RW1 H48 hc0
  have F0 : Hid ((w.iter D 0).heap[w.heap.size]? = some (.stringIter D 0) ∧ Below w.heap.size w (w.iter D 0)) := ⟨World.iter_heap w D 0, below_iterN w D⟩
  have HZ : Hid (¬ (c0 = 48 ∧ b48 = false)) := hz
  clear hz key
  by_cases hz48 : c0 = 48
  · have dz : ((c0 : Int) == 48) = true := by rw [hz48]; rfl
    have T2 : (TX.toList == [48]) = true := by rw [T1]; cases b48 with
      | true => rfl
      | false => exact absurd ⟨hz48, rfl⟩ HZ.out
    clear T1 HZ hz48
    go_enter Tryz.func62, Tryz.ntmps62
    go_wp2_with fail
    refine (CP.out _).mono ?_
    rintro e w1 ⟨rfl, hw⟩; rw [hw]; clear hw w1
    go_wp2_with fail
    go_loopw [6, 8, 9, 10] (fun v6 _ _ _ wr => ∃ pos : Nat, v6 = .int .i64 ((valD (d.take pos) : Nat) : Int) ∧ wr.heap[w.heap.size]? = some (.stringIter D pos) ∧ Below w.heap.size w wr ∧ pos ≤ n ∧ Hid (digs (d.take pos) = true)) (fun _ _ _ _ wr => n - wr.iterPos w.heap.size)
    case atStart => exact ⟨0, rfl, F0.out.1, F0.out.2, by omega, rfl⟩
    case round =>
      clear F0 ix0 dz
      obtain ⟨pos, rfl, hit, hbw, hle, HD⟩ := hrel
      have hsz : w.heap.size < wr.heap.size := (Array.getElem?_eq_some_iff.1 hit).1
      have hvl := VL.out pos n18 HD.out
      by_cases hp : pos < D.size
      · have hnx : ∀ ty, (Instr.next (.pointer (some ⟨w.heap.size, 0, none⟩)) true ty).run Tryz.prog wr = _ := fun ty => Lib.run_next_any_at wr w.heap.size D pos ty hit hp
        have hit2 := Lib.iterAt_heap wr w.heap.size D pos (pos + (Utf8.decode D pos).2) hit
        have hbw2 := Lib.below_iterAt hbw (k := w.heap.size) (Nat.le_refl _) D (pos + (Utf8.decode D pos).2)
        have hpn : pos < n := by rw [← SZ]; exact hp
        have hch := HSD.out pos hp
        by_cases hdg : 48 ≤ (D[pos]'hp).toNat ∧ (D[pos]'hp).toNat ≤ 57
        · have hde : Utf8.decode D pos = ((D[pos]'hp).toNat, 1) := decode_ascii D pos hp (by omega)
          rw [hde] at hnx hit2 hbw2
          obtain ⟨nx1, nx2⟩ := DT.out pos hpn HD.out (by rw [← hch]; exact hdg)
          rw [← hch] at nx2
          have hvl2 := VL.out (pos + 1) n18 nx1
          have NX : Hid (digs (d.take (pos + 1)) = true ∧ valD (d.take (pos + 1)) = 10 * valD (d.take pos) + ((D[pos]'hp).toNat - 48)) := ⟨nx1, nx2⟩
          have F1 : Hid ((wr.iterAt w.heap.size D (pos + 1)).heap[w.heap.size]? = some (.stringIter D (pos + 1)) ∧ Below w.heap.size w (wr.iterAt w.heap.size D (pos + 1)) ∧ wr.heap[w.heap.size]? = some (.stringIter D pos)) := ⟨hit2, hbw2, hit⟩
          rw [nx2] at hvl2
          clear hit hbw hit2 hbw2 hde HD nx1 nx2 hch
          generalize (D[pos]'hp).toNat = y at *
          generalize valD (d.take pos) = V at *
          obtain ⟨y0, y1⟩ := hdg
          have DY : Hid (∀ w', Calls Tryz.prog 79 #[.int .i32 ((y : Nat) : Int)] w' fun e w'' => e = .returned (.tuple #[.int .i64 ((y : Int) - 48), .bool true]) ∧ w'' = w') := fun w' => digit_yes _ (by omega) (by omega) w'
          clear IX DT DN VL TE HSD RW2 CP
          go_wp2_with fail
          refine (DY.out _).mono ?_
          rintro e w3 ⟨rfl, hw⟩; rw [hw]; clear hw w3
          go_wp2_with fail
          go_roundw
          case rel => exact ⟨pos + 1, by rw [NX.out.2]; go_num, F1.out.1, F1.out.2.1, by omega, NX.out.1⟩
          case measure =>
            simp only [World.iterPos, F1.out.1, F1.out.2.2]
            omega
        · have hr : (((Utf8.decode D pos).1 : Nat) : Int) < 48 ∨ 57 < (((Utf8.decode D pos).1 : Nat) : Int) := by
            by_cases ha : (D[pos]'hp).toNat < 128
            · rw [decode_ascii D pos hp ha]; show (((D[pos]'hp).toNat : Nat) : Int) < 48 ∨ 57 < (((D[pos]'hp).toNat : Nat) : Int); omega
            · have := (decode_high D pos hp (by omega)).1
              omega
          have dnn := DN.out pos hpn (by rw [← hch]; exact hdg)
          have EF : Hid (rdW l = none) := by show _ = _; rw [RW2.out, dnn]; rfl
          have dle := decode_le D pos
          have DY : Hid (∀ w', Calls Tryz.prog 79 #[.int .i32 (((Utf8.decode D pos).1 : Nat) : Int)] w' fun e w'' => e = .returned (.tuple #[.int .i64 0, .bool false]) ∧ w'' = w') := fun w' => digit_no _ hr w'
          have F1 : Hid (Below w.heap.size w (wr.iterAt w.heap.size D (pos + (Utf8.decode D pos).2))) := hbw2
          clear hit hbw hit2 hbw2 HD hr hdg dnn hch IX DT DN VL TE HSD RW2 CP
          generalize (Utf8.decode D pos).1 = y at *
          generalize (Utf8.decode D pos).2 = y2 at *
          generalize valD (d.take pos) = V at *
          go_wp2_with fail
          refine (DY.out _).mono ?_
          rintro e w3 ⟨rfl, hw⟩; rw [hw]; clear hw w3
          go_wp2_with fail
          go_ret2
          exact ⟨by rw [EF.out]; rfl, F1.out⟩
      · have hnx : ∀ ty, (Instr.next (.pointer (some ⟨w.heap.size, 0, none⟩)) true ty).run Tryz.prog wr = _ := fun ty => Lib.run_next_end_at wr w.heap.size D pos ty hit hp
        obtain rfl : pos = n := by omega
        have F1 : Hid (Below w.heap.size w wr) := hbw
        have hdd : digs d = true := by have := HD.out; rwa [TE.out] at this
        rw [TE.out] at hvl ⊢
        rw [hdd] at RW2
        have EF : Hid (rdW l = some (signV ng (valD d))) := RW2
        clear hit hbw HD hdd IX DT DN VL TE HSD RW2 CP
        generalize valD d = V at *
        cases ng with
        | true =>
          go_wp2_with fail
          go_ret2
          exact ⟨by rw [EF.out]; simp [OptI, signV], F1.out⟩
        | false =>
          go_wp2_with fail
          go_ret2
          exact ⟨by rw [EF.out]; simp [OptI, signV], F1.out⟩
  · have dz : ((c0 : Int) == 48) = false := beq_eq_false_iff_ne.2 (by omega)
    clear T1 HZ hz48
    go_enter Tryz.func62, Tryz.ntmps62
    go_wp2_with fail
    refine (CP.out _).mono ?_
    rintro e w1 ⟨rfl, hw⟩; rw [hw]; clear hw w1
    go_wp2_with fail
    go_loopw [6, 8, 9, 10] (fun v6 _ _ _ wr => ∃ pos : Nat, v6 = .int .i64 ((valD (d.take pos) : Nat) : Int) ∧ wr.heap[w.heap.size]? = some (.stringIter D pos) ∧ Below w.heap.size w wr ∧ pos ≤ n ∧ Hid (digs (d.take pos) = true)) (fun _ _ _ _ wr => n - wr.iterPos w.heap.size)
    case atStart => exact ⟨0, rfl, F0.out.1, F0.out.2, by omega, rfl⟩
    case round =>
      clear F0 ix0 dz
      obtain ⟨pos, rfl, hit, hbw, hle, HD⟩ := hrel
      have hsz : w.heap.size < wr.heap.size := (Array.getElem?_eq_some_iff.1 hit).1
      have hvl := VL.out pos n18 HD.out
      by_cases hp : pos < D.size
      · have hnx : ∀ ty, (Instr.next (.pointer (some ⟨w.heap.size, 0, none⟩)) true ty).run Tryz.prog wr = _ := fun ty => Lib.run_next_any_at wr w.heap.size D pos ty hit hp
        have hit2 := Lib.iterAt_heap wr w.heap.size D pos (pos + (Utf8.decode D pos).2) hit
        have hbw2 := Lib.below_iterAt hbw (k := w.heap.size) (Nat.le_refl _) D (pos + (Utf8.decode D pos).2)
        have hpn : pos < n := by rw [← SZ]; exact hp
        have hch := HSD.out pos hp
        by_cases hdg : 48 ≤ (D[pos]'hp).toNat ∧ (D[pos]'hp).toNat ≤ 57
        · have hde : Utf8.decode D pos = ((D[pos]'hp).toNat, 1) := decode_ascii D pos hp (by omega)
          rw [hde] at hnx hit2 hbw2
          obtain ⟨nx1, nx2⟩ := DT.out pos hpn HD.out (by rw [← hch]; exact hdg)
          rw [← hch] at nx2
          have hvl2 := VL.out (pos + 1) n18 nx1
          have NX : Hid (digs (d.take (pos + 1)) = true ∧ valD (d.take (pos + 1)) = 10 * valD (d.take pos) + ((D[pos]'hp).toNat - 48)) := ⟨nx1, nx2⟩
          have F1 : Hid ((wr.iterAt w.heap.size D (pos + 1)).heap[w.heap.size]? = some (.stringIter D (pos + 1)) ∧ Below w.heap.size w (wr.iterAt w.heap.size D (pos + 1)) ∧ wr.heap[w.heap.size]? = some (.stringIter D pos)) := ⟨hit2, hbw2, hit⟩
          rw [nx2] at hvl2
          clear hit hbw hit2 hbw2 hde HD nx1 nx2 hch
          generalize (D[pos]'hp).toNat = y at *
          generalize valD (d.take pos) = V at *
          obtain ⟨y0, y1⟩ := hdg
          have DY : Hid (∀ w', Calls Tryz.prog 79 #[.int .i32 ((y : Nat) : Int)] w' fun e w'' => e = .returned (.tuple #[.int .i64 ((y : Int) - 48), .bool true]) ∧ w'' = w') := fun w' => digit_yes _ (by omega) (by omega) w'
          clear IX DT DN VL TE HSD RW2 CP
          go_wp2_with fail
          refine (DY.out _).mono ?_
          rintro e w3 ⟨rfl, hw⟩; rw [hw]; clear hw w3
          go_wp2_with fail
          go_roundw
          case rel => exact ⟨pos + 1, by rw [NX.out.2]; go_num, F1.out.1, F1.out.2.1, by omega, NX.out.1⟩
          case measure =>
            simp only [World.iterPos, F1.out.1, F1.out.2.2]
            omega
        · have hr : (((Utf8.decode D pos).1 : Nat) : Int) < 48 ∨ 57 < (((Utf8.decode D pos).1 : Nat) : Int) := by
            by_cases ha : (D[pos]'hp).toNat < 128
            · rw [decode_ascii D pos hp ha]; show (((D[pos]'hp).toNat : Nat) : Int) < 48 ∨ 57 < (((D[pos]'hp).toNat : Nat) : Int); omega
            · have := (decode_high D pos hp (by omega)).1
              omega
          have dnn := DN.out pos hpn (by rw [← hch]; exact hdg)
          have EF : Hid (rdW l = none) := by show _ = _; rw [RW2.out, dnn]; rfl
          have dle := decode_le D pos
          have DY : Hid (∀ w', Calls Tryz.prog 79 #[.int .i32 (((Utf8.decode D pos).1 : Nat) : Int)] w' fun e w'' => e = .returned (.tuple #[.int .i64 0, .bool false]) ∧ w'' = w') := fun w' => digit_no _ hr w'
          have F1 : Hid (Below w.heap.size w (wr.iterAt w.heap.size D (pos + (Utf8.decode D pos).2))) := hbw2
          clear hit hbw hit2 hbw2 HD hr hdg dnn hch IX DT DN VL TE HSD RW2 CP
          generalize (Utf8.decode D pos).1 = y at *
          generalize (Utf8.decode D pos).2 = y2 at *
          generalize valD (d.take pos) = V at *
          go_wp2_with fail
          refine (DY.out _).mono ?_
          rintro e w3 ⟨rfl, hw⟩; rw [hw]; clear hw w3
          go_wp2_with fail
          go_ret2
          exact ⟨by rw [EF.out]; rfl, F1.out⟩
      · have hnx : ∀ ty, (Instr.next (.pointer (some ⟨w.heap.size, 0, none⟩)) true ty).run Tryz.prog wr = _ := fun ty => Lib.run_next_end_at wr w.heap.size D pos ty hit hp
        obtain rfl : pos = n := by omega
        have F1 : Hid (Below w.heap.size w wr) := hbw
        have hdd : digs d = true := by have := HD.out; rwa [TE.out] at this
        rw [TE.out] at hvl ⊢
        rw [hdd] at RW2
        have EF : Hid (rdW l = some (signV ng (valD d))) := RW2
        clear hit hbw HD hdd IX DT DN VL TE HSD RW2 CP
        generalize valD d = V at *
        cases ng with
        | true =>
          go_wp2_with fail
          go_ret2
          exact ⟨by rw [EF.out]; simp [OptI, signV], F1.out⟩
        | false =>
          go_wp2_with fail
          go_ret2
          exact ⟨by rw [EF.out]; simp [OptI, signV], F1.out⟩

set_option maxRecDepth 40000 in
set_option maxHeartbeats 4000000 in
theorem rdI64_at (l : List UInt8) (hl : l.length ≤ 1000000) (w : World) : Calls Tryz.prog 63 #[.string ⟨l.toArray⟩] w fun e w' => OptI (rdW l) e ∧ Below w.heap.size w w' := by
  have CP : Hid (∀ w, Calls Tryz.prog 78 #[.string ⟨l.toArray⟩, .string ⟨#[45]⟩] w fun e w' => e = .returned (.tuple #[.string ⟨(body l).toArray⟩, .bool (neg l)]) ∧ w' = w) := fun w => Tryz.strings_CutPrefix ⟨l.toArray⟩ ⟨#[45]⟩ w
  have RW : Hid (rdW l = if (body l).length = 0 ∨ 18 < (body l).length then none else if ((body l).getD 0 0).toNat = 48 ∧ l ≠ [48] then none else if digs (body l) then some (signV (neg l) (valD (body l))) else none) := rfl
  have hbl : (body l).length ≤ 1000000 := by unfold body trimPrefix; split; (rw [List.length_drop]; omega); exact hl
  have T1 : ((({ data := l.toArray } : ByteArray).toList == [48]) = decide (l = [48])) := by
    rw [ByteArray.toList_eq, Bool.eq_iff_iff]; simp
  have EM : (({ data := (body l).toArray } : ByteArray).toList.isEmpty) = decide ((body l).length = 0) := by
    rw [ByteArray.toList_eq]
    cases body l <;> simp
  have HS : Hid (∀ k, ∀ h : k < ({ data := (body l).toArray } : ByteArray).size, (({ data := (body l).toArray } : ByteArray)[k]'h).toNat = ((body l).getD k 0).toNat) := fun k h => str_at (body l) k h
  have SZ : ({ data := (body l).toArray } : ByteArray).size = (body l).length := rfl
  have DT : Hid (∀ k, k < (body l).length → digs ((body l).take k) = true → (48 ≤ ((body l).getD k 0).toNat ∧ ((body l).getD k 0).toNat ≤ 57) → digs ((body l).take (k + 1)) = true ∧ valD ((body l).take (k + 1)) = 10 * valD ((body l).take k) + (((body l).getD k 0).toNat - 48)) := fun k h1 h2 h3 => digs_take h1 h2 h3
  have DN : Hid (∀ k, k < (body l).length → ¬ (48 ≤ ((body l).getD k 0).toNat ∧ ((body l).getD k 0).toNat ≤ 57) → digs (body l) = false) := fun k h1 h2 => digs_no h1 h2
  have VL : Hid (∀ k, (body l).length ≤ 18 → digs ((body l).take k) = true → valD ((body l).take k) < 1000000000000000000) := fun k h0 h => by
    have h1 := valD_lt _ h
    have h2 : ((body l).take k).length ≤ 18 := by rw [List.length_take]; omega
    have h3 := Nat.pow_le_pow_right (n := 10) (by decide) h2
    rw [show 10 ^ 18 = 1000000000000000000 by decide] at h3
    omega
  have TE : Hid ((body l).take (body l).length = body l) := List.take_of_length_le (Nat.le_refl _)
  have IX : Hid (∀ k, k < (body l).length → ∀ W, (Instr.index 9 (.string ⟨(body l).toArray⟩) (.int .i64 ((k : Nat) : Int))).run Tryz.prog W = .ok (.int .u8 ((((body l).getD k 0).toNat : Nat) : Int)) W) := fun k hk W => idx_str (body l) k hk W
  generalize neg l = ng at *
  generalize hl48 : decide (l = [48]) = b48 at T1
  have H48 : Hid (decide (l = [48]) = b48) := hl48
  clear hl48
  generalize ({ data := l.toArray } : ByteArray) = TX at *
  generalize hbd : body l = d at *
  clear hbd
  obtain ⟨D, hD⟩ : ∃ D, ({ data := d.toArray } : ByteArray) = D := ⟨_, rfl⟩
  rw [hD] at CP EM IX SZ
  have HSD : Hid (∀ k, ∀ h : k < D.size, (D[k]'h).toNat = (d.getD k 0).toNat) := by rw [← hD]; exact HS
  clear hD HS
  obtain ⟨n, hn⟩ : ∃ n, d.length = n := ⟨_, rfl⟩
  rw [hn] at RW hbl EM SZ DT DN VL TE IX
  clear hn
  by_cases h0 : n = 0
  · have E : Hid (rdW l = none) := by show _ = _; rw [RW.out, if_pos (.inl h0)]
    rw [decide_eq_true h0] at EM
    rw [E.out]
    clear RW T1 DT DN VL TE IX HSD H48
    go_enter Tryz.func63, Tryz.ntmps63
    go_wp2_with fail
    refine (CP.out _).mono ?_
    rintro e w1 ⟨rfl, hw⟩; rw [hw]; clear hw w1
    go_wp2_with fail
    go_ret2
    exact ⟨rfl, Below.refl _ _⟩
  rw [decide_eq_false h0] at EM
  by_cases h18 : (18 : Int) < (n : Int)
  · have E : Hid (rdW l = none) := by show _ = _; rw [RW.out, if_pos (.inr (by omega))]
    rw [E.out]
    clear RW T1 DT DN VL TE IX HSD H48
    go_enter Tryz.func63, Tryz.ntmps63
    go_wp2_with fail
    refine (CP.out _).mono ?_
    rintro e w1 ⟨rfl, hw⟩; rw [hw]; clear hw w1
    go_wp2_with fail
    go_ret2
    exact ⟨rfl, Below.refl _ _⟩
  have E1 : rdW l = if (d.getD 0 0).toNat = 48 ∧ l ≠ [48] then none else if digs d then some (signV ng (valD d)) else none := by rw [RW.out, if_neg (by omega)]
  have RW1 : Hid (rdW l = if (d.getD 0 0).toNat = 48 ∧ l ≠ [48] then none else if digs d then some (signV ng (valD d)) else none) := E1
  clear RW E1
  have ix0 : ∀ W, (Instr.index 9 (.string D) (.int .i64 0)).run Tryz.prog W = .ok (.int .u8 (((d.getD 0 0).toNat : Nat) : Int)) W := IX.out 0 (by omega)
  have n18 : n ≤ 18 := by omega
  generalize hc0 : (d.getD 0 0).toNat = c0 at ix0
  rw [hc0] at RW1
  have key : ∀ (q : Bool), q = true ∨ q = false := fun q => by cases q <;> simp
  by_cases hz : c0 = 48 ∧ b48 = false
  · have E : Hid (rdW l = none) := by
      have h48 : l ≠ [48] := of_decide_eq_false (H48.out.trans hz.2)
      show _ = _
      rw [RW1.out, if_pos ⟨hz.1, h48⟩]
    have dz : ((c0 : Int) == 48) = true := by rw [hz.1]; rfl
    have T2 : (TX.toList == [48]) = false := by rw [T1]; exact hz.2
    rw [E.out]
    clear RW1 T1 DT DN VL TE IX HSD H48 hz hc0 key
    go_enter Tryz.func63, Tryz.ntmps63
    go_wp2_with fail
    refine (CP.out _).mono ?_
    rintro e w1 ⟨rfl, hw⟩; rw [hw]; clear hw w1
    go_wp2_with fail
    go_ret2
    exact ⟨rfl, Below.refl _ _⟩
  have RW2 : Hid (rdW l = if digs d then some (signV ng (valD d)) else none) := by
    show _ = _
    rw [RW1.out, if_neg]
    rintro ⟨h1, h2⟩
    apply hz
    refine ⟨h1, ?_⟩
    have := H48.out
    rw [decide_eq_false h2] at this
    exact this.symm
  clear RW1 H48 hc0
  have F0 : Hid ((w.iter D 0).heap[w.heap.size]? = some (.stringIter D 0) ∧ Below w.heap.size w (w.iter D 0)) := ⟨World.iter_heap w D 0, below_iterN w D⟩
  have HZ : Hid (¬ (c0 = 48 ∧ b48 = false)) := hz
  clear hz key
  by_cases hz48 : c0 = 48
  · have dz : ((c0 : Int) == 48) = true := by rw [hz48]; rfl
    have T2 : (TX.toList == [48]) = true := by rw [T1]; cases b48 with
      | true => rfl
      | false => exact absurd ⟨hz48, rfl⟩ HZ.out
    clear T1 HZ hz48
    go_enter Tryz.func63, Tryz.ntmps63
    go_wp2_with fail
    refine (CP.out _).mono ?_
    rintro e w1 ⟨rfl, hw⟩; rw [hw]; clear hw w1
    go_wp2_with fail
    go_loopw [6, 8, 9, 10] (fun v6 _ _ _ wr => ∃ pos : Nat, v6 = .int .i64 ((valD (d.take pos) : Nat) : Int) ∧ wr.heap[w.heap.size]? = some (.stringIter D pos) ∧ Below w.heap.size w wr ∧ pos ≤ n ∧ Hid (digs (d.take pos) = true)) (fun _ _ _ _ wr => n - wr.iterPos w.heap.size)
    case atStart => exact ⟨0, rfl, F0.out.1, F0.out.2, by omega, rfl⟩
    case round =>
      clear F0 ix0 dz
      obtain ⟨pos, rfl, hit, hbw, hle, HD⟩ := hrel
      have hsz : w.heap.size < wr.heap.size := (Array.getElem?_eq_some_iff.1 hit).1
      have hvl := VL.out pos n18 HD.out
      by_cases hp : pos < D.size
      · have hnx : ∀ ty, (Instr.next (.pointer (some ⟨w.heap.size, 0, none⟩)) true ty).run Tryz.prog wr = _ := fun ty => Lib.run_next_any_at wr w.heap.size D pos ty hit hp
        have hit2 := Lib.iterAt_heap wr w.heap.size D pos (pos + (Utf8.decode D pos).2) hit
        have hbw2 := Lib.below_iterAt hbw (k := w.heap.size) (Nat.le_refl _) D (pos + (Utf8.decode D pos).2)
        have hpn : pos < n := by rw [← SZ]; exact hp
        have hch := HSD.out pos hp
        by_cases hdg : 48 ≤ (D[pos]'hp).toNat ∧ (D[pos]'hp).toNat ≤ 57
        · have hde : Utf8.decode D pos = ((D[pos]'hp).toNat, 1) := decode_ascii D pos hp (by omega)
          rw [hde] at hnx hit2 hbw2
          obtain ⟨nx1, nx2⟩ := DT.out pos hpn HD.out (by rw [← hch]; exact hdg)
          rw [← hch] at nx2
          have hvl2 := VL.out (pos + 1) n18 nx1
          have NX : Hid (digs (d.take (pos + 1)) = true ∧ valD (d.take (pos + 1)) = 10 * valD (d.take pos) + ((D[pos]'hp).toNat - 48)) := ⟨nx1, nx2⟩
          have F1 : Hid ((wr.iterAt w.heap.size D (pos + 1)).heap[w.heap.size]? = some (.stringIter D (pos + 1)) ∧ Below w.heap.size w (wr.iterAt w.heap.size D (pos + 1)) ∧ wr.heap[w.heap.size]? = some (.stringIter D pos)) := ⟨hit2, hbw2, hit⟩
          rw [nx2] at hvl2
          clear hit hbw hit2 hbw2 hde HD nx1 nx2 hch
          generalize (D[pos]'hp).toNat = y at *
          generalize valD (d.take pos) = V at *
          obtain ⟨y0, y1⟩ := hdg
          have DY : Hid (∀ w', Calls Tryz.prog 79 #[.int .i32 ((y : Nat) : Int)] w' fun e w'' => e = .returned (.tuple #[.int .i64 ((y : Int) - 48), .bool true]) ∧ w'' = w') := fun w' => digit_yes _ (by omega) (by omega) w'
          clear IX DT DN VL TE HSD RW2 CP
          go_wp2_with fail
          refine (DY.out _).mono ?_
          rintro e w3 ⟨rfl, hw⟩; rw [hw]; clear hw w3
          go_wp2_with fail
          go_roundw
          case rel => exact ⟨pos + 1, by rw [NX.out.2]; go_num, F1.out.1, F1.out.2.1, by omega, NX.out.1⟩
          case measure =>
            simp only [World.iterPos, F1.out.1, F1.out.2.2]
            omega
        · have hr : (((Utf8.decode D pos).1 : Nat) : Int) < 48 ∨ 57 < (((Utf8.decode D pos).1 : Nat) : Int) := by
            by_cases ha : (D[pos]'hp).toNat < 128
            · rw [decode_ascii D pos hp ha]; show (((D[pos]'hp).toNat : Nat) : Int) < 48 ∨ 57 < (((D[pos]'hp).toNat : Nat) : Int); omega
            · have := (decode_high D pos hp (by omega)).1
              omega
          have dnn := DN.out pos hpn (by rw [← hch]; exact hdg)
          have EF : Hid (rdW l = none) := by show _ = _; rw [RW2.out, dnn]; rfl
          have dle := decode_le D pos
          have DY : Hid (∀ w', Calls Tryz.prog 79 #[.int .i32 (((Utf8.decode D pos).1 : Nat) : Int)] w' fun e w'' => e = .returned (.tuple #[.int .i64 0, .bool false]) ∧ w'' = w') := fun w' => digit_no _ hr w'
          have F1 : Hid (Below w.heap.size w (wr.iterAt w.heap.size D (pos + (Utf8.decode D pos).2))) := hbw2
          clear hit hbw hit2 hbw2 HD hr hdg dnn hch IX DT DN VL TE HSD RW2 CP
          generalize (Utf8.decode D pos).1 = y at *
          generalize (Utf8.decode D pos).2 = y2 at *
          generalize valD (d.take pos) = V at *
          go_wp2_with fail
          refine (DY.out _).mono ?_
          rintro e w3 ⟨rfl, hw⟩; rw [hw]; clear hw w3
          go_wp2_with fail
          go_ret2
          exact ⟨by rw [EF.out]; rfl, F1.out⟩
      · have hnx : ∀ ty, (Instr.next (.pointer (some ⟨w.heap.size, 0, none⟩)) true ty).run Tryz.prog wr = _ := fun ty => Lib.run_next_end_at wr w.heap.size D pos ty hit hp
        obtain rfl : pos = n := by omega
        have F1 : Hid (Below w.heap.size w wr) := hbw
        have hdd : digs d = true := by have := HD.out; rwa [TE.out] at this
        rw [TE.out] at hvl ⊢
        rw [hdd] at RW2
        have EF : Hid (rdW l = some (signV ng (valD d))) := RW2
        clear hit hbw HD hdd IX DT DN VL TE HSD RW2 CP
        generalize valD d = V at *
        cases ng with
        | true =>
          go_wp2_with fail
          go_ret2
          exact ⟨by rw [EF.out]; simp [OptI, signV], F1.out⟩
        | false =>
          go_wp2_with fail
          go_ret2
          exact ⟨by rw [EF.out]; simp [OptI, signV], F1.out⟩
  · have dz : ((c0 : Int) == 48) = false := beq_eq_false_iff_ne.2 (by omega)
    clear T1 HZ hz48
    go_enter Tryz.func63, Tryz.ntmps63
    go_wp2_with fail
    refine (CP.out _).mono ?_
    rintro e w1 ⟨rfl, hw⟩; rw [hw]; clear hw w1
    go_wp2_with fail
    go_loopw [6, 8, 9, 10] (fun v6 _ _ _ wr => ∃ pos : Nat, v6 = .int .i64 ((valD (d.take pos) : Nat) : Int) ∧ wr.heap[w.heap.size]? = some (.stringIter D pos) ∧ Below w.heap.size w wr ∧ pos ≤ n ∧ Hid (digs (d.take pos) = true)) (fun _ _ _ _ wr => n - wr.iterPos w.heap.size)
    case atStart => exact ⟨0, rfl, F0.out.1, F0.out.2, by omega, rfl⟩
    case round =>
      clear F0 ix0 dz
      obtain ⟨pos, rfl, hit, hbw, hle, HD⟩ := hrel
      have hsz : w.heap.size < wr.heap.size := (Array.getElem?_eq_some_iff.1 hit).1
      have hvl := VL.out pos n18 HD.out
      by_cases hp : pos < D.size
      · have hnx : ∀ ty, (Instr.next (.pointer (some ⟨w.heap.size, 0, none⟩)) true ty).run Tryz.prog wr = _ := fun ty => Lib.run_next_any_at wr w.heap.size D pos ty hit hp
        have hit2 := Lib.iterAt_heap wr w.heap.size D pos (pos + (Utf8.decode D pos).2) hit
        have hbw2 := Lib.below_iterAt hbw (k := w.heap.size) (Nat.le_refl _) D (pos + (Utf8.decode D pos).2)
        have hpn : pos < n := by rw [← SZ]; exact hp
        have hch := HSD.out pos hp
        by_cases hdg : 48 ≤ (D[pos]'hp).toNat ∧ (D[pos]'hp).toNat ≤ 57
        · have hde : Utf8.decode D pos = ((D[pos]'hp).toNat, 1) := decode_ascii D pos hp (by omega)
          rw [hde] at hnx hit2 hbw2
          obtain ⟨nx1, nx2⟩ := DT.out pos hpn HD.out (by rw [← hch]; exact hdg)
          rw [← hch] at nx2
          have hvl2 := VL.out (pos + 1) n18 nx1
          have NX : Hid (digs (d.take (pos + 1)) = true ∧ valD (d.take (pos + 1)) = 10 * valD (d.take pos) + ((D[pos]'hp).toNat - 48)) := ⟨nx1, nx2⟩
          have F1 : Hid ((wr.iterAt w.heap.size D (pos + 1)).heap[w.heap.size]? = some (.stringIter D (pos + 1)) ∧ Below w.heap.size w (wr.iterAt w.heap.size D (pos + 1)) ∧ wr.heap[w.heap.size]? = some (.stringIter D pos)) := ⟨hit2, hbw2, hit⟩
          rw [nx2] at hvl2
          clear hit hbw hit2 hbw2 hde HD nx1 nx2 hch
          generalize (D[pos]'hp).toNat = y at *
          generalize valD (d.take pos) = V at *
          obtain ⟨y0, y1⟩ := hdg
          have DY : Hid (∀ w', Calls Tryz.prog 79 #[.int .i32 ((y : Nat) : Int)] w' fun e w'' => e = .returned (.tuple #[.int .i64 ((y : Int) - 48), .bool true]) ∧ w'' = w') := fun w' => digit_yes _ (by omega) (by omega) w'
          clear IX DT DN VL TE HSD RW2 CP
          go_wp2_with fail
          refine (DY.out _).mono ?_
          rintro e w3 ⟨rfl, hw⟩; rw [hw]; clear hw w3
          go_wp2_with fail
          go_roundw
          case rel => exact ⟨pos + 1, by rw [NX.out.2]; go_num, F1.out.1, F1.out.2.1, by omega, NX.out.1⟩
          case measure =>
            simp only [World.iterPos, F1.out.1, F1.out.2.2]
            omega
        · have hr : (((Utf8.decode D pos).1 : Nat) : Int) < 48 ∨ 57 < (((Utf8.decode D pos).1 : Nat) : Int) := by
            by_cases ha : (D[pos]'hp).toNat < 128
            · rw [decode_ascii D pos hp ha]; show (((D[pos]'hp).toNat : Nat) : Int) < 48 ∨ 57 < (((D[pos]'hp).toNat : Nat) : Int); omega
            · have := (decode_high D pos hp (by omega)).1
              omega
          have dnn := DN.out pos hpn (by rw [← hch]; exact hdg)
          have EF : Hid (rdW l = none) := by show _ = _; rw [RW2.out, dnn]; rfl
          have dle := decode_le D pos
          have DY : Hid (∀ w', Calls Tryz.prog 79 #[.int .i32 (((Utf8.decode D pos).1 : Nat) : Int)] w' fun e w'' => e = .returned (.tuple #[.int .i64 0, .bool false]) ∧ w'' = w') := fun w' => digit_no _ hr w'
          have F1 : Hid (Below w.heap.size w (wr.iterAt w.heap.size D (pos + (Utf8.decode D pos).2))) := hbw2
          clear hit hbw hit2 hbw2 HD hr hdg dnn hch IX DT DN VL TE HSD RW2 CP
          generalize (Utf8.decode D pos).1 = y at *
          generalize (Utf8.decode D pos).2 = y2 at *
          generalize valD (d.take pos) = V at *
          go_wp2_with fail
          refine (DY.out _).mono ?_
          rintro e w3 ⟨rfl, hw⟩; rw [hw]; clear hw w3
          go_wp2_with fail
          go_ret2
          exact ⟨by rw [EF.out]; rfl, F1.out⟩
      · have hnx : ∀ ty, (Instr.next (.pointer (some ⟨w.heap.size, 0, none⟩)) true ty).run Tryz.prog wr = _ := fun ty => Lib.run_next_end_at wr w.heap.size D pos ty hit hp
        obtain rfl : pos = n := by omega
        have F1 : Hid (Below w.heap.size w wr) := hbw
        have hdd : digs d = true := by have := HD.out; rwa [TE.out] at this
        rw [TE.out] at hvl ⊢
        rw [hdd] at RW2
        have EF : Hid (rdW l = some (signV ng (valD d))) := RW2
        clear hit hbw HD hdd IX DT DN VL TE HSD RW2 CP
        generalize valD d = V at *
        cases ng with
        | true =>
          go_wp2_with fail
          go_ret2
          exact ⟨by rw [EF.out]; simp [OptI, signV], F1.out⟩
        | false =>
          go_wp2_with fail
          go_ret2
          exact ⟨by rw [EF.out]; simp [OptI, signV], F1.out⟩
end Go.Proofs.YtkjnklagjhhhkaaGreatDoor
