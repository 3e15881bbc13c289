/-
  Ours: strings.ContainsAny of any text, at a blank and a line's end.
-/
import Derived.Test.YtkjnklagjhhhkaaGreatDoorScCmd
import Derived.Laws.RangeAny
import Derived.Laws.RangeString
import Derived.Lib.OthersKept
import Derived.Lib.IndexAny
import Derived.Deep.RegionHeld3
import Derived.Deep.QuietTactic
import Derived.BigQuiet
namespace Go.Proofs.YtkjnklagjhhhkaaGreatDoor
open Go.RowKit Go.Lib ScF

abbrev chB : ByteArray := ⟨#[32, 10]⟩
theorem decode_wide (s : ByteArray) (pos : Nat) (h : pos < s.size) (ha : 128 ≤ (s[pos]'h).toNat) :
    pos + (Utf8.decode s pos).2 ≤ s.size ∧ ∀ j, pos ≤ j → j < pos + (Utf8.decode s pos).2 → 128 ≤ (s.get! j).toNat := by
  have e0 : (s.get! pos).toNat = (s[pos]'h).toNat := by have := get_at s pos h; rw [Nat.add_zero] at this; rw [this]
  have hn : ¬ (s.get! (pos + 0)).toNat < 128 := by rw [Nat.add_zero]; omega
  have one : pos + 1 ≤ s.size ∧ ∀ j, pos ≤ j → j < pos + 1 → 128 ≤ (s.get! j).toNat := by
    refine ⟨by omega, fun j h1 h2 => ?_⟩
    have : j = pos := by omega
    subst this
    omega
  simp only [Utf8.decode, hn, if_false]
  have fin : ∀ m : Nat, pos + m < s.size → (∀ k, 1 ≤ k → k ≤ m → (s.get! (pos + k)).toNat / 64 = 2) → pos + (m + 1) ≤ s.size ∧ ∀ j, pos ≤ j → j < pos + (m + 1) → 128 ≤ (s.get! j).toNat := fun m hm hk => by
    refine ⟨by omega, fun j h1 h2 => ?_⟩
    by_cases hj : j = pos
    · subst hj; omega
    · have := hk (j - pos) (by omega) (by omega)
      rw [show pos + (j - pos) = j by omega] at this
      omega
  split
  · rename_i hc
    simp only [Bool.and_eq_true, beq_iff_eq, decide_eq_true_eq] at hc
    split
    · exact fin 1 hc.2.1 (fun k h1 h2 => by
        obtain rfl : k = 1 := by omega
        exact hc.2.2)
    · exact one
  · split
    · rename_i hc
      simp only [Bool.and_eq_true, beq_iff_eq, decide_eq_true_eq] at hc
      split
      · exact fin 2 hc.2.1 (fun k h1 h2 => by
          have : k = 1 ∨ k = 2 := by omega
          rcases this with rfl | rfl
          · exact hc.1.2.2
          · exact hc.2.2)
      · exact one
    · split
      · rename_i hc
        simp only [Bool.and_eq_true, beq_iff_eq, decide_eq_true_eq] at hc
        split
        · exact fin 3 hc.2.1 (fun k h1 h2 => by
            have : k = 1 ∨ k = 2 ∨ k = 3 := by omega
            rcases this with rfl | rfl | rfl
            · exact hc.1.1.2.2
            · exact hc.1.2.2
            · exact hc.2.2)
        · exact one
      · exact one

theorem below_iterN (w : World) (s : ByteArray) : Below w.heap.size w (w.iter s 0) := below_alloc w _

set_option maxRecDepth 40000 in
set_option maxHeartbeats 2000000 in
theorem irune_err (w : World) : Calls Tryz.prog 68 #[.string chB, .int .i32 65533] w fun e w' => e = .returned (.int .i64 (-1)) ∧ Below w.heap.size w w' := by
  have F0 : Hid ((w.iter chB 0).heap[w.heap.size]? = some (.stringIter chB 0) ∧ Below w.heap.size w (w.iter chB 0)) := ⟨World.iter_heap w chB 0, below_iterN w chB⟩
  have S2 : Hid (chB.size = 2) := rfl
  have D0 : Hid (Utf8.decode chB 0 = (32, 1)) := by show _ = _; decide
  have D1 : Hid (Utf8.decode chB 1 = (10, 1)) := by show _ = _; decide
  obtain ⟨s, hs⟩ : ∃ s, chB = s := ⟨_, rfl⟩
  rw [hs] at F0 S2 D0 D1 ⊢
  clear hs
  go_enter Tryz.func68, Tryz.ntmps68
  go_wp2_with fail
  go_loopw [5, 6] (fun _ _ wr => ∃ pos : Nat, wr.heap[w.heap.size]? = some (.stringIter s pos) ∧ Below w.heap.size w wr ∧ pos ≤ 2) (fun _ _ wr => 2 - wr.iterPos w.heap.size)
  case atStart => exact ⟨0, F0.out.1, F0.out.2, by omega⟩
  case round =>
    obtain ⟨pos, hit, hbw, hle⟩ := hrel
    have hsz : w.heap.size < wr.heap.size := (Array.getElem?_eq_some_iff.1 hit).1
    by_cases hp : pos < s.size
    · have hnx : ∀ ty, (Instr.next (.pointer (some ⟨w.heap.size, 0, none⟩)) true ty).run Tryz.prog wr = _ := fun ty => Lib.run_next_any_at wr w.heap.size s pos ty hit hp
      have hit2 := Lib.iterAt_heap wr w.heap.size s pos (pos + (Utf8.decode s pos).2) hit
      have hbw2 := Lib.below_iterAt hbw (k := w.heap.size) (Nat.le_refl _) s (pos + (Utf8.decode s pos).2)
      have hd : (Utf8.decode s pos).2 = 1 ∧ (((Utf8.decode s pos).1 : Nat) : Int) ≠ 65533 ∧ (Utf8.decode s pos).1 < 100 := by
        rw [S2.out] at hp
        have : pos = 0 ∨ pos = 1 := by omega
        rcases this with rfl | rfl
        · rw [D0.out]; exact ⟨rfl, by decide, by decide⟩
        · rw [D1.out]; exact ⟨rfl, by decide, by decide⟩
      have hne : ((((Utf8.decode s pos).1 : Nat) : Int) == 65533) = false := beq_eq_false_iff_ne.2 hd.2.1
      have hlt := hd.2.2
      rw [hd.1] at hit2 hbw2 hnx
      rw [S2.out] at hp
      have F1 : Hid ((wr.iterAt w.heap.size s (pos + 1)).heap[w.heap.size]? = some (.stringIter s (pos + 1)) ∧ Below w.heap.size w (wr.iterAt w.heap.size s (pos + 1)) ∧ wr.heap[w.heap.size]? = some (.stringIter s pos)) := ⟨hit2, hbw2, hit⟩
      clear hit hbw hit2 hbw2 hd F0 D0 D1 S2
      generalize (Utf8.decode s pos).1 = y at *
      go_wp2_with fail
      go_roundw
      case rel => exact ⟨pos + 1, F1.out.1, F1.out.2.1, by omega⟩
      case measure =>
        simp only [World.iterPos, F1.out.1, F1.out.2.2]
        omega
    · have hnx : ∀ ty, (Instr.next (.pointer (some ⟨w.heap.size, 0, none⟩)) true ty).run Tryz.prog wr = _ := fun ty => Lib.run_next_end_at wr w.heap.size s pos ty hit hp
      have F1 : Hid (Below w.heap.size w wr) := hbw
      clear hit hbw F0 D0 D1 S2
      go_wp2_with fail
      go_ret
      exact ⟨rfl, F1.out⟩

theorem inBlock_ret {id : Nat} {Q : Exit → Act → World → Prop} {a : Act} {w : World} : Exit.inBlock id Q .ret a w = Q .ret a w := rfl
theorem ch_tail (W : World) : (Instr.sliceAt 9 (.string chB) (some (.int .i64 2)) none none).run Tryz.prog W = .ok (.string ByteArray.empty) W := by
  go_simp
theorem ch_tail2 (W : World) : (Instr.slice 9 (.string chB) (some (.int .i64 2)) none none).run Tryz.prog W = .ok (.string ByteArray.empty) W := by
  go_simp
set_option maxRecDepth 40000 in
set_option maxHeartbeats 2000000 in
theorem irune_high (r : Int) (h0 : 128 ≤ r) (h1 : r ≤ 2147483647) (w : World) : Calls Tryz.prog 68 #[.string chB, .int .i32 r] w fun e w' => e = .returned (.int .i64 (-1)) ∧ Below w.heap.size w w' := by
  by_cases he : r = 65533
  · subst he; exact irune_err w
  have d1 : (r == 65533) = false := beq_eq_false_iff_ne.2 he
  have d0 : decide (0 ≤ r) = true := decide_eq_true (by omega)
  have d2 : decide (r < 128) = false := decide_eq_false (by omega)
  have VR : Hid (∀ w, Calls Tryz.prog 86 #[.int .i32 r] w fun e w' => e = .returned (.bool (Lib.validRune r)) ∧ w' = w) := fun w => Tryz.utf8_ValidRune r w
  have V2 : Hid (Utf8.valid r = Lib.validRune r) := by
    show _ = _
    rw [validRune_eq]; rfl
  have S2 : chB.size = 2 := rfl
  cases hv : Lib.validRune r with
  | false =>
    rw [hv] at VR
    clear V2 hv
    go_enter Tryz.func68, Tryz.ntmps68
    go_wp2_with fail
    refine (VR.out _).mono ?_
    rintro e w1 ⟨rfl, hw⟩; rw [hw]; clear hw w1
    go_wp2_with fail
    go_ret
    exact ⟨rfl, Below.refl _ _⟩
  | true =>
    rw [hv] at VR V2
    obtain ⟨t, ht, e1, e2, e3⟩ : ∃ t : ByteArray, Utf8.encode r = t ∧ 2 ≤ t.size ∧ t.size ≤ 4 ∧ ∀ h : t.size - 1 < t.size, 128 ≤ (t[t.size - 1]'h).toNat := ⟨_, rfl, encode_facts r V2.out h0⟩
    clear V2 hv
    have cv : ∀ W, (convert 21 9 (.int .i32 r)).run Tryz.prog W = .ok (.string t) W := fun W => by rw [run_convert_int_string W _ _ _ _ (by kernel_rfl) (by kernel_rfl), ht]
    by_cases hm : t.size = 2
    · have x1 : ∀ h : 1 < t.size, 128 ≤ (t[1]'h).toNat := fun h => by
        have := e3 (by omega)
        simp only [hm] at this
        exact this
      have h1t : 1 < t.size := by omega
      have hx1 := x1 h1t
      have c1 : ∀ h : 1 < chB.size, (chB[1]'h).toNat = 10 := fun _ => rfl
      have dn : ((10 : Int) != (((t[1]'h1t).toNat : Nat) : Int)) = true := bne_iff_ne.2 (by omega)
      have IB : Hid (∀ w, Calls Tryz.prog 85 #[.string ByteArray.empty, .int .u8 (((t[1]'h1t).toNat : Nat) : Int)] w fun e w' => e = .returned (.int .i64 (-1)) ∧ w' = w) := fun w => Tryz.strings_IndexByte ByteArray.empty _ w
      have k0 : IntKind.i64.wrap 2 = 2 := by rfl
      have cf := ch_tail
      have cf2 := ch_tail2
      clear e1 e2 e3 x1 ht
      go_enter Tryz.func68, Tryz.ntmps68
      go_wp2_with fail
      refine (VR.out _).mono ?_
      rintro e w1 ⟨rfl, hw⟩; rw [hw]; clear hw w1
      go_wp2_with fail
      go_step3
      go_wp2_with fail
      go_loopw [9, 10, 11, 12] (fun v9 v10 _ _ wr => v9 = .int .i64 1 ∧ v10 = .int .i64 0 ∧ Below w.heap.size w wr) (fun _ _ _ _ _ => 0)
      case atStart => exact ⟨rfl, rfl, Below.refl _ _⟩
      case round =>
        obtain ⟨rfl, rfl, B⟩ := hrel
        go_wp2_with fail
        go_step3
        go_wp2_with fail
        go_quiet (fail)
        have B9 := below_drewN B nq
        generalize wr.drewN nq = w9 at *
        go_wp2_with fail
        go_quiet ((go_at_call 85; exact Calls.quiet_of_same (IB.out _)))
        go_wp2_with fail
        try rw [Exit.noGoto_ret]
        rw [inBlock_ret]
        refine (show bodyPost Tryz.prog Tryz.f68 (fun e w' => e = Ending.returned (Value.int IntKind.i64 (-1)) ∧ Below w.heap.size w w') .ret _ _ from ?_)
        go_ret
        exact ⟨rfl, below_drewN B9 _⟩
    · obtain ⟨m, hm'⟩ : ∃ m, t.size = m := ⟨_, rfl⟩
      have m3 : 3 ≤ m := by omega
      have m4 : m ≤ 4 := by omega
      clear e1 e2 e3 hm ht
      go_enter Tryz.func68, Tryz.ntmps68
      go_wp2_with fail
      refine (VR.out _).mono ?_
      rintro e w1 ⟨rfl, hw⟩; rw [hw]; clear hw w1
      go_wp2_with fail
      go_step3
      go_wp2_with fail
      go_loopw [9, 10, 11, 12] (fun v9 v10 _ _ wr => v9 = .int .i64 ((m : Int) - 1) ∧ v10 = .int .i64 0 ∧ wr = w) (fun _ _ _ _ _ => 0)
      case atStart => exact ⟨rfl, rfl, rfl⟩
      case round =>
        obtain ⟨rfl, rfl, rfl⟩ := hrel
        go_wp2_with fail
        try rw [Exit.noGoto_ret]
        go_ret
        exact ⟨rfl, Below.refl _ _⟩

theorem clean_take {s : ByteArray} {pos : Nat} {q : Nat} (hq : q ≤ s.size) (h : clean (s.data.toList.take pos) = true) (hn : ∀ j, pos ≤ j → j < q → (s.get! j).toNat ≠ 32 ∧ (s.get! j).toNat ≠ 10) : clean (s.data.toList.take q) = true := by
  unfold clean at h ⊢
  rw [List.all_eq_true] at h ⊢
  intro x hx
  obtain ⟨j, hj⟩ := List.mem_iff_getElem?.1 hx
  rw [List.getElem?_take] at hj
  split at hj
  · rename_i hlt
    by_cases hjp : j < pos
    · exact h x (List.mem_iff_getElem?.2 ⟨j, by rw [List.getElem?_take, if_pos hjp]; exact hj⟩)
    · have h1 := hn j (by omega) hlt
      have hsz : j < s.size := by omega
      have e : s.get! j = x := by
        have := get_at s j hsz
        rw [Nat.add_zero] at this
        rw [this]
        obtain ⟨h2, h3⟩ := List.getElem?_eq_some_iff.1 hj
        rw [← h3]
        rfl
      rw [e] at h1
      simp only [Bool.and_eq_true, bne_iff_ne, ne_eq]
      exact ⟨fun e => h1.1 (by rw [e]; rfl), fun e => h1.2 (by rw [e]; rfl)⟩
  · cases hj
theorem clean_no {s : ByteArray} {pos : Nat} (h : pos < s.size) (hx : (s[pos]'h).toNat = 32 ∨ (s[pos]'h).toNat = 10) : clean s.data.toList = false := by
  unfold clean
  rw [List.all_eq_false]
  refine ⟨s[pos]'h, Array.getElem_mem_toList (xs := s.data) h, ?_⟩
  rcases hx with e | e
  · have : s[pos]'h = 32 := UInt8.toNat_inj.1 e
    rw [this]; decide
  · have : s[pos]'h = 10 := UInt8.toNat_inj.1 e
    rw [this]; decide
theorem indexByte_ch (b : UInt8) : decide (0 ≤ Lib.indexByte [32, 10] b) = decide (b.toNat = 32 ∨ b.toNat = 10) := by
  have h := Lib.contains_iff_indexByte [32, 10] b
  rw [← h]
  by_cases hb : b.toNat = 32 ∨ b.toNat = 10
  · rw [decide_eq_true hb]
    rcases hb with e | e
    · have : b = 32 := UInt8.toNat_inj.1 e
      rw [this]; decide
    · have : b = 10 := UInt8.toNat_inj.1 e
      rw [this]; decide
  · rw [decide_eq_false hb]
    have h1 : b ≠ 32 := fun e => hb (.inl (by rw [e]; rfl))
    have h2 : b ≠ 10 := fun e => hb (.inr (by rw [e]; rfl))
    simp [h1, h2]
theorem indexAny_ch (s : List UInt8) : decide (0 ≤ Lib.indexAny s [32, 10]) = !clean s := by
  induction s with
  | nil => rfl
  | cons b l ih =>
    have hg := Lib.indexAny_ge [32, 10] l
    unfold Lib.indexAny
    by_cases hb : ([32, 10] : List UInt8).contains b = true
    · rw [if_pos hb]
      have : b = 32 ∨ b = 10 := by simpa using hb
      rcases this with rfl | rfl <;> simp [clean]
    · rw [if_neg hb]
      have hb2 : ¬ (b = 32 ∨ b = 10) := by simpa using hb
      have ec : clean (b :: l) = clean l := by
        have h1 : b ≠ 32 := fun e => hb2 (.inl e)
        have h2 : b ≠ 10 := fun e => hb2 (.inr e)
        simp [clean, h1, h2]
      rw [ec, ← ih]
      split
      · rename_i h; have := beq_iff_eq.1 h; rw [this]
      · rename_i h
        have h3 : Lib.indexAny l [32, 10] ≠ -1 := fun e => h (by rw [e]; rfl)
        rw [decide_eq_true (by omega), decide_eq_true (by omega)]

set_option maxRecDepth 40000 in
set_option maxHeartbeats 2000000 in
theorem idxAny_short (s : ByteArray) (w : World) (hs : s.size ≤ 8) : Calls Tryz.prog 55 #[.string s, .string chB] w fun e w' => ∃ n : Int, e = .returned (.int .i64 n) ∧ Hid (decide (0 ≤ n) = !clean s.data.toList) ∧ Below w.heap.size w w' := by
  have F0 : Hid ((w.iter s 0).heap[w.heap.size]? = some (.stringIter s 0) ∧ Below w.heap.size w (w.iter s 0) ∧ clean (s.data.toList.take 0) = true) := ⟨World.iter_heap w s 0, below_iterN w s, rfl⟩
  have US : Hid (∀ w, Calls Tryz.prog 69 #[.int .i64 (s.size : Int)] w fun e w' => e = .returned (.bool false) ∧ w' = w) := fun w => by
    have := Tryz.strings_shouldUseASCIISet (s.size : Int) w
    rwa [decide_eq_false (by omega)] at this
  have S2 : chB.size = 2 := rfl
  have SE : chB.toList.isEmpty = false := by rw [ByteArray.toList_eq]; rfl
  go_enter Tryz.func55, Tryz.ntmps55
  go_wp2_with fail
  refine (US.out _).mono ?_
  rintro e w1 ⟨rfl, hw⟩; rw [hw]; clear hw w1 US
  go_wp2_with fail
  go_loopw [9, 10] (fun _ _ wr => ∃ pos : Nat, wr.heap[w.heap.size]? = some (.stringIter s pos) ∧ Below w.heap.size w wr ∧ pos ≤ s.size ∧ Hid (clean (s.data.toList.take pos) = true)) (fun _ _ wr => s.size - wr.iterPos w.heap.size)
  case atStart => exact ⟨0, F0.out.1, F0.out.2.1, by omega, F0.out.2.2⟩
  case round =>
    clear F0
    obtain ⟨pos, hit, hbw, hle, HC⟩ := hrel
    have hsz : w.heap.size < wr.heap.size := (Array.getElem?_eq_some_iff.1 hit).1
    by_cases hp : pos < s.size
    · have hnx : ∀ ty, (Instr.next (.pointer (some ⟨w.heap.size, 0, none⟩)) true ty).run Tryz.prog wr = _ := fun ty => Lib.run_next_any_at wr w.heap.size s pos ty hit hp
      have hit2 := Lib.iterAt_heap wr w.heap.size s pos (pos + (Utf8.decode s pos).2) hit
      have hbw2 := Lib.below_iterAt hbw (k := w.heap.size) (Nat.le_refl _) s (pos + (Utf8.decode s pos).2)
      by_cases ha : (s[pos]'hp).toNat < 128
      · have hde : Utf8.decode s pos = ((s[pos]'hp).toNat, 1) := decode_ascii s pos hp ha
        rw [hde] at hnx hit2 hbw2
        have IR : Hid (∀ w, Calls Tryz.prog 68 #[.string chB, .int .i32 (((s[pos]'hp).toNat : Nat) : Int)] w fun e w' => e = .returned (.int .i64 (Lib.indexByte [32, 10] (s[pos]'hp))) ∧ w' = w) := fun w => by
          have := Tryz.strings_IndexRune_ascii chB (((s[pos]'hp).toNat : Nat) : Int) w (by omega) (by omega)
          simpa using this
        have IC := indexByte_ch (s[pos]'hp)
        have E0 : (s.get! pos).toNat = (s[pos]'hp).toNat := by have := get_at s pos hp; rw [Nat.add_zero] at this; rw [this]
        by_cases hb : (s[pos]'hp).toNat = 32 ∨ (s[pos]'hp).toNat = 10
        · have CN : Hid (clean s.data.toList = false) := clean_no hp hb
          rw [decide_eq_true hb] at IC
          have F1 : Hid (Below w.heap.size w (wr.iterAt w.heap.size s (pos + 1))) := hbw2
          clear hit hbw hit2 hbw2 hde HC hb E0
          generalize (s[pos]'hp).toNat = y at *
          generalize Lib.indexByte [32, 10] (s[pos]'hp) = ib at *
          have IC2 : 0 ≤ ib := of_decide_eq_true IC
          clear IC
          go_wp2_with fail
          refine (IR.out _).mono ?_
          rintro e w3 ⟨rfl, hw⟩; rw [hw]; clear hw w3
          go_wp2_with fail
          go_ret
          exact ⟨_, rfl, by show _ = _; rw [CN.out]; exact decide_eq_true (by omega), F1.out⟩
        · rw [decide_eq_false hb] at IC
          have NC : Hid (clean (s.data.toList.take (pos + 1)) = true) := clean_take (by omega) HC.out (fun j h1 h2 => by
            obtain rfl : j = pos := by omega
            rw [E0]
            exact ⟨fun e => hb (.inl e), fun e => hb (.inr e)⟩)
          have F1 : Hid ((wr.iterAt w.heap.size s (pos + 1)).heap[w.heap.size]? = some (.stringIter s (pos + 1)) ∧ Below w.heap.size w (wr.iterAt w.heap.size s (pos + 1)) ∧ wr.heap[w.heap.size]? = some (.stringIter s pos)) := ⟨hit2, hbw2, hit⟩
          clear hit hbw hit2 hbw2 hde HC hb E0
          generalize (s[pos]'hp).toNat = y at *
          generalize Lib.indexByte [32, 10] (s[pos]'hp) = ib at *
          have IC2 : ib < 0 := by have := of_decide_eq_false IC; omega
          clear IC
          go_wp2_with fail
          refine (IR.out _).mono ?_
          rintro e w3 ⟨rfl, hw⟩; rw [hw]; clear hw w3
          go_wp2_with fail
          go_roundw
          case rel => exact ⟨pos + 1, F1.out.1, F1.out.2.1, by omega, NC⟩
          case measure =>
            simp only [World.iterPos, F1.out.1, F1.out.2.2]
            omega
      · obtain ⟨dw1, dw2⟩ := decode_wide s pos hp (by omega)
        have dh := decode_high s pos hp (by omega)
        have dl := decode_le s pos
        have IR : Hid (∀ w, Calls Tryz.prog 68 #[.string chB, .int .i32 (((Utf8.decode s pos).1 : Nat) : Int)] w fun e w' => e = .returned (.int .i64 (-1)) ∧ Below w.heap.size w w') := fun w => irune_high _ (by omega) (by omega) w
        have NC : Hid (clean (s.data.toList.take (pos + (Utf8.decode s pos).2)) = true) := clean_take dw1 HC.out (fun j h1 h2 => by have := dw2 j h1 h2; omega)
        have F1 : Hid ((wr.iterAt w.heap.size s (pos + (Utf8.decode s pos).2)).heap[w.heap.size]? = some (.stringIter s (pos + (Utf8.decode s pos).2)) ∧ Below w.heap.size w (wr.iterAt w.heap.size s (pos + (Utf8.decode s pos).2)) ∧ wr.heap[w.heap.size]? = some (.stringIter s pos)) := ⟨hit2, hbw2, hit⟩
        have dw := dh.2
        clear hit hbw hit2 hbw2 HC dw2 dh
        generalize (Utf8.decode s pos).1 = y at *
        generalize (Utf8.decode s pos).2 = y2 at *
        go_wp2_with fail
        refine (IR.out _).mono ?_
        rintro e w3 ⟨rfl, b3⟩
        have F3 : Hid (w3.heap[w.heap.size]? = some (.stringIter s (pos + y2)) ∧ Below w.heap.size w w3 ∧ wr.heap[w.heap.size]? = some (.stringIter s pos)) := by
          refine ⟨?_, below_trans F1.out.2.1 b3, F1.out.2.2⟩
          have hl := (Array.getElem?_eq_some_iff.1 F1.out.1).1
          rw [b3.block w.heap.size hl]
          exact F1.out.1
        clear b3 F1
        go_wp2_with fail
        go_roundw
        case rel => exact ⟨pos + y2, F3.out.1, F3.out.2.1, by omega, NC⟩
        case measure =>
          simp only [World.iterPos, F3.out.1, F3.out.2.2]
          omega
    · have hnx : ∀ ty, (Instr.next (.pointer (some ⟨w.heap.size, 0, none⟩)) true ty).run Tryz.prog wr = _ := fun ty => Lib.run_next_end_at wr w.heap.size s pos ty hit hp
      have et : s.data.toList.take pos = s.data.toList := List.take_of_length_le (by rw [Array.length_toList]; show s.size ≤ pos; omega)
      rw [et] at HC
      have F1 : Hid (Below w.heap.size w wr) := hbw
      clear hit hbw et
      go_wp2_with fail
      go_ret
      exact ⟨_, rfl, by show _ = _; rw [HC.out]; rfl, F1.out⟩

theorem zero256 (w : World) : (zeroValue 125).run Tryz.prog w = .ok (.agg (Array.replicate 256 (.bool false))) w := (zero_of_info (n := 256) (by kernel_rfl)).1 w
theorem idxAny_at (s : ByteArray) (w : World) (hs : s.size < 4294967281) : Calls Tryz.prog 55 #[.string s, .string chB] w fun e w' => ∃ n : Int, e = .returned (.int .i64 n) ∧ Hid (decide (0 ≤ n) = !clean s.data.toList) ∧ Below w.heap.size w w' := by
  by_cases h8 : s.size ≤ 8
  · exact idxAny_short s w h8
  · refine (Tryz.strings_IndexAny_long zero256 s chB w (by decide) (by omega) hs (by decide) (fun j b hb => ?_)).mono ?_
    · have : b = 32 ∨ b = 10 := by have := List.mem_of_getElem? hb; simpa using this
      rcases this with rfl | rfl <;> decide
    · rintro e w' ⟨rfl, rfl⟩
      exact ⟨_, rfl, indexAny_ch _, ((Below.refl _ _).alloc (Nat.le_refl _) _).alloc (by simp) _⟩
set_option maxRecDepth 40000 in
set_option maxHeartbeats 1000000 in
theorem contAny_at (s : ByteArray) (w : World) (hs : s.size < 4294967281) : Calls Tryz.prog 41 #[.string s, .string chB] w fun e w' => e = .returned (.bool (!clean s.data.toList)) ∧ Below w.heap.size w w' := by
  have IA : Hid (Calls Tryz.prog 55 #[.string s, .string chB] w fun e w' => ∃ n : Int, e = .returned (.int .i64 n) ∧ Hid (decide (0 ≤ n) = !clean s.data.toList) ∧ Below w.heap.size w w') := idxAny_at s w hs
  go_enter Tryz.func41, Tryz.ntmps41
  go_wp2_with fail
  refine IA.out.mono ?_
  rintro e w1 ⟨n, rfl, hn, b⟩
  go_wp2_with fail
  go_ret
  exact ⟨by rw [← hn.out]; rfl, b⟩
end Go.Proofs.YtkjnklagjhhhkaaGreatDoor
