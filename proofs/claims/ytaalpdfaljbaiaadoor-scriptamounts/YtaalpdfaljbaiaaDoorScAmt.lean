/-
  Ours: the walk of ScriptAmounts.
-/
import Derived.Test.YtaalpdfaljbaiaaDoorScEq
namespace Go.Proofs.YtaalpdfaljbaiaaDoor
open Go.RowKit Go.Lib ScF

theorem no_take {t : List UInt8} {i : Nat} (hi : i < t.length) (h : 32 ∉ t.take i) (h1 : (t.getD i 0).toNat ≠ 32) : 32 ∉ t.take (i + 1) := by
  rw [List.take_add_one, List.getElem?_eq_getElem hi]
  rw [List.getD_eq_getElem?_getD, List.getElem?_eq_getElem hi] at h1
  have e1 : (32 : UInt8) ≠ t[i] := fun e => h1 (by rw [← e]; rfl)
  simp only [Option.toList_some, List.mem_append, List.mem_singleton, not_or]
  exact ⟨h, e1⟩
theorem moneyParse_at (l : List UInt8) (hl : l.length ≤ 1000) (w : World) (hT : TabW w) (hE : ErrW w) : Calls Tryd.prog 17 #[.string ⟨l.toArray⟩] w fun e w' => e = .returned (.tuple #[.int .i64 ((amtR l).getD 0), .bool (amtR l).isSome]) ∧ Below w.heap.size w w' := by
  obtain ⟨p, hp, hc⟩ := parse_any l (by omega) w hT hE
  obtain ⟨e1, e2⟩ := amtR_of hp
  refine hc.mono ?_
  rintro e w' ⟨b, rfl⟩
  exact ⟨by rw [e1, e2], b⟩
/-- Parse of a text that was just made bytes of. -/
theorem parse_str (l : List UInt8) (hl : l.length ≤ 1000) (w : World) (hW : PWs w) : ∃ c W, (convert 9 40 (.string ⟨l.toArray⟩)).run Tryd.prog w = .ok (.slice (some ⟨w.heap.size, 0, none⟩) l.length c) W ∧ Below w.heap.size w W ∧ Calls Tryd.prog 14 #[.slice (some ⟨w.heap.size, 0, none⟩) l.length c] W fun e w' => PaAns (readL l) e ∧ Below W.heap.size W w' := by
  obtain ⟨c, W, h, rd, b⟩ := conv_str l w
  exact ⟨c, W, h, b, parse_at l _ _ c W rd (by unfold maxLen; omega) (hW.later b)⟩

set_option maxRecDepth 40000 in
set_option maxHeartbeats 2000000 in
theorem amounts_any (t : List UInt8) (hm : t.length ≤ maxLen) (am : Int) (ha : i64 am) (w : World) (hW : PWs w) : Calls Tryd.prog 6 #[.string ⟨t.toArray⟩, .int .i64 am] w fun e w' => e = .returned (.bool true) ∧ Below w.heap.size w w' := by
  have FM : Hid (Calls Tryd.prog 15 #[.int .i64 am] w fun e w' => e = .returned (.string ⟨(fmtL am).toArray⟩) ∧ Below w.heap.size w w') := format_at am ha.1 ha.2 w hW.tab
  have fl := (fmt_parts am ha.1 ha.2).1
  have R1 : Hid (readL (wordN 2 ++ 32 :: ([55] ++ 32 :: fmtL am)) = .ok ⟨2, 7, am, 0, 0, 0, []⟩) := by
    show _ = _
    rw [read_pay (fmtL am) (fmt_no am) (by omega) 2 (.inl rfl), amtR_fmt am ha]
    rfl
  have R2 : Hid (32 ∉ t → t.length ≤ 90 → readL (wordN 5 ++ 32 :: ([55] ++ 32 :: t)) = match amtR t with | none => .bad 182 8 | some n => .ok ⟨5, 7, n, 0, 0, 0, []⟩) := fun h hl => read_pay t h (by omega) 5 (.inr rfl)
  have P1 : Hid (∀ w', Below w.heap.size w w' → ∃ c W, (convert 9 40 (.string (({ data := #[112, 97, 121, 32, 55, 32] } : ByteArray) ++ { data := (fmtL am).toArray }))).run Tryd.prog w' = .ok (.slice (some ⟨w'.heap.size, 0, none⟩) (wordN 2 ++ 32 :: ([55] ++ 32 :: fmtL am)).length c) W ∧ Below w'.heap.size w' W ∧ Calls Tryd.prog 14 #[.slice (some ⟨w'.heap.size, 0, none⟩) (wordN 2 ++ 32 :: ([55] ++ 32 :: fmtL am)).length c] W fun e w'' => e = .returned (.tuple #[opV ⟨2, 7, am, 0, 0, 0, []⟩, .int .i64 0, .int .i64 0]) ∧ Below W.heap.size W w'') := fun w' hb => by
    have e : (({ data := #[112, 97, 121, 32, 55, 32] } : ByteArray) ++ { data := (fmtL am).toArray }) = { data := (wordN 2 ++ 32 :: ([55] ++ 32 :: fmtL am)).toArray } := by
      apply ByteArray.ext
      rw [ByteArray.data_append]
      show #[112, 97, 121, 32, 55, 32] ++ (fmtL am).toArray = ([112, 97, 121] ++ 32 :: ([55] ++ 32 :: fmtL am)).toArray
      simp
    rw [e]
    have hl : (wordN 2 ++ 32 :: ([55] ++ 32 :: fmtL am)).length ≤ 1000 := by
      show ([112, 97, 121] ++ 32 :: ([55] ++ 32 :: fmtL am)).length ≤ 1000
      simp; omega
    obtain ⟨c, W, h1, h2, h3⟩ := parse_str _ hl w' (hW.later hb)
    rw [R1.out] at h3
    exact ⟨c, W, h1, h2, h3⟩
  have P2 : Hid (∀ w', Below w.heap.size w w' → 32 ∉ t → t.length ≤ 90 → ∃ c W, (convert 9 40 (.string (({ data := #[119, 97, 105, 118, 101, 32, 55, 32] } : ByteArray) ++ { data := t.toArray }))).run Tryd.prog w' = .ok (.slice (some ⟨w'.heap.size, 0, none⟩) (wordN 5 ++ 32 :: ([55] ++ 32 :: t)).length c) W ∧ Below w'.heap.size w' W ∧ Calls Tryd.prog 14 #[.slice (some ⟨w'.heap.size, 0, none⟩) (wordN 5 ++ 32 :: ([55] ++ 32 :: t)).length c] W fun e w'' => PaAns (match amtR t with | none => .bad 182 8 | some n => .ok ⟨5, 7, n, 0, 0, 0, []⟩) e ∧ Below W.heap.size W w'') := fun w' hb ht htl => by
    have e : (({ data := #[119, 97, 105, 118, 101, 32, 55, 32] } : ByteArray) ++ { data := t.toArray }) = { data := (wordN 5 ++ 32 :: ([55] ++ 32 :: t)).toArray } := by
      apply ByteArray.ext
      rw [ByteArray.data_append]
      show #[119, 97, 105, 118, 101, 32, 55, 32] ++ t.toArray = ([119, 97, 105, 118, 101] ++ 32 :: ([55] ++ 32 :: t)).toArray
      simp
    rw [e]
    have hl : (wordN 5 ++ 32 :: ([55] ++ 32 :: t)).length ≤ 1000 := by
      show ([119, 97, 105, 118, 101] ++ 32 :: ([55] ++ 32 :: t)).length ≤ 1000
      simp; omega
    obtain ⟨c, W, h1, h2, h3⟩ := parse_str _ hl w' (hW.later hb)
    rw [R2.out ht htl] at h3
    exact ⟨c, W, h1, h2, h3⟩
  have MP : Hid (∀ w', Below w.heap.size w w' → t.length ≤ 90 → Calls Tryd.prog 17 #[.string ⟨t.toArray⟩] w' fun e w'' => e = .returned (.tuple #[.int .i64 ((amtR t).getD 0), .bool (amtR t).isSome]) ∧ Below w'.heap.size w' w'') := fun w' hb hl => moneyParse_at t (by omega) w' (hW.later hb).tab (hW.later hb).err
  have EQ : Hid (∀ (k n : Int) (w' : World), Calls Tryd.prog 16 #[.agg #[.int .i64 k, .int .i64 7, .int .i64 n, .int .i64 0, .int .i64 0, .int .i64 0, .string { data := #[] }], .agg #[.int .i64 k, .int .i64 7, .int .i64 n, .int .i64 0, .int .i64 0, .int .i64 0, .string { data := #[] }]] w' fun e w'' => e = .returned (.bool true) ∧ Below w'.heap.size w' w'') := fun k n w' => equal_yes ⟨k, 7, n, 0, 0, 0, []⟩ ⟨k, 7, n, 0, 0, 0, []⟩ rfl w'
  have EZ : Hid (∀ (w' : World), Calls Tryd.prog 16 #[.agg #[.int .i64 0, .int .i64 0, .int .i64 0, .int .i64 0, .int .i64 0, .int .i64 0, .string { data := #[] }], .agg #[.int .i64 0, .int .i64 0, .int .i64 0, .int .i64 0, .int .i64 0, .int .i64 0, .string { data := #[] }]] w' fun e w'' => e = .returned (.bool true) ∧ Below w'.heap.size w' w'') := fun w' => equal_yes cm0 cm0 rfl w'
  have IX : Hid (∀ i, i < t.length → ∀ W, (Instr.index 9 (.string ⟨t.toArray⟩) (.int .i64 ((i : Nat) : Int))).run Tryd.prog W = .ok (.int .u8 (((t.getD i 0).toNat : Nat) : Int)) W) := fun i hi W => idx_str t i hi W
  have NT : Hid (∀ i, i < t.length → 32 ∉ t.take i → (t.getD i 0).toNat ≠ 32 → 32 ∉ t.take (i + 1)) := fun i hi h1 h2 => no_take hi h1 h2
  have TE : Hid (t.take t.length = t) := List.take_of_length_le (Nat.le_refl _)
  have hsz := str_size t
  have fsz := str_size (fmtL am)
  unfold maxLen at hm
  clear hW R1 R2 ha
  generalize ({ data := (fmtL am).toArray } : ByteArray) = FX at *
  generalize (fmtL am).length = FLN at *
  generalize (wordN 2 ++ 32 :: ([55] ++ 32 :: fmtL am)).length = L1 at *
  generalize (wordN 5 ++ 32 :: ([55] ++ 32 :: t)).length = L2 at *
  obtain ⟨n, hn⟩ : ∃ n, t.length = n := ⟨_, rfl⟩
  rw [hn] at hm P2 MP IX NT TE hsz
  clear hn
  go_enter Tryd.func6, Tryd.ntmps6
  go_wp2_with fail
  refine FM.out.mono ?_
  rintro e w1 ⟨rfl, b1⟩
  obtain ⟨c1, W1, hcv1, bW1, hp1⟩ := P1.out w1 b1
  have HP1 : Hid (Calls Tryd.prog 14 #[.slice (some ⟨w1.heap.size, 0, none⟩) L1 c1] W1 fun e w'' => e = .returned (.tuple #[opV ⟨2, 7, am, 0, 0, 0, []⟩, .int .i64 0, .int .i64 0]) ∧ Below W1.heap.size W1 w'') := hp1
  have BW1 := below_trans b1 bW1
  clear FM P1 hp1 bW1 b1
  go_wp2_with fail
  refine HP1.out.mono ?_
  rintro e w2 ⟨rfl, b2⟩
  have B2 := below_trans BW1 b2
  clear HP1 hcv1 BW1 b2
  go_wp2_with fail
  refine (EQ.out 2 am _).mono ?_
  rintro e w3 ⟨rfl, b3⟩
  have bA := below_alloc w2 (.cells (opL ⟨2, 7, am, 0, 0, 0, []⟩).toArray 34)
  have BK3 : Hid (Blk w2.heap.size 34 (opL ⟨2, 7, am, 0, 0, 0, []⟩) w3) := (Blk.new 34 (opL ⟨2, 7, am, 0, 0, 0, []⟩) w2).below b3
  have B3 := below_trans (below_trans B2 bA) b3
  have ltG : w.heap.size ≤ w2.heap.size := B2.size
  clear bA b3 B2
  by_cases h90 : (90 : Int) < (n : Int)
  · clear P2 MP EQ EZ IX NT TE BK3
    go_wp2_with fail
    go_ret
    exact ⟨rfl, B3⟩
  have n90 : n ≤ 90 := by omega
  go_wp2_with fail
  go_loopw [8] (fun v8 wr => ∃ i : Nat, v8 = .int .i64 (i : Int) ∧ i ≤ n ∧ Hid (32 ∉ t.take i) ∧ w3 = wr) (fun v8 _ => n - (RowKit.intOf v8).toNat)
  case atStart => exact ⟨0, rfl, by omega, by show _ ∉ _; simp, rfl⟩
  case round =>
    obtain ⟨i, rfl, hi, HT, rfl⟩ := hrel
    by_cases hlt : (i : Int) < (n : Int)
    · have ix := IX.out i (by omega)
      have nt := NT.out i (by omega) HT.out
      have NT1 : Hid ((t.getD i 0).toNat ≠ 32 → 32 ∉ t.take (i + 1)) := nt
      clear IX NT nt HT TE P2 MP EQ EZ BK3
      generalize (t.getD i 0).toNat = x at *
      by_cases h32 : x = 32
      · have d : ((x : Int) == 32) = true := by rw [h32]; rfl
        clear NT1 h32
        go_wp2_with fail
        go_ret
        exact ⟨rfl, B3⟩
      · have d : ((x : Int) == 32) = false := beq_eq_false_iff_ne.2 (by omega)
        have NX : Hid (32 ∉ t.take (i + 1)) := NT1.out h32
        clear NT1 h32
        go_wp2_with fail
        go_roundw
        case rel => exact ⟨i + 1, by go_num, by omega, NX, by first | trivial | rfl⟩
        case measure => simp [RowKit.intOf]; omega
    · obtain rfl : i = n := by omega
      have ht32 : 32 ∉ t := by have := HT.out; rwa [TE.out] at this
      have MP3 : Hid (Calls Tryd.prog 17 #[.string ⟨t.toArray⟩] w3 fun e w'' => e = .returned (.tuple #[.int .i64 ((amtR t).getD 0), .bool (amtR t).isSome]) ∧ Below w3.heap.size w3 w'') := MP.out w3 B3 n90
      have P23 : Hid (∀ w', Below w.heap.size w w' → ∃ c W, (convert 9 40 (.string (({ data := #[119, 97, 105, 118, 101, 32, 55, 32] } : ByteArray) ++ { data := t.toArray }))).run Tryd.prog w' = .ok (.slice (some ⟨w'.heap.size, 0, none⟩) L2 c) W ∧ Below w'.heap.size w' W ∧ Calls Tryd.prog 14 #[.slice (some ⟨w'.heap.size, 0, none⟩) L2 c] W fun e w'' => PaAns (match amtR t with | none => .bad 182 8 | some n => .ok ⟨5, 7, n, 0, 0, 0, []⟩) e ∧ Below W.heap.size W w'') := fun w' hb => P2.out w' hb ht32 n90
      clear MP P2 IX NT HT TE ht32
      generalize amtR t = R at *
      generalize ({ data := t.toArray } : ByteArray) = TX at *
      cases R with
      | none =>
        go_wp2_with fail
        refine MP3.out.mono ?_
        rintro e w4 ⟨rfl, b4⟩
        have B4 := below_trans B3 b4
        have BK4 : Hid (Blk w2.heap.size 34 (opL ⟨2, 7, am, 0, 0, 0, []⟩) w4) := BK3.out.below b4
        obtain ⟨c2, W2, hcv2, bW2, hp2⟩ := P23.out w4 B4
        have HP2 : Hid (Calls Tryd.prog 14 #[.slice (some ⟨w4.heap.size, 0, none⟩) L2 c2] W2 fun e w'' => e = .returned (.tuple #[opV cm0, .int .i64 182, .int .i64 8]) ∧ Below W2.heap.size W2 w'') := hp2
        have BW2 := below_trans B4 bW2
        have BK5 : Hid (Blk w2.heap.size 34 (opL ⟨2, 7, am, 0, 0, 0, []⟩) W2) := BK4.out.below bW2
        clear MP3 P23 hp2 bW2 b4 B4 BK4 BK3 B3
        go_wp2_with fail
        refine HP2.out.mono ?_
        rintro e w5 ⟨rfl, b5⟩
        have B5 := below_trans BW2 b5
        have BK6 : Hid (Blk w2.heap.size 34 (opL ⟨2, 7, am, 0, 0, 0, []⟩) w5) := BK5.out.below b5
        clear HP2 hcv2 BW2 b5 BK5
        go_wp2_with (first
          | (refine step_store rfl 34 _ _ rfl w2.heap.size 0 34 (opL ⟨2, 7, am, 0, 0, 0, []⟩) (opL cm0) rfl rfl BK6.out (Nat.le_refl _) infoO0 (opV_one cm0) ?_; intro w6 nb6 g6; have N6 : Hid (Blk w2.heap.size 34 (opL cm0) w6) := nb6; have B6 : Hid (Below w.heap.size w w6) := below_row B5 g6 ltG; clear nb6 g6 BK6 B5)
          | (refine step_loadG (by rfl) 34 _ rfl w2.heap.size 0 rfl (opL cm0) _ N6.out.all Tryd.underlying34 rfl infoO0 ?_))
        refine (EZ.out _).mono ?_
        rintro e w7 ⟨rfl, b7⟩
        have B7 := below_trans B6.out b7
        go_wp2_with fail
        go_ret
        exact ⟨rfl, B7⟩
      | some v =>
        go_wp2_with fail
        refine MP3.out.mono ?_
        rintro e w4 ⟨rfl, b4⟩
        have B4 := below_trans B3 b4
        have BK4 : Hid (Blk w2.heap.size 34 (opL ⟨2, 7, am, 0, 0, 0, []⟩) w4) := BK3.out.below b4
        obtain ⟨c2, W2, hcv2, bW2, hp2⟩ := P23.out w4 B4
        have HP2 : Hid (Calls Tryd.prog 14 #[.slice (some ⟨w4.heap.size, 0, none⟩) L2 c2] W2 fun e w'' => e = .returned (.tuple #[opV ⟨5, 7, v, 0, 0, 0, []⟩, .int .i64 0, .int .i64 0]) ∧ Below W2.heap.size W2 w'') := hp2
        have BW2 := below_trans B4 bW2
        have BK5 : Hid (Blk w2.heap.size 34 (opL ⟨2, 7, am, 0, 0, 0, []⟩) W2) := BK4.out.below bW2
        clear MP3 P23 hp2 bW2 b4 B4 BK4 BK3 B3
        go_wp2_with fail
        refine HP2.out.mono ?_
        rintro e w5 ⟨rfl, b5⟩
        have B5 := below_trans BW2 b5
        have BK6 : Hid (Blk w2.heap.size 34 (opL ⟨2, 7, am, 0, 0, 0, []⟩) w5) := BK5.out.below b5
        clear HP2 hcv2 BW2 b5 BK5
        go_wp2_with (first
          | (refine step_store rfl 34 _ _ rfl w2.heap.size 0 34 (opL ⟨2, 7, am, 0, 0, 0, []⟩) (opL ⟨5, 7, v, 0, 0, 0, []⟩) rfl rfl BK6.out (Nat.le_refl _) infoO0 (opV_one _) ?_; intro w6 nb6 g6; have N6 : Hid (Blk w2.heap.size 34 (opL ⟨5, 7, v, 0, 0, 0, []⟩) w6) := nb6; have B6 : Hid (Below w.heap.size w w6) := below_row B5 g6 ltG; clear nb6 g6 BK6 B5)
          | (refine step_loadG (by rfl) 34 _ rfl w2.heap.size 0 rfl (opL ⟨5, 7, v, 0, 0, 0, []⟩) _ N6.out.all Tryd.underlying34 rfl infoO0 ?_))
        refine (EQ.out 5 v _).mono ?_
        rintro e w7 ⟨rfl, b7⟩
        have B7 := below_trans B6.out b7
        go_wp2_with fail
        go_ret
        exact ⟨rfl, B7⟩
end Go.Proofs.YtaalpdfaljbaiaaDoor
