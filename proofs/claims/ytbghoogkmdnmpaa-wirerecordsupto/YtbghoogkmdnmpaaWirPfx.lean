/-
  Ours: WirePrefix's walk.
-/
import Derived.Test.YtbghoogkmdnmpaaWirUsdR
import Derived.Test.YtbghoogkmdnmpaaWirTold
import Derived.Deep.Cut
namespace Go.Proofs.Ytbghoogkmdnmpaa
open Go.RowKit

theorem putT_bytes (s : ByteArray) : Bytes (putT (sB s)) := fun c hc => by
  unfold putT at hc
  rcases List.mem_append.1 hc with h | h
  · exact put_byte _ c h
  · exact sB_byte s c h
theorem opM_bytes (m : Nat) (o : OpV) : Bytes (opM m o) := fun c hc => by
  unfold opM at hc
  simp only [List.mem_append] at hc
  have pI : ∀ y : Int, c ∈ putI y → c < 256 := fun y h => put_byte _ c h
  have pT : c ∈ putT (sB o.text) → c < 256 := fun h => putT_bytes _ c h
  have it : ∀ (n : Nat) (l : List Nat), (c ∈ l → c < 256) → c ∈ (if n = 1 then l else []) → c < 256 := fun n l h1 h2 => by
    by_cases h : n = 1
    · rw [if_pos h] at h2; exact h1 h2
    · rw [if_neg h] at h2; cases h2
  rcases hc with (((((h | h) | h) | h) | h) | h) | h
  · exact pI _ h
  all_goals exact it _ _ (by first | exact pI _ | exact pT) h
theorem recL_bytes (k : Int) (o : OpV) (xs : List Int) : Bytes (recL k o xs) := fun c hc => by
  unfold recL at hc
  split at hc
  · split at hc
    · cases hc
    · rcases List.mem_append.1 hc with h | h
      · exact put_byte _ c h
      · unfold opL at h
        split at h
        · exact opM_bytes _ o c h
        · first | cases h | exact put_byte _ c h
  · split at hc
    · rcases List.mem_append.1 hc with h | h
      · exact put_byte _ c h
      · unfold putL at h
        rcases List.mem_append.1 h with h | h
        · exact put_byte _ c h
        · obtain ⟨x, _, h⟩ := List.mem_flatMap.1 h
          exact put_byte _ c h
    · cases hc
theorem recL_len (k : Int) (o : OpV) (ok : o.Ok) (xs : List Int) (hx : I64s xs) (hl : xs.length ≤ 1000000000) : (recL k o xs).length ≤ 20000000000 := by
  have h1 := opL_len o ok
  have h2 := putL_len xs hx hl
  have p1 : (put 1).length = 1 := by rw [put_one]; rfl
  have p2 : (put 2).length = 1 := by rw [put_two]; rfl
  unfold recL
  split
  · split
    · simp
    · rw [List.length_append]; omega
  · split
    · rw [List.length_append]; omega
    · simp

theorem rdB_take {w : World} {a : Option Addr} {n cap : Nat} {bs : List Nat} (h : RdB w (.slice a n cap) bs) (c : Nat) (hc : c < bs.length) : RdB w (.slice a c cap) (bs.take c) := by
  obtain ⟨ao, cp, e, h1, h2, h3⟩ := h
  cases e
  have hm : (List.map bv (bs.take c)).length = c := by rw [List.length_map, List.length_take]; omega
  have hm2 : (List.map bv bs).length = bs.length := List.length_map _
  refine ⟨a, cap, by rw [hm], by omega, h2, fun i hi => ?_⟩
  obtain ⟨b, off, e1, e2, e3⟩ := h3 i (by omega)
  refine ⟨b, off, e1, e2, ?_⟩
  rw [e3]
  simp

theorem Bytes_app {a b : List Nat} (h : Bytes a) (k : Bytes b) : Bytes (a ++ b) := fun c hc => by
  rcases List.mem_append.1 hc with h1 | h1
  · exact h c h1
  · exact k c h1

set_option maxRecDepth 20000 in
set_option maxHeartbeats 2000000 in
theorem wirePrefix_any (k : Int) (o : OpV) (ok : o.Ok) (xs : List Int) (hx : I64s xs) (va : Value) (w : World) (hl : xs.length ≤ 1048576) (hr : RdI w va xs)
    (cut : Int) (ts : List Nat) (vt : Value) (ht : Bytes ts) (htl : ts.length ≤ 1048576) (hrt : RdB w vt ts) :
    Calls Try.prog 3 #[recV k o va, .int .i64 cut, vt] w fun e w' => e = .returned (.bool true) ∧ Below w.heap.size w w' := by
  have TW : Hid (∀ w, RdI w va xs → Calls Try.prog 10 #[recV k o va] w fun e w' => ∃ vb, e = .returned (recV k o vb) ∧ RowN w.heap.size w' vb xs ∧ Below w.heap.size w w') := fun w h => twinRecord_at k o xs va w (by omega) h
  have ER : Hid (∀ vb w, RdI w vb xs → Calls Try.prog 9 #[recV k o vb] w (NewB w (recL k o xs))) := fun vb w h => encodeRecord_at k o ok xs hx vb w h (by omega)
  have hbL : Hid (Bytes (recL k o xs)) := recL_bytes k o xs
  have hbN : Hid ((recL k o xs).length ≤ 20000000000) := recL_len k o ok xs hx (by omega)
  have OK1 : Hid ((decR (recL k o xs)).2 = recOk k o) := decR_told k o ok xs hx (by omega) (recL_bytes k o xs)
  have NO1 : Hid (recOk k o = false → recL k o xs = []) := recL_none k o xs
  generalize hbs : recL k o xs = bs at *
  obtain ⟨al, cl, el, _, _⟩ := hr.len
  generalize hnl : (xs.map (Value.int .i64)).length = nl at el
  subst el
  obtain ⟨at', ct, et, _, _⟩ := hrt.len
  obtain ⟨T, hT⟩ : ∃ T, ts.length = T := ⟨_, rfl⟩
  rw [List.length_map, hT] at et
  subst et
  have UR : Hid (∀ w, Calls Try.prog 13 #[recV k o (.slice al nl cl)] w fun e w' => e = .returned (.tuple #[usedRV k o (.slice al nl cl), .bool (recOk k o)]) ∧ Below w.heap.size w w') := fun w => usedRecord_at k o al nl cl w
  have CP : Hid (∀ (cs : List Nat) v w, cs.length ≤ 140737488351232 → RdB w v cs → Calls Try.prog 12 #[v] w (NewB w cs)) := fun cs v w h1 h2 => copied_at cs v w h1 h2
  have DR : Hid (∀ (cs : List Nat) v w, Bytes cs → cs.length ≤ 1000000000000 → RdB w v cs → Calls Try.prog 11 #[v] w fun e w' => (∃ va, e = .returned (.tuple #[recV (decR cs).1.1 (decR cs).1.2.1 va, .bool (decR cs).2]) ∧ RowN w.heap.size w' va (decR cs).1.2.2) ∧ Below w.heap.size w w') := fun cs v w h1 h2 h3 => decodeRecord_at cs h1 h2 v w h3
  obtain ⟨f0, f1, f2, f3, f4, f5, f6⟩ := o
  have BA := below_alloc w (.cells #[.int .i64 k, .int .i64 f0, .int .i64 f1, .int .i64 f2, .int .i64 f3, .int .i64 f4, .int .i64 f5, .string f6, .slice al nl cl] 26)
  have BO := Blk.new 26 [.int .i64 k, .int .i64 f0, .int .i64 f1, .int .i64 f2, .int .i64 f3, .int .i64 f4, .int .i64 f5, .string f6, .slice al nl cl] w
  have r1 := Rd.later hr BA
  generalize hrk : recOk k _ = rk at *
  unfold recV at TW UR
  unfold recV
  simp only at *
  go_enter Try.func3, Try.ntmps3
  go_wp2_with fail
  generalize w.alloc (.cells #[.int .i64 k, .int .i64 f0, .int .i64 f1, .int .i64 f2, .int .i64 f3, .int .i64 f4, .int .i64 f5, .string f6, .slice al nl cl] 26) = W0 at *
  obtain ⟨O, hO⟩ : ∃ O, w.heap.size = O := ⟨_, rfl⟩
  rw [hO] at BO ⊢
  refine (TW.out _ r1).mono ?_
  rintro e w2 ⟨vb, rfl, r2, b2⟩
  have BO2 := BO.below b2
  have W2 := below_trans BA b2
  clear BO BA r1 b2 TW
  go_wp2_with fail
  refine (ER.out _ _ r2.rd).mono ?_
  rintro e w3 ⟨vp, rfl, r3, b3⟩
  have BO3 := BO2.below b3
  have W3 := below_trans W2 b3
  clear BO2 W2 r2 b3 ER
  go_wp2_with fail
  refine (CP.out bs _ _ (by have := hbN.out; omega) r3.rd).mono ?_
  rintro e w4 ⟨vc, rfl, r4, b4⟩
  have BO4 := BO3.below b4
  have W4 := below_trans W3 b4
  have P4 := Rd.later r3.rd b4
  clear BO3 W3 r3 b4
  go_wp2_with fail
  refine (DR.out bs _ _ hbL.out (by have := hbN.out; omega) r4.rd).mono ?_
  rintro e w5 ⟨⟨vd, rfl, r5⟩, b5⟩
  have BO5 := BO4.below b5
  have W5 := below_trans W4 b5
  have P5 := Rd.later P4 b5
  obtain ⟨ad, cd, ed, _, _⟩ := r5.rd.len
  generalize (List.map (Value.int .i64) (decR bs).1.2.2).length = nd at ed
  subst ed
  clear BO4 W4 r4 P4 r5 b5
  have DB := OK1.out
  have BE5 := below_alloc w5 (.cells #[.int .i64 (decR bs).1.1, .int .i64 (decR bs).1.2.1.kind, .int .i64 (decR bs).1.2.1.loan, .int .i64 (decR bs).1.2.1.amount, .int .i64 (decR bs).1.2.1.rate, .int .i64 (decR bs).1.2.1.count, .int .i64 (decR bs).1.2.1.days, .string (decR bs).1.2.1.text, .slice ad nd cd] 26)
  have BO6 := BO5.below BE5
  have W6 := below_trans W5 BE5
  have P6 := Rd.later P5 BE5
  unfold recV
  rw [DB]
  go_upto_region 3 with fail
  generalize w5.alloc (.cells #[.int .i64 (decR bs).1.1, .int .i64 (decR bs).1.2.1.kind, .int .i64 (decR bs).1.2.1.loan, .int .i64 (decR bs).1.2.1.amount, .int .i64 (decR bs).1.2.1.rate, .int .i64 (decR bs).1.2.1.count, .int .i64 (decR bs).1.2.1.days, .string (decR bs).1.2.1.text, .slice ad nd cd] 26) = w6 at *
  have lo0 := BO6.cell 0 _ rfl
  have lo1 := BO6.cell 1 _ rfl
  have lo2 := BO6.cell 2 _ rfl
  have lo3 := BO6.cell 3 _ rfl
  have lo4 := BO6.cell 4 _ rfl
  have lo5 := BO6.cell 5 _ rfl
  have lo6 := BO6.cell 6 _ rfl
  have lo7 := BO6.cell 7 _ rfl
  have lo8 := BO6.cell 8 _ rfl
  clear BO5 W5 P5 BE5 BO6
  go_wp2_with fail
  refine (UR.out _).mono ?_
  rintro e w7 ⟨rfl, b7⟩
  have W7 := below_trans W6 b7
  have P7 := Rd.later P6 b7
  clear W6 P6 b7 lo0 lo1 lo2 lo3 lo4 lo5 lo6 lo7 lo8 UR DB
  obtain ⟨u0, u1, u2, u3, u4, u5, u6, u7, u8, u9, u10, oe⟩ : ∃ (u0 u1 u2 u3 u4 u5 u6 : Int) (u7 : ByteArray) (u8 : Option Addr) (u9 u10 : Nat), usedRV k ⟨f0, f1, f2, f3, f4, f5, f6⟩ (.slice al nl cl) = .agg #[.int .i64 u0, .int .i64 u1, .int .i64 u2, .int .i64 u3, .int .i64 u4, .int .i64 u5, .int .i64 u6, .string u7, .slice u8 u9 u10] := by
    unfold usedRV recV
    split
    · exact ⟨_, _, _, _, _, _, _, _, _, _, _, rfl⟩
    · split <;> exact ⟨_, _, _, _, _, _, _, _, _, _, _, rfl⟩
  rw [oe]
  have BE7 := below_alloc w7 (.cells #[.int .i64 u0, .int .i64 u1, .int .i64 u2, .int .i64 u3, .int .i64 u4, .int .i64 u5, .int .i64 u6, .string u7, .slice u8 u9 u10] 26)
  have W8 := below_trans W7 BE7
  have P8 := Rd.later P7 BE7
  go_upto_region 4 with fail
  generalize w7.alloc (.cells #[.int .i64 u0, .int .i64 u1, .int .i64 u2, .int .i64 u3, .int .i64 u4, .int .i64 u5, .int .i64 u6, .string u7, .slice u8 u9 u10] 26) = w8 at *
  have T8 := Rd.later hrt W8
  obtain ⟨ap, cp, ep, hcp, _⟩ := P8.len
  obtain ⟨L, hL⟩ : ∃ L, bs.length = L := ⟨_, rfl⟩
  rw [List.length_map, hL] at ep
  rw [List.length_map, hL] at hcp
  subst ep
  have hNL : Hid (bs.length = L) := hL
  have hTL : Hid (ts.length = T) := hT
  have hO' : Hid (w.heap.size = O) := hO
  clear W7 P7 BE7 oe hr hrt hL hT hO hbs hrk
  have hL2 : L ≤ 20000000000 := by have := hbN.out; have := hNL.out; omega
  obtain ⟨i0, hi0, hz0, hz1, hz2⟩ := info_parts infoB
  cases rk with
  | false =>
    obtain rfl : L = 0 := by rw [← hNL.out, NO1.out rfl]; rfl
    have e1 : (((0 : Nat) : Int) == 0) = true := rfl
    go_wp2_with fail
    go_ret
    exact ⟨rfl, hO'.out ▸ W8⟩
  | true =>
    have D2 : Hid (∀ c, c < L → (decR (bs.take c)).2 = false) := fun c hc => decR_cut bs hbL.out OK1.out c (by have := hNL.out; omega)
    have D3 : Hid (0 < T → (decR (bs ++ ts)).2 = false) := fun h => decR_tail bs ts (Bytes_app hbL.out ht) OK1.out (by have := hTL.out; omega)
    clear OK1 NO1
    by_cases c1 : 0 ≤ cut
    · have e1 : decide (0 ≤ cut) = true := by simpa using c1
      by_cases c2 : cut < (L : Int)
      · have e2 : decide (cut < (L : Int)) = true := by simpa using c2
        obtain ⟨c, rfl⟩ : ∃ c : Nat, cut = (c : Int) := ⟨cut.toNat, by omega⟩
        have hc : c < bs.length := by have := hNL.out; omega
        have Q8 := rdB_take P8 c hc
        have lt := List.length_take_le c bs
        have DT := D2.out c (by omega)
        have c3 : c ≤ cp := by omega
        have c4 : decide ((c : Int) ≤ (cp : Int)) = true := by simpa using c3
        go_wp2_with fail
        refine (CP.out (bs.take c) _ _ (by have := hNL.out; omega) Q8).mono ?_
        rintro e w81 ⟨vq, rfl, r81, b81⟩
        have W81 := below_trans W8 b81
        have P81 := Rd.later P8 b81
        have T81 := Rd.later T8 b81
        clear W8 P8 T8 Q8 b81
        go_wp2_with fail
        refine (DR.out (bs.take c) _ _ (fun x hx => hbL.out x (List.mem_of_mem_take hx)) (by have := hNL.out; omega) r81.rd).mono ?_
        rintro e w9 ⟨⟨vd, rfl, r9⟩, b9⟩
        obtain ⟨ad, cd, ed, _, _⟩ := r9.rd.len
        generalize (List.map (Value.int .i64) (decR (bs.take c)).1.2.2).length = nd at ed
        subst ed
        have W9 := below_trans W81 b9
        have P9 := Rd.later P81 b9
        have T9 := Rd.later T81 b9
        rw [DT]
        unfold recV
        clear r81 W81 P81 T81 b9 r9 DT D2
        go_upto_region 12 with fail
        have W9s := W9.size
        by_cases t0 : T = 0
        · have et : (((T : Nat) : Int) == 0) = true := by rw [t0]; rfl
          go_wp2_with fail
          go_ret
          exact ⟨rfl, hO'.out ▸ W9⟩
        · have et : (((T : Nat) : Int) == 0) = false := by simp; omega
          go_wp2_with fail
          refine (CP.out bs _ _ (by have := hNL.out; omega) P9).mono ?_
          rintro e w10 ⟨vq, rfl, r10, b10⟩
          have W10 := below_trans W9 b10
          have T10 := Rd.later T9 b10
          have S10 := b10.size
          have k10 := len_max (a := bs) (b := ts) (by have := hNL.out; have := hTL.out; omega)
          have n10 := one_bv ts
          clear W9 P9 T9 b10
          go_wp2_with (at_builtin; refine wpList_catV rfl (.tmp 56) (.tmp 57) 27 rfl 5 i0 (.int .u8 0) 1 underB hi0 hz0 hz1 hz2 rfl w9.heap.size _ _ _ _ n10 rfl r10 S10 rfl T10 k10.1 k10.2 ?_; intro v11 w11 r11 g11)
          have W11 : Below w.heap.size w w11 := below_grown W10 r10 W9s W10.size g11
          have r11' := cat_row r11
          refine (DR.out (bs ++ ts) _ _ (Bytes_app hbL.out ht) (by rw [List.length_append]; have := hNL.out; have := hTL.out; omega) r11'.rd).mono ?_
          rintro e w12 ⟨⟨vd, rfl, r12⟩, b12⟩
          obtain ⟨ad, cd, ed, _, _⟩ := r12.rd.len
          generalize (List.map (Value.int .i64) (decR (bs ++ ts)).1.2.2).length = nd at ed
          subst ed
          have W12 := below_trans W11 b12
          have D4 := D3.out (by omega)
          rw [D4]
          unfold recV
          clear r10 r11 r11' W10 T10 S10 W11 b12 r12 g11 D4
          go_wp2_with fail
          go_ret
          exact ⟨rfl, hO'.out ▸ W12⟩
      · have e2 : decide (cut < (L : Int)) = false := by simpa using c2
        have W9 := W8
        have P9 := P8
        have T9 := T8
        obtain ⟨w9, hw9⟩ : ∃ w9, w8 = w9 := ⟨_, rfl⟩
        rw [hw9] at W9 P9 T9 ⊢
        clear W8 P8 T8 hw9
        go_upto_region 12 with fail
        have W9s := W9.size
        by_cases t0 : T = 0
        · have et : (((T : Nat) : Int) == 0) = true := by rw [t0]; rfl
          go_wp2_with fail
          go_ret
          exact ⟨rfl, hO'.out ▸ W9⟩
        · have et : (((T : Nat) : Int) == 0) = false := by simp; omega
          go_wp2_with fail
          refine (CP.out bs _ _ (by have := hNL.out; omega) P9).mono ?_
          rintro e w10 ⟨vq, rfl, r10, b10⟩
          have W10 := below_trans W9 b10
          have T10 := Rd.later T9 b10
          have S10 := b10.size
          have k10 := len_max (a := bs) (b := ts) (by have := hNL.out; have := hTL.out; omega)
          have n10 := one_bv ts
          clear W9 P9 T9 b10
          go_wp2_with (at_builtin; refine wpList_catV rfl (.tmp 56) (.tmp 57) 27 rfl 5 i0 (.int .u8 0) 1 underB hi0 hz0 hz1 hz2 rfl w9.heap.size _ _ _ _ n10 rfl r10 S10 rfl T10 k10.1 k10.2 ?_; intro v11 w11 r11 g11)
          have W11 : Below w.heap.size w w11 := below_grown W10 r10 W9s W10.size g11
          have r11' := cat_row r11
          refine (DR.out (bs ++ ts) _ _ (Bytes_app hbL.out ht) (by rw [List.length_append]; have := hNL.out; have := hTL.out; omega) r11'.rd).mono ?_
          rintro e w12 ⟨⟨vd, rfl, r12⟩, b12⟩
          obtain ⟨ad, cd, ed, _, _⟩ := r12.rd.len
          generalize (List.map (Value.int .i64) (decR (bs ++ ts)).1.2.2).length = nd at ed
          subst ed
          have W12 := below_trans W11 b12
          have D4 := D3.out (by omega)
          rw [D4]
          unfold recV
          clear r10 r11 r11' W10 T10 S10 W11 b12 r12 g11 D4
          go_wp2_with fail
          go_ret
          exact ⟨rfl, hO'.out ▸ W12⟩
    · have e1 : decide (0 ≤ cut) = false := by simpa using c1
      have W9 := W8
      have P9 := P8
      have T9 := T8
      obtain ⟨w9, hw9⟩ : ∃ w9, w8 = w9 := ⟨_, rfl⟩
      rw [hw9] at W9 P9 T9 ⊢
      clear W8 P8 T8 hw9
      go_upto_region 12 with fail
      have W9s := W9.size
      by_cases t0 : T = 0
      · have et : (((T : Nat) : Int) == 0) = true := by rw [t0]; rfl
        go_wp2_with fail
        go_ret
        exact ⟨rfl, hO'.out ▸ W9⟩
      · have et : (((T : Nat) : Int) == 0) = false := by simp; omega
        go_wp2_with fail
        refine (CP.out bs _ _ (by have := hNL.out; omega) P9).mono ?_
        rintro e w10 ⟨vq, rfl, r10, b10⟩
        have W10 := below_trans W9 b10
        have T10 := Rd.later T9 b10
        have S10 := b10.size
        have k10 := len_max (a := bs) (b := ts) (by have := hNL.out; have := hTL.out; omega)
        have n10 := one_bv ts
        clear W9 P9 T9 b10
        go_wp2_with (at_builtin; refine wpList_catV rfl (.tmp 56) (.tmp 57) 27 rfl 5 i0 (.int .u8 0) 1 underB hi0 hz0 hz1 hz2 rfl w9.heap.size _ _ _ _ n10 rfl r10 S10 rfl T10 k10.1 k10.2 ?_; intro v11 w11 r11 g11)
        have W11 : Below w.heap.size w w11 := below_grown W10 r10 W9s W10.size g11
        have r11' := cat_row r11
        refine (DR.out (bs ++ ts) _ _ (Bytes_app hbL.out ht) (by rw [List.length_append]; have := hNL.out; have := hTL.out; omega) r11'.rd).mono ?_
        rintro e w12 ⟨⟨vd, rfl, r12⟩, b12⟩
        obtain ⟨ad, cd, ed, _, _⟩ := r12.rd.len
        generalize (List.map (Value.int .i64) (decR (bs ++ ts)).1.2.2).length = nd at ed
        subst ed
        have W12 := below_trans W11 b12
        have D4 := D3.out (by omega)
        rw [D4]
        unfold recV
        clear r10 r11 r11' W10 T10 S10 W11 b12 r12 g11 D4
        go_wp2_with fail
        go_ret
        exact ⟨rfl, hO'.out ▸ W12⟩
end Go.Proofs.Ytbghoogkmdnmpaa
