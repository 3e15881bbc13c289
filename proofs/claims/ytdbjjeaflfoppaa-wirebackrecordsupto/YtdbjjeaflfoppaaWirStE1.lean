/-
  Ours: numbers, bools and the plain parts of a loan, told (gen_wst1.py).
-/
import Derived.Test.YtdbjjeaflfoppaaWirStM
import Derived.Test.YtdbjjeaflfoppaaWirBlk
import Derived.Test.YtdbjjeaflfoppaaWirCatN
namespace Go.Proofs.Ytdbjjeaflfoppaa
open Go.RowKit WsM

set_option maxRecDepth 20000 in
set_option maxHeartbeats 2000000 in
theorem putInts_at (xs : List Int) (v : Value) (w : World) (hx : I64s xs) (hl : xs.length ≤ 1000000) (h : RdI w v xs) : Calls Try.prog 39 #[v] w (NewB w (putFs xs)) := by
  obtain ⟨i0, hi, hz0, hz1, hz2⟩ := info_parts infoB
  obtain ⟨L, hL⟩ : ∃ L, xs.length = L := ⟨_, rfl⟩
  obtain ⟨ao, cap, rfl, hcap, hn, H⟩ := h
  have HH : Hid (∀ i (h : i < L), ∃ g o, ao = some ⟨g, o, none⟩ ∧ g < w.heap.size ∧ w.cell? ⟨g, o + i, none⟩ = some (.int .i64 (xs.getD i 0)) ∧ putFs (xs.take (i + 1)) = putFs (xs.take i) ++ putI (xs.getD i 0) ∧ (-9223372036854775808 ≤ xs.getD i 0 ∧ xs.getD i 0 ≤ 9223372036854775807)) := fun i hi => by
    obtain ⟨g, o, e1, lt, e2⟩ := H i (by rw [List.length_map]; omega)
    refine ⟨g, o, e1, lt, ?_, putFs_step xs i (by omega), ?_⟩
    · rw [e2, List.getElem_map, List.getD_eq_getElem?_getD, List.getElem?_eq_getElem (by omega)]; rfl
    · rw [List.getD_eq_getElem?_getD, List.getElem?_eq_getElem (by omega)]; exact hx _ (List.getElem_mem _)
  have LN : Hid (∀ k, k ≤ L → (putFs (xs.take k)).length ≤ 10 * k) := fun k hk => by
    have h2 := putFs_len _ (hx.take k)
    rw [List.length_take] at h2
    omega
  have PF : Hid (putFs (xs.take L) = putFs xs) := by show _ = _; rw [List.take_of_length_le (by omega)]
  rw [List.length_map, hL] at hcap ⊢
  have hl' : L ≤ 1000000 := by omega
  clear H hL hl hx
  go_enter Try.func39, Try.ntmps39
  go_wp2_with fail
  go_loopw [3, 8] (fun v vk wr => ∃ k : Nat, vk = .int .i64 (k : Int) ∧ k ≤ L ∧ RowB 5 w.heap.size wr v (putFs (xs.take k)) ∧ Below w.heap.size w wr) (fun _ vk _ => L - (intOf vk).toNat)
  case atStart => exact ⟨0, rfl, by omega, RowV.nil _ _ _, Below.refl _ _⟩
  case round =>
    obtain ⟨k, rfl, hk, hown, hnx⟩ := hrel
    have hsz := hnx.size
    by_cases hlt : (k : Int) < (L : Int)
    · obtain ⟨g, o, rfl, lt, cc, ct, xb⟩ := HH.out k (by omega)
      have c2 : wr.cell? ⟨g, o + k, none⟩ = some (.int .i64 (xs.getD k 0)) := (hnx.cell (p := ⟨g, o + k, none⟩) lt).trans cc
      have CT : Hid (putFs (xs.take (k + 1)) = putFs (xs.take k) ++ putI (xs.getD k 0)) := ct
      have l0 := LN.out k hk
      clear ct cc
      have PI : Hid (∀ w, Calls Try.prog 47 #[.int .i64 (xs.getD k 0)] w (NewB w (putI (xs.getD k 0)))) := fun w => putInt_at _ xb.1 xb.2 w
      have l3 := putI_len _ xb
      clear xb
      generalize xs.getD k 0 = x at *
      go_wp2_with fail
      refine (PI.out _).mono ?_
      rintro e w2 ⟨v2, rfl, r2, b2⟩
      have own2 := RowV.later hown b2
      have rd2 := RowV.rd r2
      have nx2 := hnx.trans (b2.mono hsz)
      have sz2 := nx2.size
      have one : ∀ u ∈ (putI x).map bv, u.oneCell' = true := fun u hu => by obtain ⟨x, _, rfl⟩ := List.mem_map.1 hu; rfl
      have l1 : ((putFs (xs.take k)).map bv).length + ((putI x).map bv).length ≤ maxLen := by rw [List.length_map, List.length_map]; unfold maxLen; omega
      have l2 : (((putFs (xs.take k)).map bv).length + ((putI x).map bv).length) * 1 ≤ 140737488355328 := by rw [List.length_map, List.length_map]; omega
      clear r2 b2 hnx hown
      go_wp2_with (at_builtin; refine wpList_catV rfl (.tmp 12) (.tmp 14) 33 rfl 5 i0 (.int .u8 0) 1 underB hi hz0 hz1 hz2 rfl w.heap.size _ _ _ _ one rfl own2 sz2 rfl rd2 l1 l2 ?_; intro v' w3 hown' hgr)
      have hb : Below w.heap.size w w3 := below_grown nx2 own2 (Nat.le_refl _) sz2 hgr
      go_roundw
      case rel =>
        refine ⟨k + 1, by go_num, by omega, ?_, hb⟩
        rw [CT.out]
        simpa [RowB, List.map_append] using hown'
      case measure => simp [intOf]; omega
    · obtain rfl : k = L := by omega
      rw [PF.out] at hown
      go_wp2_with fail
      go_ret
      exact ⟨_, rfl, hown, hnx⟩
/-- Numbers in a new block, told. -/
theorem putIntsN_at (xs : List Int) (w : World) (hx : I64s xs) (n : Nat) (hn : xs.length = n) (hl : n ≤ 1000) : Calls Try.prog 39 #[.slice (some ⟨w.heap.size, 0, none⟩) n n] (w.alloc (.cells (xs.map (Value.int .i64)).toArray 2)) (NewB w (putFs xs)) := by
  subst hn
  have BA := below_alloc w (.cells (xs.map (Value.int .i64)).toArray 2)
  have BL := Blk.new 2 (xs.map (Value.int .i64)) w
  have R : RdI (w.alloc (.cells (xs.map (Value.int .i64)).toArray 2)) (.slice (some ⟨w.heap.size, 0, none⟩) xs.length xs.length) xs := ⟨_, _, by rw [List.length_map], by rw [List.length_map]; exact Nat.le_refl _, (fun h => by cases h), fun i hi => ⟨_, 0, rfl, BL.lt, by rw [Nat.zero_add]; exact BL.cell i _ (List.getElem?_eq_getElem hi)⟩⟩
  exact (putInts_at xs _ _ hx (by omega) R).mono fun e w' h => newB_up BA h
set_option maxRecDepth 20000 in
theorem encNotice_at (a0 a1 a2 a3 a4 : Int) (z : Bool) (hx : I64s [a0, a1, a2, a3, a4]) (w : World) : Calls Try.prog 12 #[.agg #[.int .i64 a0, .int .i64 a1, .int .i64 a2, .int .i64 a3, .int .i64 a4, .bool z]] w (NewB w (putFs [a0, a1, a2, a3, a4])) := by
  have PI : Hid (∀ w, Calls Try.prog 39 #[.slice (some ⟨w.heap.size, 0, none⟩) 5 5] (w.alloc (.cells #[.int .i64 a0, .int .i64 a1, .int .i64 a2, .int .i64 a3, .int .i64 a4] 2)) (NewB w (putFs [a0, a1, a2, a3, a4]))) := fun w => by
    have h := putIntsN_at [a0, a1, a2, a3, a4] w hx 5 rfl (by decide)
    simp only [List.map_cons, List.map_nil] at h
    exact h
  have BA : Hid (Below w.heap.size w (w.alloc (.cells #[.int .i64 a0, .int .i64 a1, .int .i64 a2, .int .i64 a3, .int .i64 a4, .bool z] 28))) := below_alloc w _
  clear hx
  obtain ⟨R, hR⟩ : ∃ R, R = putFs [a0, a1, a2, a3, a4] := ⟨_, rfl⟩
  rw [← hR] at PI ⊢
  clear hR
  have BX : Blk w.heap.size 28 [.int .i64 a0, .int .i64 a1, .int .i64 a2, .int .i64 a3, .int .i64 a4, .bool z] (w.alloc (.cells #[.int .i64 a0, .int .i64 a1, .int .i64 a2, .int .i64 a3, .int .i64 a4, .bool z] 28)) := Blk.new _ _ _
  go_enter Try.func12, Try.ntmps12
  go_upto_region 1 with fail
  generalize w.alloc (.cells #[.int .i64 a0, .int .i64 a1, .int .i64 a2, .int .i64 a3, .int .i64 a4, .bool z] 28) = W0 at *
  obtain ⟨X, hX⟩ : ∃ X, w.heap.size = X := ⟨_, rfl⟩
  rw [hX] at BX ⊢
  have q0 := BX.cell 0 _ rfl
  have q1 := BX.cell 1 _ rfl
  have q2 := BX.cell 2 _ rfl
  have q3 := BX.cell 3 _ rfl
  have q4 := BX.cell 4 _ rfl
  clear BX
  go_wp2_with fail
  refine (PI.out _).mono ?_
  rintro e w2 ⟨v2, rfl, r2, b2⟩
  rw [← hX]
  have R2 : Hid (RowB 5 w.heap.size w2 v2 R) := RowV.mono r2 BA.out.size
  have B2 : Hid (Below w.heap.size w w2) := below_trans BA.out b2
  clear r2 b2
  go_wp2_with fail
  go_ret
  exact ⟨_, rfl, R2.out, B2.out⟩
set_option maxRecDepth 20000 in
theorem putTerms_at (a0 a1 a2 a3 a4 a5 : Int) (hx : I64s [a0, a1, a2, a3, a4, a5]) (w : World) : Calls Try.prog 55 #[.agg #[.int .i64 a0, .int .i64 a1, .int .i64 a2, .int .i64 a3, .int .i64 a4, .int .i64 a5]] w (NewB w (putFs [a0, a1, a2, a3, a4, a5])) := by
  have PI : Hid (∀ w, Calls Try.prog 39 #[.slice (some ⟨w.heap.size, 0, none⟩) 6 6] (w.alloc (.cells #[.int .i64 a0, .int .i64 a1, .int .i64 a2, .int .i64 a3, .int .i64 a4, .int .i64 a5] 2)) (NewB w (putFs [a0, a1, a2, a3, a4, a5]))) := fun w => by
    have h := putIntsN_at [a0, a1, a2, a3, a4, a5] w hx 6 rfl (by decide)
    simp only [List.map_cons, List.map_nil] at h
    exact h
  have BA : Hid (Below w.heap.size w (w.alloc (.cells #[.int .i64 a0, .int .i64 a1, .int .i64 a2, .int .i64 a3, .int .i64 a4, .int .i64 a5] 55))) := below_alloc w _
  clear hx
  obtain ⟨R, hR⟩ : ∃ R, R = putFs [a0, a1, a2, a3, a4, a5] := ⟨_, rfl⟩
  rw [← hR] at PI ⊢
  clear hR
  have BX : Blk w.heap.size 55 [.int .i64 a0, .int .i64 a1, .int .i64 a2, .int .i64 a3, .int .i64 a4, .int .i64 a5] (w.alloc (.cells #[.int .i64 a0, .int .i64 a1, .int .i64 a2, .int .i64 a3, .int .i64 a4, .int .i64 a5] 55)) := Blk.new _ _ _
  go_enter Try.func55, Try.ntmps55
  go_upto_region 1 with fail
  generalize w.alloc (.cells #[.int .i64 a0, .int .i64 a1, .int .i64 a2, .int .i64 a3, .int .i64 a4, .int .i64 a5] 55) = W0 at *
  obtain ⟨X, hX⟩ : ∃ X, w.heap.size = X := ⟨_, rfl⟩
  rw [hX] at BX ⊢
  have q0 := BX.cell 0 _ rfl
  have q1 := BX.cell 1 _ rfl
  have q2 := BX.cell 2 _ rfl
  have q3 := BX.cell 3 _ rfl
  have q4 := BX.cell 4 _ rfl
  have q5 := BX.cell 5 _ rfl
  clear BX
  go_wp2_with fail
  refine (PI.out _).mono ?_
  rintro e w2 ⟨v2, rfl, r2, b2⟩
  rw [← hX]
  have R2 : Hid (RowB 5 w.heap.size w2 v2 R) := RowV.mono r2 BA.out.size
  have B2 : Hid (Below w.heap.size w w2) := below_trans BA.out b2
  clear r2 b2
  go_wp2_with fail
  go_ret
  exact ⟨_, rfl, R2.out, B2.out⟩
set_option maxRecDepth 20000 in
theorem putParts_at (a0 a1 a2 a3 a4 : Int) (hx : I64s [a0, a1, a2, a3, a4]) (w : World) : Calls Try.prog 59 #[.agg #[.int .i64 a0, .int .i64 a1, .int .i64 a2, .int .i64 a3, .int .i64 a4]] w (NewB w (putFs [a0, a1, a2, a3, a4])) := by
  have PI : Hid (∀ w, Calls Try.prog 39 #[.slice (some ⟨w.heap.size, 0, none⟩) 5 5] (w.alloc (.cells #[.int .i64 a0, .int .i64 a1, .int .i64 a2, .int .i64 a3, .int .i64 a4] 2)) (NewB w (putFs [a0, a1, a2, a3, a4]))) := fun w => by
    have h := putIntsN_at [a0, a1, a2, a3, a4] w hx 5 rfl (by decide)
    simp only [List.map_cons, List.map_nil] at h
    exact h
  have BA : Hid (Below w.heap.size w (w.alloc (.cells #[.int .i64 a0, .int .i64 a1, .int .i64 a2, .int .i64 a3, .int .i64 a4] 63))) := below_alloc w _
  clear hx
  obtain ⟨R, hR⟩ : ∃ R, R = putFs [a0, a1, a2, a3, a4] := ⟨_, rfl⟩
  rw [← hR] at PI ⊢
  clear hR
  have BX : Blk w.heap.size 63 [.int .i64 a0, .int .i64 a1, .int .i64 a2, .int .i64 a3, .int .i64 a4] (w.alloc (.cells #[.int .i64 a0, .int .i64 a1, .int .i64 a2, .int .i64 a3, .int .i64 a4] 63)) := Blk.new _ _ _
  go_enter Try.func59, Try.ntmps59
  go_upto_region 1 with fail
  generalize w.alloc (.cells #[.int .i64 a0, .int .i64 a1, .int .i64 a2, .int .i64 a3, .int .i64 a4] 63) = W0 at *
  obtain ⟨X, hX⟩ : ∃ X, w.heap.size = X := ⟨_, rfl⟩
  rw [hX] at BX ⊢
  have q0 := BX.cell 0 _ rfl
  have q1 := BX.cell 1 _ rfl
  have q2 := BX.cell 2 _ rfl
  have q3 := BX.cell 3 _ rfl
  have q4 := BX.cell 4 _ rfl
  clear BX
  go_wp2_with fail
  refine (PI.out _).mono ?_
  rintro e w2 ⟨v2, rfl, r2, b2⟩
  rw [← hX]
  have R2 : Hid (RowB 5 w.heap.size w2 v2 R) := RowV.mono r2 BA.out.size
  have B2 : Hid (Below w.heap.size w w2) := below_trans BA.out b2
  clear r2 b2
  go_wp2_with fail
  go_ret
  exact ⟨_, rfl, R2.out, B2.out⟩
end Go.Proofs.Ytdbjjeaflfoppaa
