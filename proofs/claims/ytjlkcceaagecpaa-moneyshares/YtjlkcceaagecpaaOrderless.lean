/-
  Ours: the law MoneyOrderless walked.
-/
import Derived.Test.YtjlkcceaagecpaaSum
namespace Go.Proofs.Ytjlkcceaagecpaa
open Go.RowKit

theorem below2' {w w1 w2 : World} (h1 : Below w.heap.size w w1) (h2 : Below w1.heap.size w1 w2) : Below w.heap.size w w2 := h1.trans (h2.mono h1.size)

theorem I64.take {xs : List Int} (h : I64 xs) (k : Nat) : I64 (xs.take k) := fun i => by
  have := h i
  simp only [List.getD_eq_getElem?_getD, List.getElem?_take] at *
  split
  · exact this
  · simp
theorem I64.drop {xs : List Int} (h : I64 xs) (k : Nat) : I64 (xs.drop k) := fun i => by
  have := h (k + i)
  simpa [List.getD_eq_getElem?_getD] using this
theorem I64.reverse {xs : List Int} (h : I64 xs) : I64 xs.reverse := fun i => by
  by_cases hi : i < xs.length
  · have := h (xs.length - 1 - i)
    simpa [List.getD_eq_getElem?_getD, List.getElem?_reverse hi] using this
  · simp [List.getD_eq_getElem?_getD, List.getElem?_eq_none (by simpa using hi : xs.reverse.length ≤ i)]
theorem total_cut (xs : List Int) (k : Nat) : total (xs.take k) + total (xs.drop k) = total xs := by
  rw [← total_append, List.take_append_drop]

/-- The list from its end back to place t. -/
theorem back_step (xs : List Int) (t : Nat) (h : t < xs.length) : (xs.drop t).reverse = (xs.drop (t + 1)).reverse ++ [xs.getD t 0] := by
  rw [List.drop_eq_getElem_cons h, List.reverse_cons]
  simp [List.getD_eq_getElem?_getD, List.getElem?_eq_getElem h]

theorem reads_take {w : World} {g o cap L : Nat} {xs : List Int} (hL : xs.length = L) (hcap : L ≤ cap) (hg : g < w.heap.size) (hc : ∀ i, i < L → w.cell? ⟨g, o + i, none⟩ = some (.int .i64 (xs.getD i 0))) (k : Nat) (hk : k ≤ L) :
    Reads w (.slice (some ⟨g, o, none⟩) k cap) (xs.take k) := by
  have l : (xs.take k).length = k := by rw [List.length_take]; omega
  by_cases h : k = 0
  · subst h; exact .inl ⟨by simp, _, _, rfl⟩
  · refine .inr ⟨by omega, g, o, cap, by rw [l], by omega, hg, fun i hi => ?_⟩
    rw [l] at hi
    rw [hc i (by omega)]
    simp only [List.getD_eq_getElem?_getD, List.getElem?_take]
    rw [if_pos hi]
theorem reads_drop {w : World} {g o cap L : Nat} {xs : List Int} (hL : xs.length = L) (hcap : L ≤ cap) (hg : g < w.heap.size) (hc : ∀ i, i < L → w.cell? ⟨g, o + i, none⟩ = some (.int .i64 (xs.getD i 0))) (k : Nat) (hk : k ≤ L) :
    Reads w (.slice (some ⟨g, o + k, none⟩) (L - k) (cap - k)) (xs.drop k) := by
  have l : (xs.drop k).length = L - k := by rw [List.length_drop, hL]
  by_cases h : k = L
  · subst h; exact .inl ⟨by rw [List.drop_of_length_le (by omega)], _, _, by rw [Nat.sub_self]⟩
  · refine .inr ⟨by omega, g, o + k, cap - k, by rw [l], by omega, hg, fun i hi => ?_⟩
    rw [l] at hi
    rw [Nat.add_assoc, hc (k + i) (by omega)]
    simp [List.getD_eq_getElem?_getD]

set_option maxHeartbeats 2000000 in
theorem orderless_full (xs : List Int) (g o cap : Nat) (at' : Int) (w : World) (hx : I64 xs) (h0 : 0 < xs.length) (hl : xs.length ≤ 4096) (hcap : xs.length ≤ cap) (hg : g < w.heap.size) (t0 : -9223372036854775808 ≤ at') (t1 : at' ≤ 9223372036854775807)
    (hc : ∀ i, i < xs.length → w.cell? ⟨g, o + i, none⟩ = some (.int .i64 (xs.getD i 0))) :
    Calls Try.prog 3 #[.slice (some ⟨g, o, none⟩) xs.length cap, .int .i64 at'] w fun e w' => e = .returned (.bool true) ∧ Below w.heap.size w w' := by
  obtain ⟨i0, hi, hz0, hz1, hz2⟩ := info_parts Try.info2
  have rd : Reads w (.slice (some ⟨g, o, none⟩) xs.length cap) xs := .inr ⟨h0, g, o, cap, rfl, hcap, hg, hc⟩
  obtain ⟨L, hL⟩ : ∃ L, xs.length = L := ⟨_, rfl⟩
  rw [hL] at rd h0 hl hcap hc ⊢
  have HL : Hid (xs.length = L) := hL
  clear hL
  have s0 : ∀ w : World, Calls Try.prog 9 #[.slice (some ⟨w.heap.size, 0, none⟩) 2 2] (w.alloc (.cells #[.int .i64 7, .int .i64 (-2)] 2)) fun e w' => e = .returned (.tuple #[.int .i64 5, .bool true]) ∧ w' = w.alloc (.cells #[.int .i64 7, .int .i64 (-2)] 2) := by
    intro w
    refine (sum_any [7, -2] w.heap.size 0 2 _ (fun k => ?_) (by decide) (fun i hi => ?_)).mono fun e w' ⟨he, hw⟩ => ⟨by rw [he]; exact ret_vk (by decide) (by decide), hw⟩
    · match k with
      | 0 => decide
      | 1 => decide
      | k + 2 => simp
    · match i, hi with
      | 0, _ => simp
      | 1, _ => simp
  have S0 := s0
  have SS0 : Hid (∀ w : World, Calls Try.prog 9 #[.slice (some ⟨w.heap.size, 0, none⟩) 2 2] (w.alloc (.cells #[.int .i64 7, .int .i64 (-2)] 2)) fun e w' => e = .returned (.tuple #[.int .i64 5, .bool true]) ∧ w' = w.alloc (.cells #[.int .i64 7, .int .i64 (-2)] 2)) := s0
  clear s0 S0
  have HX : Hid (I64 xs) := hx
  have RD : Hid (Reads w (.slice (some ⟨g, o, none⟩) L cap) xs) := rd
  clear rd hx
  go_enter Try.func3, Try.ntmps3
  go_wp2_with fail
  refine (SS0.out _).mono ?_
  rintro e w1 ⟨rfl, hw⟩; rw [hw]; clear hw w1
  go_wp2_with fail
  refine (copied_reads (RD.out.later ((Below.refl _ _).alloc (Nat.le_refl _) _)) (by rw [HL.out]; omega)).mono ?_
  rintro e w1 ⟨v1, rfl, r1, b1⟩
  have bb1 : Below w.heap.size w w1 := below2' ((Below.refl _ _).alloc (Nat.le_refl _) _) b1
  go_wp2_with fail
  have sm : Hid (∀ w, ∀ v, Reads w v xs → Calls Try.prog 9 #[v] w fun e w' => e = .returned (.tuple #[.int .i64 (smV (total xs)), .bool (smOk (total xs))]) ∧ w' = w) := fun w v h => sum_reads h HX.out (by rw [HL.out]; omega)
  have sr : Hid (∀ w, ∀ v, Reads w v xs.reverse → Calls Try.prog 9 #[v] w fun e w' => e = .returned (.tuple #[.int .i64 (smV (total xs)), .bool (smOk (total xs))]) ∧ w' = w) := fun w v h => by
    have := sum_reads h HX.out.reverse (by rw [List.length_reverse, HL.out]; omega)
    rw [total_reverse] at this; exact this
  obtain ⟨V, HV⟩ : ∃ V, Hid (smV (total xs) = V) := ⟨_, rfl⟩
  obtain ⟨K, HK⟩ : ∃ K, Hid (smOk (total xs) = K) := ⟨_, rfl⟩
  rw [HV.out, HK.out] at sm sr
  refine (sm.out _ _ r1.reads).mono ?_
  rintro e w2 ⟨rfl, hw⟩; rw [hw]; clear hw w2 r1 b1
  go_wp2
  go_loopw [8, 9] (fun v i wr => ∃ t : Nat, t ≤ L ∧ i = .int .i64 ((t : Int) - 1) ∧ Row 2 w1.heap.size wr v (xs.drop t).reverse ∧ Below w.heap.size w wr ∧ w1.heap.size ≤ wr.heap.size) (fun _ i _ => (intOf i + 1).toNat)
  case atStart => exact ⟨L, by omega, by go_num, by rw [List.drop_of_length_le (by rw [HL.out]; omega)]; exact Row.nil _ _ _, bb1, Nat.le_refl _⟩
  case round =>
    obtain ⟨t, ht, rfl, hown, hnx, hsz⟩ := hrel
    by_cases htl : 0 < t
    · obtain ⟨k, rfl⟩ : ∃ k, t = k + 1 := ⟨t - 1, by omega⟩
      have ek : ((k + 1 : Nat) : Int) - 1 = (k : Int) := by omega
      rw [ek]
      have hl2 : (xs.drop (k + 1)).reverse.length < 1099511627776 := by rw [List.length_reverse, List.length_drop, HL.out]; omega
      have cx := (hnx.cell (p := ⟨g, o + k, none⟩) hg).trans (hc k (by omega))
      have bs := back_step xs k (by rw [HL.out]; omega)
      generalize xs.getD k 0 = x at *
      have BS : Hid ((xs.drop k).reverse = (xs.drop (k + 1)).reverse ++ [x]) := bs
      have bz := bb1.size
      clear bs hc ek
      go_wp2_with (at_builtin; refine wpList_push rfl (.tmp 45) (.tmp 50) 22 rfl 2 i0 Try.underlying22 hi hz0 hz1 hz2 w1.heap.size w.heap.size w _ _ _ rfl hown hnx bz hsz rfl hl2 ?_; intro v' w3 hown' hnx' hsz')
      go_roundw
      case rel => exact ⟨k, by omega, by go_num, by rw [BS.out]; exact hown', hnx', hsz'⟩
      case measure => simp [intOf]
    · obtain rfl : t = 0 := by omega
      rw [List.drop_zero] at hown
      go_wp2_with fail
      refine (sr.out _ _ hown.reads).mono ?_
      rintro e w2 ⟨rfl, hw⟩; rw [hw]; clear hw w2 hown
      have e1 : (V != V) = false := by simp
      have e2 : (K != K) = false := by simp
      by_cases c0 : at' < 0
      · go_wp2_with fail
        go_ret
        exact ⟨rfl, hnx⟩
      · have d0 : decide (at' < 0) = false := decide_eq_false c0
        by_cases c1 : (L : Int) < at'
        · go_wp2_with fail
          go_ret
          exact ⟨rfl, hnx⟩
        · obtain ⟨k, rfl⟩ := Int.eq_ofNat_of_zero_le (show 0 ≤ at' by omega)
          have hk : k ≤ L := by omega
          by_cases hkc : cap = k
          · subst hkc
            obtain rfl : L = cap := by omega
            have rt := reads_take (w := wr) HL.out (Nat.le_refl L) (Nat.lt_of_lt_of_le hg hnx.size) (fun i hi => (hnx.cell (p := ⟨g, o + i, none⟩) hg).trans (hc i hi)) L hk
            have rdp : Reads wr (.slice (some ⟨g, o, none⟩) 0 0) (xs.drop L) := .inl ⟨List.drop_of_length_le (by rw [HL.out]; omega), _, _, rfl⟩
            have RT : Hid (Reads wr (.slice (some ⟨g, o, none⟩) L L) (xs.take L)) := rt
            have RP : Hid (Reads wr (.slice (some ⟨g, o, none⟩) 0 0) (xs.drop L)) := rdp
            have lt : (xs.take L).length ≤ 1048576 := by rw [List.length_take, HL.out]; omega
            have ld : (xs.drop L).length ≤ 1048576 := by rw [List.length_drop, HL.out]; omega
            have st : Hid (∀ w, ∀ v, Reads w v (xs.take L) → Calls Try.prog 9 #[v] w fun e w' => e = .returned (.tuple #[.int .i64 (smV (total (xs.take L))), .bool (smOk (total (xs.take L)))]) ∧ w' = w) := fun w v h => sum_reads h (HX.out.take L) lt
            have sd : Hid (∀ w, ∀ v, Reads w v (xs.drop L) → Calls Try.prog 9 #[v] w fun e w' => e = .returned (.tuple #[.int .i64 (smV (total (xs.drop L))), .bool (smOk (total (xs.drop L)))]) ∧ w' = w) := fun w v h => sum_reads h (HX.out.drop L) ld
            have cp1 : Hid (∀ w, ∀ v, Reads w v (xs.take L) → Calls Try.prog 10 #[v] w fun e w' => ∃ v', e = .returned v' ∧ Row 2 w.heap.size w' v' (xs.take L) ∧ Below w.heap.size w w') := fun w v h => copied_reads h lt
            have cp2 : Hid (∀ w, ∀ v, Reads w v (xs.drop L) → Calls Try.prog 10 #[v] w fun e w' => ∃ v', e = .returned v' ∧ Row 2 w.heap.size w' v' (xs.drop L) ∧ Below w.heap.size w w') := fun w v h => copied_reads h ld
            have tc := total_cut xs L
            have ad : Hid (smOk (total (xs.take L)) = true → smOk (total (xs.drop L)) = true → ∀ w, Calls Try.prog 11 #[.int .i64 (smV (total (xs.take L))), .int .i64 (smV (total (xs.drop L)))] w fun e w' => e = .returned (.tuple #[.int .i64 V, .bool K]) ∧ w' = w) := by
              intro h1 h2 w
              have e1 : smV (total (xs.take L)) = total (xs.take L) := by simp [smV, h1]
              have e2 : smV (total (xs.drop L)) = total (xs.drop L) := by simp [smV, h2]
              simp only [smOk, decide_eq_true_iff] at h1 h2
              have := add_any (total (xs.take L)) (total (xs.drop L)) h1.1 h1.2 h2.1 h2.2 w
              rw [tc, HV.out, HK.out] at this
              rw [e1, e2]; exact this
            generalize smV (total (xs.take L)) = V1 at *
            generalize smV (total (xs.drop L)) = V2 at *
            generalize smOk (total (xs.take L)) = K1 at *
            generalize smOk (total (xs.drop L)) = K2 at *
            clear rt rdp lt ld tc hc HX RD sm sr SS0
            have e3 : (V == V) = true := by simp
            have e4 : (K == K) = true := by simp
            go_wp2_with fail
            refine (cp1.out _ _ RT.out).mono ?_
            rintro e w3 ⟨v3, rfl, r3, b3⟩
            have RP3 : Hid (Reads w3 (.slice (some ⟨g, o, none⟩) 0 0) (xs.drop L)) := RP.out.later b3
            have bb3 := hnx.trans (b3.mono hnx.size)
            clear RP RT cp1
            go_wp2_with fail
            refine (st.out _ _ r3.reads).mono ?_
            rintro e w4 ⟨rfl, hw⟩; rw [hw]; clear hw w4 r3 b3
            go_wp2_with fail
            refine (cp2.out _ _ RP3.out).mono ?_
            rintro e w4 ⟨v4, rfl, r4, b4⟩
            have bb4 := bb3.trans (b4.mono bb3.size)
            clear RP3 cp2
            go_wp2_with fail
            refine (sd.out _ _ r4.reads).mono ?_
            rintro e w5 ⟨rfl, hw⟩; rw [hw]; clear hw w5 r4 b4
            cases K1
            · go_wp2_with fail
              go_ret
              exact ⟨rfl, bb4⟩
            · cases K2
              · go_wp2_with fail
                go_ret
                exact ⟨rfl, bb4⟩
              · go_wp2_with fail
                refine (ad.out (by trivial) (by trivial) _).mono ?_
                rintro e w5 ⟨rfl, hw⟩; rw [hw]; clear hw w5
                go_wp2_with fail
                go_ret
                exact ⟨rfl, bb4⟩

          · have rt := reads_take (w := wr) HL.out hcap (Nat.lt_of_lt_of_le hg hnx.size) (fun i hi => (hnx.cell (p := ⟨g, o + i, none⟩) hg).trans (hc i hi)) k hk
            have rdp := reads_drop (w := wr) HL.out hcap (Nat.lt_of_lt_of_le hg hnx.size) (fun i hi => (hnx.cell (p := ⟨g, o + i, none⟩) hg).trans (hc i hi)) k hk
            have RT : Hid (Reads wr (.slice (some ⟨g, o, none⟩) k cap) (xs.take k)) := rt
            have RP : Hid (Reads wr (.slice (some ⟨g, o + k, none⟩) (L - k) (cap - k)) (xs.drop k)) := rdp
            have lt : (xs.take k).length ≤ 1048576 := by rw [List.length_take, HL.out]; omega
            have ld : (xs.drop k).length ≤ 1048576 := by rw [List.length_drop, HL.out]; omega
            have st : Hid (∀ w, ∀ v, Reads w v (xs.take k) → Calls Try.prog 9 #[v] w fun e w' => e = .returned (.tuple #[.int .i64 (smV (total (xs.take k))), .bool (smOk (total (xs.take k)))]) ∧ w' = w) := fun w v h => sum_reads h (HX.out.take k) lt
            have sd : Hid (∀ w, ∀ v, Reads w v (xs.drop k) → Calls Try.prog 9 #[v] w fun e w' => e = .returned (.tuple #[.int .i64 (smV (total (xs.drop k))), .bool (smOk (total (xs.drop k)))]) ∧ w' = w) := fun w v h => sum_reads h (HX.out.drop k) ld
            have cp1 : Hid (∀ w, ∀ v, Reads w v (xs.take k) → Calls Try.prog 10 #[v] w fun e w' => ∃ v', e = .returned v' ∧ Row 2 w.heap.size w' v' (xs.take k) ∧ Below w.heap.size w w') := fun w v h => copied_reads h lt
            have cp2 : Hid (∀ w, ∀ v, Reads w v (xs.drop k) → Calls Try.prog 10 #[v] w fun e w' => ∃ v', e = .returned v' ∧ Row 2 w.heap.size w' v' (xs.drop k) ∧ Below w.heap.size w w') := fun w v h => copied_reads h ld
            have tc := total_cut xs k
            have ad : Hid (smOk (total (xs.take k)) = true → smOk (total (xs.drop k)) = true → ∀ w, Calls Try.prog 11 #[.int .i64 (smV (total (xs.take k))), .int .i64 (smV (total (xs.drop k)))] w fun e w' => e = .returned (.tuple #[.int .i64 V, .bool K]) ∧ w' = w) := by
              intro h1 h2 w
              have e1 : smV (total (xs.take k)) = total (xs.take k) := by simp [smV, h1]
              have e2 : smV (total (xs.drop k)) = total (xs.drop k) := by simp [smV, h2]
              simp only [smOk, decide_eq_true_iff] at h1 h2
              have := add_any (total (xs.take k)) (total (xs.drop k)) h1.1 h1.2 h2.1 h2.2 w
              rw [tc, HV.out, HK.out] at this
              rw [e1, e2]; exact this
            generalize smV (total (xs.take k)) = V1 at *
            generalize smV (total (xs.drop k)) = V2 at *
            generalize smOk (total (xs.take k)) = K1 at *
            generalize smOk (total (xs.drop k)) = K2 at *
            clear rt rdp lt ld tc hc HX RD sm sr SS0
            have e3 : (V == V) = true := by simp
            have e4 : (K == K) = true := by simp
            go_wp2_with fail
            refine (cp1.out _ _ RT.out).mono ?_
            rintro e w3 ⟨v3, rfl, r3, b3⟩
            have RP3 : Hid (Reads w3 (.slice (some ⟨g, o + k, none⟩) (L - k) (cap - k)) (xs.drop k)) := RP.out.later b3
            have bb3 := hnx.trans (b3.mono hnx.size)
            clear RP RT cp1
            go_wp2_with fail
            refine (st.out _ _ r3.reads).mono ?_
            rintro e w4 ⟨rfl, hw⟩; rw [hw]; clear hw w4 r3 b3
            go_wp2_with fail
            refine (cp2.out _ _ RP3.out).mono ?_
            rintro e w4 ⟨v4, rfl, r4, b4⟩
            have bb4 := bb3.trans (b4.mono bb3.size)
            clear RP3 cp2
            go_wp2_with fail
            refine (sd.out _ _ r4.reads).mono ?_
            rintro e w5 ⟨rfl, hw⟩; rw [hw]; clear hw w5 r4 b4
            cases K1
            · go_wp2_with fail
              go_ret
              exact ⟨rfl, bb4⟩
            · cases K2
              · go_wp2_with fail
                go_ret
                exact ⟨rfl, bb4⟩
              · go_wp2_with fail
                refine (ad.out (by trivial) (by trivial) _).mono ?_
                rintro e w5 ⟨rfl, hw⟩; rw [hw]; clear hw w5
                go_wp2_with fail
                go_ret
                exact ⟨rfl, bb4⟩

set_option maxHeartbeats 2000000 in
theorem orderless_empty (a : Option Addr) (cap : Nat) (at' : Int) (w : World) (t0 : -9223372036854775808 ≤ at') (t1 : at' ≤ 9223372036854775807) (hn : a = none → cap = 0) :
    Calls Try.prog 3 #[.slice a 0 cap, .int .i64 at'] w fun e w' => e = .returned (.bool true) ∧ Below w.heap.size w w' := by
  have s0 : ∀ w : World, Calls Try.prog 9 #[.slice (some ⟨w.heap.size, 0, none⟩) 2 2] (w.alloc (.cells #[.int .i64 7, .int .i64 (-2)] 2)) fun e w' => e = .returned (.tuple #[.int .i64 5, .bool true]) ∧ w' = w.alloc (.cells #[.int .i64 7, .int .i64 (-2)] 2) := by
    intro w
    refine (sum_any [7, -2] w.heap.size 0 2 _ (fun k => ?_) (by decide) (fun i hi => ?_)).mono fun e w' ⟨he, hw⟩ => ⟨by rw [he]; exact ret_vk (by decide) (by decide), hw⟩
    · match k with
      | 0 => decide
      | 1 => decide
      | k + 2 => simp
    · match i, hi with
      | 0, _ => simp
      | 1, _ => simp
  have SS0 : Hid (∀ w : World, Calls Try.prog 9 #[.slice (some ⟨w.heap.size, 0, none⟩) 2 2] (w.alloc (.cells #[.int .i64 7, .int .i64 (-2)] 2)) fun e w' => e = .returned (.tuple #[.int .i64 5, .bool true]) ∧ w' = w.alloc (.cells #[.int .i64 7, .int .i64 (-2)] 2)) := s0
  clear s0
  have SE : Hid (∀ a cap w, Calls Try.prog 9 #[.slice a 0 cap] w fun e w' => e = .returned (.tuple #[.int .i64 0, .bool true]) ∧ w' = w) := fun a cap w => (sum_empty a cap w).mono fun e w' ⟨he, hw⟩ => ⟨by rw [he]; exact ret_vk (by decide) (by decide), hw⟩
  have CE : Hid (∀ a cap w, Calls Try.prog 10 #[.slice a 0 cap] w fun e w' => e = .returned (.slice none 0 0) ∧ w' = w) := copied_empty
  have AD : Hid (∀ w, Calls Try.prog 11 #[.int .i64 0, .int .i64 0] w fun e w' => e = .returned (.tuple #[.int .i64 0, .bool true]) ∧ w' = w) := fun w => (add_any 0 0 (by omega) (by omega) (by omega) (by omega) w).mono fun e w' ⟨he, hw⟩ => ⟨by rw [he]; exact ret_vk (by decide) (by decide), hw⟩
  go_enter Try.func3, Try.ntmps3
  go_wp2_with fail
  refine (SS0.out _).mono ?_
  rintro e w1 ⟨rfl, hw⟩; rw [hw]; clear hw w1
  go_wp2_with fail
  refine (CE.out _ _ _).mono ?_
  rintro e w1 ⟨rfl, hw⟩; rw [hw]; clear hw w1
  go_wp2_with fail
  refine (SE.out _ _ _).mono ?_
  rintro e w1 ⟨rfl, hw⟩; rw [hw]; clear hw w1
  have bb : Below w.heap.size w (w.alloc (.cells #[.int .i64 7, .int .i64 (-2)] 2)) := (Below.refl _ _).alloc (Nat.le_refl _) _
  generalize w.alloc (.cells #[.int .i64 7, .int .i64 (-2)] 2) = W at *
  clear SS0
  go_wp2
  go_loop [8, 9] (fun v i => v = .slice none 0 0 ∧ i = .int .i64 (-1)) (fun _ _ => 0)
  case atStart => exact ⟨rfl, rfl⟩
  case round =>
    obtain ⟨rfl, rfl⟩ := hrel
    go_wp2_with fail
    refine (SE.out _ _ _).mono ?_
    rintro e w1 ⟨rfl, hw⟩; rw [hw]; clear hw w1
    by_cases c0 : at' < 0
    · go_wp2_with fail
      go_ret
      exact ⟨rfl, bb⟩
    · have d0 : decide (at' < 0) = false := decide_eq_false c0
      by_cases c1 : 0 < at'
      · go_wp2_with fail
        go_ret
        exact ⟨rfl, bb⟩
      · obtain rfl : at' = 0 := by omega
        clear c0 c1 d0
        cases a with
        | none =>
          obtain rfl := hn rfl
          go_wp2_with fail
          refine (CE.out _ _ _).mono ?_
          rintro e w1 ⟨rfl, hw⟩; rw [hw]; clear hw w1
          go_wp2_with fail
          refine (SE.out _ _ _).mono ?_
          rintro e w1 ⟨rfl, hw⟩; rw [hw]; clear hw w1
          go_wp2_with fail
          refine (CE.out _ _ _).mono ?_
          rintro e w1 ⟨rfl, hw⟩; rw [hw]; clear hw w1
          go_wp2_with fail
          refine (SE.out _ _ _).mono ?_
          rintro e w1 ⟨rfl, hw⟩; rw [hw]; clear hw w1
          go_wp2_with fail
          refine (AD.out _).mono ?_
          rintro e w1 ⟨rfl, hw⟩; rw [hw]; clear hw w1
          go_wp2_with fail
          go_ret
          exact ⟨rfl, bb⟩
        | some x =>
          by_cases hc : cap = 0
          · subst hc
            go_wp2_with fail
            refine (CE.out _ _ _).mono ?_
            rintro e w1 ⟨rfl, hw⟩; rw [hw]; clear hw w1
            go_wp2_with fail
            refine (SE.out _ _ _).mono ?_
            rintro e w1 ⟨rfl, hw⟩; rw [hw]; clear hw w1
            go_wp2_with fail
            refine (CE.out _ _ _).mono ?_
            rintro e w1 ⟨rfl, hw⟩; rw [hw]; clear hw w1
            go_wp2_with fail
            refine (SE.out _ _ _).mono ?_
            rintro e w1 ⟨rfl, hw⟩; rw [hw]; clear hw w1
            go_wp2_with fail
            refine (AD.out _).mono ?_
            rintro e w1 ⟨rfl, hw⟩; rw [hw]; clear hw w1
            go_wp2_with fail
            go_ret
            exact ⟨rfl, bb⟩
          · go_wp2_with fail
            refine (CE.out _ _ _).mono ?_
            rintro e w1 ⟨rfl, hw⟩; rw [hw]; clear hw w1
            go_wp2_with fail
            refine (SE.out _ _ _).mono ?_
            rintro e w1 ⟨rfl, hw⟩; rw [hw]; clear hw w1
            go_wp2_with fail
            refine (CE.out _ _ _).mono ?_
            rintro e w1 ⟨rfl, hw⟩; rw [hw]; clear hw w1
            go_wp2_with fail
            refine (SE.out _ _ _).mono ?_
            rintro e w1 ⟨rfl, hw⟩; rw [hw]; clear hw w1
            go_wp2_with fail
            refine (AD.out _).mono ?_
            rintro e w1 ⟨rfl, hw⟩; rw [hw]; clear hw w1
            go_wp2_with fail
            go_ret
            exact ⟨rfl, bb⟩

theorem orderless_long (a : Option Addr) (len cap : Nat) (at' : Int) (w : World) (h : 4096 < len) (hl : len ≤ 9223372036854775807) :
    Calls Try.prog 3 #[.slice a len cap, .int .i64 at'] w fun e w' => e = .returned (.bool true) ∧ Below w.heap.size w w' := by
  have h' : (4096 : Int) < (len : Int) := by omega
  go_enter Try.func3, Try.ntmps3
  go_wp2
  go_ret
  exact ⟨rfl, Below.refl _ _⟩

end Go.Proofs.Ytjlkcceaagecpaa
