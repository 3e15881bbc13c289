/-
  Ours: the contracts of arrearsref1.size, arrearsref1.signed.
-/
import Derived.Test.YtcjmjbhbdojeiabOver
import Derived.Test.YtcjmjbhbdojeiabSmall
namespace Go.Proofs.Ytcjmjbhbdojeiab
open Go.RowKit

theorem rsize_any (x : Int) (h0 : -9223372036854775808 ≤ x) (h1 : x ≤ 9223372036854775807) (w : World) :
    Calls Try.prog 33 #[.int .i64 x] w fun e w' => e = .returned (.int .u64 (x.natAbs : Int)) ∧ w' = w := by
  by_cases h : x < 0
  · go_enter Try.func33, Try.ntmps33
    go_wp2
    go_ret
    exact ⟨ret_int (by omega), rfl⟩
  · go_enter Try.func33, Try.ntmps33
    go_wp2
    go_ret
    exact ⟨ret_int (by omega), rfl⟩

namespace RefSign
theorem zeros : ∀ {xs : List Int}, (∀ i, xs.getD i 0 = 0) → val xs = 0
  | [], _ => rfl
  | x :: r, h => by
    have h0 := h 0
    have hr := zeros (xs := r) fun i => by have := h (i + 1); simpa using this
    simp at h0
    simp [val, h0, hr]
theorem great {D : List Int} {k : Nat} (hk : 64 ≤ k) (hk' : k < 128) (lD : D.length = 128) (uD : Upto 1 D) (h : D.getD k 0 ≠ 0) : 18446744073709551616 ≤ val D := by
  rw [val_split D k (by omega), val_drop D k (by omega)]
  have a := val_nonneg (uD.take (by omega) k)
  have b := val_nonneg (uD.drop (k + 1))
  have c := uD k
  have p : (18446744073709551616 : Int) ≤ 2 ^ k := by
    obtain ⟨j, rfl⟩ : ∃ j, k = 64 + j := ⟨k - 64, by omega⟩
    rw [Int.pow_add]
    have : (1 : Int) ≤ 2 ^ j := by have := Int.pow_pos (n := (2 : Int)) (m := j) (by decide); omega
    have h2 : (18446744073709551616 : Int) * 1 ≤ 18446744073709551616 * 2 ^ j := Int.mul_le_mul_of_nonneg_left this (by decide)
    exact h2
  have q : (2 : Int) ^ k * 1 ≤ 2 ^ k * (D.getD k 0 + 2 * val (D.drop (k + 1))) := Int.mul_le_mul_of_nonneg_left (by omega) (by omega)
  rw [Int.mul_one] at q
  generalize (2 : Int) ^ k * (D.getD k 0 + 2 * val (D.drop (k + 1))) = z at *
  omega
theorem low {D : List Int} (lD : D.length = 128) (h : ∀ i, 64 ≤ i → i < 128 → D.getD i 0 = 0) : val D = val (D.take 64) := by
  rw [val_split D 64 (by omega)]
  have : val (D.drop 64) = 0 := zeros fun i => by
    by_cases hi : i < 64
    · have := h (64 + i) (by omega) (by omega)
      simpa [List.getD_eq_getElem?_getD] using this
    · simp [List.getD_eq_getElem?_getD, List.getElem?_eq_none (by omega : D.length ≤ 64 + i)]
  rw [this]; simp
theorem stepv {D : List Int} {k : Nat} (hk : k < 64) (lD : D.length = 128) (uD : Upto 1 D) :
    2 * val ((D.take 64).drop (k + 1)) + D.getD k 0 = val ((D.take 64).drop k) ∧ val ((D.take 64).drop k) < 18446744073709551616 := by
  have e : (D.take 64).getD k 0 = D.getD k 0 := by
    simp only [List.getD_eq_getElem?_getD, List.getElem?_take]
    rw [if_pos (by omega)]
  have l : (D.take 64).length = 64 := by simp; omega
  refine ⟨by rw [val_drop (D.take 64) k (by omega), e]; omega, ?_⟩
  have b := val_lt ((uD.take (by omega) 64).drop k)
  rw [List.length_drop, l] at b
  have p : (2 : Int) ^ (64 - k) ≤ 2 ^ 64 := by
    have h : (2 : Int) ^ (64 - k) * 1 ≤ 2 ^ (64 - k) * 2 ^ k := Int.mul_le_mul_of_nonneg_left (by have := Int.pow_pos (n := (2 : Int)) (m := k) (by decide); omega) (Int.le_of_lt (Int.pow_pos (by decide)))
    rw [← Int.pow_add, show 64 - k + k = 64 from by omega, Int.mul_one] at h
    exact h
  exact Int.lt_of_lt_of_le b p
theorem full {D : List Int} (lD : D.length = 128) : val ((D.take 64).drop 64) = 0 := by
  rw [List.drop_of_length_le (by simp; omega)]; rfl
theorem no_of {m : Int} (neg : Bool) (h : 18446744073709551616 ≤ m) : sgOk neg m.toNat = false ∧ sgV neg m.toNat = 0 := by
  have e : sgOk neg m.toNat = false := by cases neg <;> simp [sgOk] <;> omega
  exact ⟨e, by simp [sgV, e]⟩
end RefSign

set_option maxHeartbeats 2000000 in
theorem rsigned_any (neg : Bool) (D : List Int) (gd od capd : Nat) (w : World) (lD : D.length = 128) (uD : Upto 1 D)
    (hd : ∀ i, i < 128 → w.cell? ⟨gd, od + i, none⟩ = some (.int .i64 (D.getD i 0))) :
    Calls Try.prog 38 #[.bool neg, .slice (some ⟨gd, od, none⟩) 128 capd] w fun e w' =>
      e = .returned (.tuple #[.int .i64 (sgV neg (val D).toNat), .bool (sgOk neg (val D).toNat)]) ∧ w' = w := by
  have nn := val_nonneg uD
  obtain ⟨V, HV⟩ : ∃ V, Hid (sgV neg (val D).toNat = V) := ⟨_, rfl⟩
  obtain ⟨K, HK⟩ : ∃ K, Hid (sgOk neg (val D).toNat = K) := ⟨_, rfl⟩
  rw [HV.out, HK.out]
  have fin : ∀ {a : Int} {b : Bool}, a = V → b = K → Ending.returned (.tuple #[.int .i64 a, .bool b]) = .returned (.tuple #[.int .i64 V, .bool K]) := by
    intro a b h1 h2; rw [h1, h2]
  have FIN : Hid (∀ {a : Int} {b : Bool}, a = V → b = K → Ending.returned (.tuple #[.int .i64 a, .bool b]) = .returned (.tuple #[.int .i64 V, .bool K])) := fin
  clear fin
  go_enter Try.func38, Try.ntmps38
  go_wp2
  go_loop [6] (fun i => ∃ k : Nat, 64 ≤ k ∧ k ≤ 128 ∧ i = .int .i64 (k : Int) ∧ ∀ j, 64 ≤ j → j < k → D.getD j 0 = 0) (fun i => 128 - (intOf i).toNat)
  case atStart => exact ⟨64, by omega, by omega, rfl, fun j h1 h2 => by omega⟩
  case round =>
    obtain ⟨k, k0, k1, rfl, hz⟩ := hrel
    have HZ : Hid (∀ j, 64 ≤ j → j < k → D.getD j 0 = 0) := hz
    clear hz
    by_cases hlt : (k : Int) < 128
    · have cx := hd k (by omega)
      by_cases hx : D.getD k 0 = 0
      · rw [hx] at cx
        have HX : Hid (D.getD k 0 = 0) := hx
        clear hx hd
        go_wp2
        go_round
        case rel =>
          refine ⟨k + 1, by omega, by omega, by go_num, fun j h1 h2 => ?_⟩
          by_cases e : j = k
          · rw [e]; exact HX.out
          · exact HZ.out j h1 (by omega)
        case measure => simp [intOf]; omega
      · have gr := RefSign.great (by omega) (by omega) lD uD hx
        obtain ⟨n1, n2⟩ := RefSign.no_of neg gr
        have N1 : Hid (false = K) := by show false = K; rw [← HK.out]; exact n1.symm
        have N2 : Hid (0 = V) := by show 0 = V; rw [← HV.out]; exact n2.symm
        clear n1 n2 gr hd
        have hb : (D.getD k 0 != 0) = true := by rw [bne_iff_ne]; exact hx
        clear hx
        generalize D.getD k 0 = x at *
        go_wp2
        go_ret2
        exact ⟨FIN.out N2.out N1.out, rfl⟩
    · obtain rfl : k = 128 := by omega
      have lw := RefSign.low lD (fun i h1 h2 => HZ.out i h1 h2)
      go_wp2
      go_loop [7, 8] (fun mm kk => ∃ t : Nat, t ≤ 64 ∧ kk = .int .i64 ((t : Int) - 1) ∧ mm = .int .u64 (val ((D.take 64).drop t))) (fun _ kk => (intOf kk + 1).toNat)
      case atStart => exact ⟨64, by omega, rfl, by rw [RefSign.full lD]⟩
      case round =>
        obtain ⟨t, ht, rfl, rfl⟩ := hrel
        by_cases htl : 0 < t
        · obtain ⟨k, rfl⟩ : ∃ k, t = k + 1 := ⟨t - 1, by omega⟩
          have ek : ((k + 1 : Nat) : Int) - 1 = (k : Int) := by omega
          rw [ek]
          have cx := hd k (by omega)
          have bx := uD k
          obtain ⟨s1, s2⟩ := RefSign.stepv (k := k) (by omega) lD uD
          have s3 := val_nonneg ((uD.take (by omega) 64).drop (k + 1))
          generalize D.getD k 0 = x at *
          generalize hm : val ((D.take 64).drop (k + 1)) = m at *
          obtain ⟨bx0, bx1⟩ := bx
          have s4 : 2 * m + x < 18446744073709551616 := by omega
          have S1 : Hid (2 * m + x = val ((D.take 64).drop k)) := s1
          clear s1 s2 hm ek lw hd
          go_wp2
          go_round
          case rel => exact ⟨k, by omega, by go_num, by rw [← S1.out]⟩
          case measure => simp [intOf]
        · obtain rfl : t = 0 := by omega
          rw [List.drop_zero]
          rw [← lw]
          have lt : val D < 18446744073709551616 := by rw [lw, ← List.drop_zero (l := D.take 64)]; exact (RefSign.stepv (k := 0) (by omega) lD uD).2
          clear lw hd HZ
          generalize val D = M at *
          cases neg
          · by_cases hM : 9223372036854775807 < M
            · have N1 : Hid (false = K) := by show false = K; rw [← HK.out]; simp [sgOk]; omega
              have N2 : Hid (0 = V) := by show 0 = V; rw [← HV.out]; simp [sgV, sgOk]; omega
              go_wp2
              go_ret2
              exact ⟨FIN.out N2.out N1.out, rfl⟩
            · have N1 : Hid (true = K) := by show true = K; rw [← HK.out]; simp [sgOk]; omega
              have N2 : Hid (M = V) := by
                show M = V; rw [← HV.out]
                have : sgOk false M.toNat = true := by simp [sgOk]; omega
                simp [sgV, this]; omega
              go_wp2
              go_ret2
              exact ⟨FIN.out N2.out N1.out, rfl⟩
          · by_cases hM : 9223372036854775808 < M
            · have N1 : Hid (false = K) := by show false = K; rw [← HK.out]; simp [sgOk]; omega
              have N2 : Hid (0 = V) := by show 0 = V; rw [← HV.out]; simp [sgV, sgOk]; omega
              go_wp2
              go_ret2
              exact ⟨FIN.out N2.out N1.out, rfl⟩
            · have N1 : Hid (true = K) := by show true = K; rw [← HK.out]; simp [sgOk]; omega
              have N2 : Hid (-M = V) := by
                show -M = V; rw [← HV.out]
                have : sgOk true M.toNat = true := by simp [sgOk]; omega
                simp [sgV, this]; omega
              by_cases h0 : M = 0
              · subst h0
                have N3 : Hid (0 = V) := by have := N2.out; show 0 = V; omega
                go_wp2
                go_ret2
                exact ⟨FIN.out N3.out N1.out, rfl⟩
              · have b0 : (M == 0) = false := by rw [beq_eq_false_iff_ne]; exact h0
                have h1 : 1 ≤ M := by omega
                clear h0
                go_wp2
                go_ret2
                exact ⟨FIN.out (by have := N2.out; omega) N1.out, rfl⟩
end Go.Proofs.Ytcjmjbhbdojeiab
