/-
  Ours: the statement's number: the walk.
-/
import Derived.Test.YtcbdbjejodpnaaaDoorScNum
namespace Go.Proofs.YtcbdbjejodpnaaaDoor
open Go.RowKit Go.Lib

set_option maxRecDepth 20000 in
set_option maxHeartbeats 4000000 in
theorem number_pos (T : List UInt8) (F N : Nat) (w : World) (hl : T.length ≤ 1000000000) (h : DgI T (decDigits N) F) (hN : N ≤ 9223372036854775807) :
    Calls Tryd.prog 7 #[.string ⟨T.toArray⟩, .int .i64 (F : Int)] w fun e w' => e = .returned (.tuple #[.int .i64 (N : Int), .int .i64 ((F + (decDigits N).length : Nat) : Int)]) ∧ w' = w := by
  have D19 := dec_19 N (by omega)
  have D0 := (dec_len N (by omega)).2
  have HVN : Hid (valD (decDigits N) = N) := valD_dec N
  have HZ : Hid ((((decDigits N).getD 0 0).toNat = 48) → N = 0 ∧ (decDigits N).length = 1) := fun e => by
    have hz : N = 0 := dec_zero N (by rw [← UInt8.toNat_inj]; exact e)
    refine ⟨hz, ?_⟩
    subst hz
    rw [decDigits]; rfl
  have HK : Hid (∀ k, k < (decDigits N).length → F + k < T.length ∧ T.getD (F + k) 0 = (decDigits N).getD k 0 ∧ 48 ≤ ((decDigits N).getD k 0).toNat ∧ ((decDigits N).getD k 0).toNat ≤ 57 ∧ valD ((decDigits N).take (k + 1)) = 10 * valD ((decDigits N).take k) + (((decDigits N).getD k 0).toNat - 48) ∧ valD ((decDigits N).take (k + 1)) ≤ N) := fun k hk => by
    obtain ⟨h1, h2⟩ := h.at' k hk
    have hm : (decDigits N).getD k 0 ∈ decDigits N := by rw [List.getD_eq_getElem?_getD, List.getElem?_eq_getElem hk]; exact List.getElem_mem _
    obtain ⟨h3, h4⟩ := dec_dig N _ hm
    have h5 := valD_take (decDigits N) (k + 1)
    rw [valD_dec] at h5
    refine ⟨h1, h2, h3, h4, ?_, h5⟩
    rw [List.take_add_one, List.getD_eq_getElem?_getD, List.getElem?_eq_getElem hk]
    exact valD_snoc _ _
  have HST : Hid (F + (decDigits N).length < T.length → T.getD (F + (decDigits N).length) 0 = 32) := h.stop
  have hFL := h.len
  obtain ⟨c0l, c0e⟩ := h.at' 0 D0
  have hc0 := HK.out 0 D0
  have ix0 := idx_str T F (by omega)
  rw [Nat.add_zero] at c0e
  rw [c0e] at ix0
  have hc48 := hc0.2.2.1
  have hc57 := hc0.2.2.2.1
  have HDL : Hid ((decDigits N).take (decDigits N).length = decDigits N) := List.take_of_length_le (Nat.le_refl _)
  have FIN : Hid (∀ P : Nat, P = F + (decDigits N).length → (Ending.returned (.tuple #[.int .i64 (N : Int), .int .i64 (P : Int)]) = .returned (.tuple #[.int .i64 (N : Int), .int .i64 ((F + (decDigits N).length : Nat) : Int)]))) := fun P e => by subst e; rfl
  have hsz : ({ data := T.toArray } : ByteArray).size = T.length := rfl
  clear h hc0 c0e
  generalize decDigits N = D at *
  generalize (D.getD 0 0).toNat = c0 at *
  obtain ⟨LT, hLT⟩ : ∃ LT, T.length = LT := ⟨_, rfl⟩
  have HTL : Hid (T.length = LT) := hLT
  rw [hLT] at hl HK HST hFL c0l hsz
  clear hLT
  generalize D.length = LD at *
  have d5 : (F : Int) < (LT : Int) := by omega
  have d6 : (((c0 : Nat) : Int) == 45) = false := by rw [beq_eq_false_iff_ne]; omega
  go_enter Tryd.func7, Tryd.ntmps7
  go_wp2_with fail
  go_loopw [1, 8] (fun va vn wr => ∃ (P k : Nat), wr = w ∧ va = .int .i64 (P : Int) ∧ k ≤ LD ∧ Hid (P = F + k) ∧ Hid (vn = .int .i64 (-((valD (D.take k) : Nat) : Int)))) (fun va _ _ => F + LD - (RowKit.intOf va).toNat)
  case atStart => exact ⟨F, 0, rfl, rfl, by omega, (by show _ = _; omega), (by show _ = _; simp [valD])⟩
  case round =>
    obtain ⟨P, k, rfl, rfl, hk, HP, HV⟩ := hrel
    have hv := HV.out
    subst hv
    clear HV
    by_cases hlt : k < LD
    · obtain ⟨hPl, hch, hd0, hd1, hvs, hvb⟩ := HK.out k hlt
      rw [← HP.out] at hPl hch
      have ix := idx_str T P (by rw [HTL.out]; exact hPl)
      rw [hch] at ix
      have NX : Hid (valD (D.take (k + 1)) = 10 * valD (D.take k) + ((D.getD k 0).toNat - 48)) := hvs
      have hle : ((P : Nat) : Int) - (F : Int) ≤ 18 := by have := HP.out; omega
      have hPi : (P : Int) < (LT : Int) := by omega
      rw [NX.out] at hvb
      clear hch hvs
      generalize valD (D.take k) = V at *
      generalize (D.getD k 0).toNat = c at *
      have d1 : (((c : Nat) : Int) != 32) = true := bne_iff_ne.2 (by omega)
      have d2 : ¬ ((c : Nat) : Int) < 48 := by omega
      have d3 : ¬ (57 : Int) < ((c : Nat) : Int) := by omega
      have d4 : ¬ (18 : Int) < ((P : Nat) : Int) - (F : Int) := by omega
      have hFP : (F : Int) ≤ (P : Int) := by have := HP.out; omega
      go_wp2_with fail
      go_roundw
      case rel => exact ⟨P + 1, k + 1, by trivial, by go_num, by omega, (by have := HP.out; show _ = _; omega), (by show _ = _; rw [NX.out]; congr 1; omega)⟩
      case measure => have := HP.out; simp [RowKit.intOf]; omega
    · obtain rfl : k = LD := by omega
      have hV : valD (D.take k) = N := by rw [HDL.out]; exact HVN.out
      rw [hV]
      clear hV HK
      have HPF := HP.out
      have hPLT : P ≤ LT := by omega
      have hFP : (F : Int) < (P : Int) := by omega
      clear HPF
      by_cases hend : P = LT
      · have hPi : ¬ (P : Int) < (LT : Int) := by omega
        clear hend
        by_cases hz : c0 = 48
        · have hN : N = 0 ∧ k = 1 := HZ.out hz
          have z1 : (((c0 : Nat) : Int) == 48) = true := by rw [hz]; rfl
          have z2 : (((P : Nat) : Int) == (F : Int)) = false := by rw [beq_eq_false_iff_ne]; omega
          have z3 : ¬ (1 : Int) < ((P : Nat) : Int) - (F : Int) := by have := HP.out; omega
          clear hN
          go_wp2_with fail
          go_ret2
          exact ⟨FIN.out P HP.out, rfl⟩
        · have z1 : (((c0 : Nat) : Int) == 48) = false := by rw [beq_eq_false_iff_ne]; omega
          have z2 : (((P : Nat) : Int) == (F : Int)) = false := by rw [beq_eq_false_iff_ne]; omega
          go_wp2_with fail
          go_ret2
          exact ⟨FIN.out P HP.out, rfl⟩
      · have hs := HST.out (by have := HP.out; omega)
        rw [← HP.out] at hs
        have ix := idx_str T P (by rw [HTL.out]; have := HP.out; omega)
        rw [hs] at ix
        have ix' : ∀ w, (Instr.index 9 (.string ⟨T.toArray⟩) (.int .i64 ((P : Nat) : Int))).run Tryd.prog w = .ok (.int .u8 32) w := ix
        have hPi : (P : Int) < (LT : Int) := by omega
        clear hs ix hend
        by_cases hz : c0 = 48
        · have hN : N = 0 ∧ k = 1 := HZ.out hz
          have z1 : (((c0 : Nat) : Int) == 48) = true := by rw [hz]; rfl
          have z2 : (((P : Nat) : Int) == (F : Int)) = false := by rw [beq_eq_false_iff_ne]; omega
          have z3 : ¬ (1 : Int) < ((P : Nat) : Int) - (F : Int) := by have := HP.out; omega
          clear hN
          go_wp2_with fail
          go_ret2
          exact ⟨FIN.out P HP.out, rfl⟩
        · have z1 : (((c0 : Nat) : Int) == 48) = false := by rw [beq_eq_false_iff_ne]; omega
          have z2 : (((P : Nat) : Int) == (F : Int)) = false := by rw [beq_eq_false_iff_ne]; omega
          go_wp2_with fail
          go_ret2
          exact ⟨FIN.out P HP.out, rfl⟩

set_option maxRecDepth 20000 in
set_option maxHeartbeats 4000000 in
theorem number_neg (T : List UInt8) (F N : Nat) (w : World) (hl : T.length ≤ 1000000000) (h : DgI T (decDigits N) F) (hN0 : 0 < N) (hN : N ≤ 9223372036854775808) (G : Nat) (hF : F = G + 1) (hM : T.getD G 0 = 45) :
    Calls Tryd.prog 7 #[.string ⟨T.toArray⟩, .int .i64 (G : Int)] w fun e w' => e = .returned (.tuple #[.int .i64 (-(N : Int)), .int .i64 ((F + (decDigits N).length : Nat) : Int)]) ∧ w' = w := by
  have D19 := dec_19 N (by omega)
  have D0 := (dec_len N (by omega)).2
  have HVN : Hid (valD (decDigits N) = N) := valD_dec N
  have HZ : Hid ((((decDigits N).getD 0 0).toNat = 48) → N = 0 ∧ (decDigits N).length = 1) := fun e => by
    have hz : N = 0 := dec_zero N (by rw [← UInt8.toNat_inj]; exact e)
    refine ⟨hz, ?_⟩
    subst hz
    rw [decDigits]; rfl
  have HK : Hid (∀ k, k < (decDigits N).length → F + k < T.length ∧ T.getD (F + k) 0 = (decDigits N).getD k 0 ∧ 48 ≤ ((decDigits N).getD k 0).toNat ∧ ((decDigits N).getD k 0).toNat ≤ 57 ∧ valD ((decDigits N).take (k + 1)) = 10 * valD ((decDigits N).take k) + (((decDigits N).getD k 0).toNat - 48) ∧ valD ((decDigits N).take (k + 1)) ≤ N) := fun k hk => by
    obtain ⟨h1, h2⟩ := h.at' k hk
    have hm : (decDigits N).getD k 0 ∈ decDigits N := by rw [List.getD_eq_getElem?_getD, List.getElem?_eq_getElem hk]; exact List.getElem_mem _
    obtain ⟨h3, h4⟩ := dec_dig N _ hm
    have h5 := valD_take (decDigits N) (k + 1)
    rw [valD_dec] at h5
    refine ⟨h1, h2, h3, h4, ?_, h5⟩
    rw [List.take_add_one, List.getD_eq_getElem?_getD, List.getElem?_eq_getElem hk]
    exact valD_snoc _ _
  have HST : Hid (F + (decDigits N).length < T.length → T.getD (F + (decDigits N).length) 0 = 32) := h.stop
  have hFL := h.len
  obtain ⟨c0l, c0e⟩ := h.at' 0 D0
  have hc0 := HK.out 0 D0
  have ix0 := idx_str T F (by omega)
  rw [Nat.add_zero] at c0e
  rw [c0e] at ix0
  have hc48 := hc0.2.2.1
  have hc57 := hc0.2.2.2.1
  have HDL : Hid ((decDigits N).take (decDigits N).length = decDigits N) := List.take_of_length_le (Nat.le_refl _)
  have FIN : Hid (∀ P : Nat, P = F + (decDigits N).length → (Ending.returned (.tuple #[.int .i64 (-(N : Int)), .int .i64 (P : Int)]) = .returned (.tuple #[.int .i64 (-(N : Int)), .int .i64 ((F + (decDigits N).length : Nat) : Int)]))) := fun P e => by subst e; rfl
  have ixm := idx_str T G (by omega)
  rw [hM] at ixm
  have ixm2 : ∀ w, (Instr.index 9 (.string ⟨T.toArray⟩) (.int .i64 (G : Int))).run Tryd.prog w = .ok (.int .u8 45) w := ixm
  have hsz : ({ data := T.toArray } : ByteArray).size = T.length := rfl
  clear h hc0 c0e ixm hM
  generalize decDigits N = D at *
  generalize (D.getD 0 0).toNat = c0 at *
  obtain ⟨LT, hLT⟩ : ∃ LT, T.length = LT := ⟨_, rfl⟩
  have HTL : Hid (T.length = LT) := hLT
  rw [hLT] at hl HK HST hFL c0l hsz
  clear hLT
  generalize D.length = LD at *
  have d5 : (G : Int) < (LT : Int) := by omega
  have hGF : (G : Int) + 1 = (F : Int) := by omega
  clear hF
  go_enter Tryd.func7, Tryd.ntmps7
  go_wp2_with fail
  go_loopw [1, 8] (fun va vn wr => ∃ (P k : Nat), wr = w ∧ va = .int .i64 (P : Int) ∧ k ≤ LD ∧ Hid (P = F + k) ∧ Hid (vn = .int .i64 (-((valD (D.take k) : Nat) : Int)))) (fun va _ _ => F + LD - (RowKit.intOf va).toNat)
  case atStart => exact ⟨F, 0, rfl, rfl, by omega, (by show _ = _; omega), (by show _ = _; simp [valD])⟩
  case round =>
    obtain ⟨P, k, rfl, rfl, hk, HP, HV⟩ := hrel
    have hv := HV.out
    subst hv
    clear HV
    by_cases hlt : k < LD
    · obtain ⟨hPl, hch, hd0, hd1, hvs, hvb⟩ := HK.out k hlt
      rw [← HP.out] at hPl hch
      have ix := idx_str T P (by rw [HTL.out]; exact hPl)
      rw [hch] at ix
      have NX : Hid (valD (D.take (k + 1)) = 10 * valD (D.take k) + ((D.getD k 0).toNat - 48)) := hvs
      have hle : ((P : Nat) : Int) - (F : Int) ≤ 18 := by have := HP.out; omega
      have hPi : (P : Int) < (LT : Int) := by omega
      rw [NX.out] at hvb
      clear hch hvs
      generalize valD (D.take k) = V at *
      generalize (D.getD k 0).toNat = c at *
      have d1 : (((c : Nat) : Int) != 32) = true := bne_iff_ne.2 (by omega)
      have d2 : ¬ ((c : Nat) : Int) < 48 := by omega
      have d3 : ¬ (57 : Int) < ((c : Nat) : Int) := by omega
      have d4 : ¬ (18 : Int) < ((P : Nat) : Int) - (F : Int) := by omega
      have hFP : (F : Int) ≤ (P : Int) := by have := HP.out; omega
      go_wp2_with fail
      go_roundw
      case rel => exact ⟨P + 1, k + 1, by trivial, by go_num, by omega, (by have := HP.out; show _ = _; omega), (by show _ = _; rw [NX.out]; congr 1; omega)⟩
      case measure => have := HP.out; simp [RowKit.intOf]; omega
    · obtain rfl : k = LD := by omega
      have hV : valD (D.take k) = N := by rw [HDL.out]; exact HVN.out
      rw [hV]
      clear hV HK
      have HPF := HP.out
      have hPLT : P ≤ LT := by omega
      have hFP : (F : Int) < (P : Int) := by omega
      clear HPF
      by_cases hend : P = LT
      · have hPi : ¬ (P : Int) < (LT : Int) := by omega
        clear hend
        by_cases hz : c0 = 48
        · have hN : N = 0 ∧ k = 1 := HZ.out hz
          have z1 : (((c0 : Nat) : Int) == 48) = true := by rw [hz]; rfl
          have z2 : (((P : Nat) : Int) == (F : Int)) = false := by rw [beq_eq_false_iff_ne]; omega
          exact absurd hN.1 (by omega)
        · have z1 : (((c0 : Nat) : Int) == 48) = false := by rw [beq_eq_false_iff_ne]; omega
          have z2 : (((P : Nat) : Int) == (F : Int)) = false := by rw [beq_eq_false_iff_ne]; omega
          go_wp2_with fail
          go_ret2
          exact ⟨FIN.out P HP.out, rfl⟩
      · have hs := HST.out (by have := HP.out; omega)
        rw [← HP.out] at hs
        have ix := idx_str T P (by rw [HTL.out]; have := HP.out; omega)
        rw [hs] at ix
        have ix' : ∀ w, (Instr.index 9 (.string ⟨T.toArray⟩) (.int .i64 ((P : Nat) : Int))).run Tryd.prog w = .ok (.int .u8 32) w := ix
        have hPi : (P : Int) < (LT : Int) := by omega
        clear hs ix hend
        by_cases hz : c0 = 48
        · have hN : N = 0 ∧ k = 1 := HZ.out hz
          have z1 : (((c0 : Nat) : Int) == 48) = true := by rw [hz]; rfl
          have z2 : (((P : Nat) : Int) == (F : Int)) = false := by rw [beq_eq_false_iff_ne]; omega
          exact absurd hN.1 (by omega)
        · have z1 : (((c0 : Nat) : Int) == 48) = false := by rw [beq_eq_false_iff_ne]; omega
          have z2 : (((P : Nat) : Int) == (F : Int)) = false := by rw [beq_eq_false_iff_ne]; omega
          go_wp2_with fail
          go_ret2
          exact ⟨FIN.out P HP.out, rfl⟩
end Go.Proofs.YtcbdbjejodpnaaaDoor
