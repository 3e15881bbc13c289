/-
  Ours: the reference's laid, turned, Extend, Sum.
-/
import Derived.Test.YteflbdlfjebccaaDoorFrmSum
namespace Go.Proofs.YteflbdlfjebccaaDoor
open Go.RowKit

theorem bit1_odd {r : Nat} (h : r % 2 = 1) : CrcM.bit1 r = (r / 2) ^^^ 3988292384 := by unfold CrcM.bit1; rw [if_pos h]; rfl
theorem bit1_even {r : Nat} (h : ¬ r % 2 = 1) : CrcM.bit1 r = r / 2 := by unfold CrcM.bit1; rw [if_neg h, Nat.xor_zero]

set_option maxHeartbeats 600000 in
theorem rlaid_at (r b : Nat) (w : World) (hr : r < 4294967296) (hb : b < 256) :
    Calls Tryd.prog 26 #[.int .u32 (r : Int), .int .u8 (b : Int)] w fun e w' => e = .returned (.int .u32 ((CrcM.laid r b : Nat) : Int)) ∧ w' = w := by
  have e1 := xor32 r b hr (by omega)
  have hy : r ^^^ b < 4294967296 := Nat.xor_lt_two_pow (n := 32) hr (by omega)
  have HE : Hid (CrcM.laid r b = CrcM.bitN 8 (r ^^^ b)) := by show _ = _; unfold CrcM.laid; rfl
  rw [HE.out]
  generalize r ^^^ b = y at *
  have B8 : Hid (∀ k, CrcM.bitN k y < 4294967296) := fun k => CrcM.bitN_lt k hy
  have Z0 : Hid (y = CrcM.bitN 0 y) := by show _ = _; unfold CrcM.bitN; rfl
  clear hy
  go_enter Tryd.func26, Tryd.ntmps26
  go_wp2_with fail
  go_loopw [0, 5] (fun vr vk wr => ∃ k : Nat, wr = w ∧ vk = .int .i64 (k : Int) ∧ k ≤ 8 ∧ vr = .int .u32 ((CrcM.bitN k y : Nat) : Int)) (fun _ vk _ => 8 - (intOf vk).toNat)
  case atStart => exact ⟨0, rfl, rfl, by omega, by rw [← Z0.out]⟩
  case round =>
    obtain ⟨k, rfl, rfl, hk, rfl⟩ := hrel
    have hz := B8.out k
    have HN := CrcM.bitN_next k y
    by_cases hlt : (k : Int) < 8
    · generalize CrcM.bitN k y = z at *
      by_cases ho : z % 2 = 1
      · rw [bit1_odd ho] at HN
        have HN' : Hid (CrcM.bitN (k + 1) y = z / 2 ^^^ 3988292384) := HN
        have g1 : ((z : Int) % 2 == 1) = true := by simp; omega
        have e3 := xor32 (z / 2) 3988292384 (by omega) (by decide)
        rw [show ((z / 2 : Nat) : Int) = (z : Int) / 2 by omega, show ((3988292384 : Nat) : Int) = 3988292384 from rfl] at e3
        clear HN
        go_wp2_with fail
        go_roundw
        case rel => exact ⟨k + 1, by trivial, by go_num, by omega, by rw [HN'.out]⟩
        case measure => simp [intOf]; omega
      · rw [bit1_even ho] at HN
        have HN' : Hid (CrcM.bitN (k + 1) y = z / 2) := HN
        have g1 : ((z : Int) % 2 == 1) = false := by simp; omega
        clear HN
        go_wp2_with fail
        go_roundw
        case rel => exact ⟨k + 1, by trivial, by go_num, by omega, by rw [HN'.out]; rfl⟩
        case measure => simp [intOf]; omega
    · obtain rfl : k = 8 := by omega
      go_wp2_with fail
      go_ret
      exact ⟨rfl, rfl⟩

set_option maxHeartbeats 600000 in
theorem rturned_at (r : Nat) (w : World) (hr : r < 4294967296) :
    Calls Tryd.prog 25 #[.int .u32 (r : Int)] w fun e w' => e = .returned (.int .u32 ((CrcM.ones - r : Nat) : Int)) ∧ w' = w := by
  have e1 : IntKind.u32.wrap (4294967295 - (r : Int)) = ((CrcM.ones - r : Nat) : Int) := by rw [wrapU32]; unfold CrcM.ones; omega
  generalize CrcM.ones - r = s at *
  go_enter Tryd.func25, Tryd.ntmps25
  go_wp2_with fail
  go_ret
  exact ⟨rfl, rfl⟩

set_option maxHeartbeats 600000 in
theorem rextend_at (s : Nat) (bs : List Nat) (v : Value) (w : World) (hs : s < 4294967296) (hb : ∀ b ∈ bs, b < 256) (hl : bs.length ≤ 140737488355328) (h : RdB w v bs) :
    Calls Tryd.prog 23 #[.int .u32 (s : Int), v] w fun e w' => e = .returned (.int .u32 ((CrcM.ext s bs : Nat) : Int)) ∧ w' = w := by
  obtain ⟨ao, cap, rfl, _, _⟩ := h.len
  obtain ⟨L, hL⟩ : ∃ L, (bs.map bv).length = L := ⟨_, rfl⟩
  rw [hL] at h ⊢
  obtain ⟨n1, hc, H⟩ := h.at
  have HH : Hid (∀ k, k < L → ∃ g o, ao = some ⟨g, o, none⟩ ∧ w.cell? ⟨g, o + k, none⟩ = some (.int .u8 ((bs.getD k 0 : Nat) : Int))) := H
  have LD : Hid (∀ (r b : Nat), r < 4294967296 → b < 256 → Calls Tryd.prog 26 #[.int .u32 (r : Int), .int .u8 (b : Int)] w fun e w' => e = .returned (.int .u32 ((CrcM.laid r b : Nat) : Int)) ∧ w' = w) := fun r b hr hb => rlaid_at r b w hr hb
  have TD : Hid (∀ (r : Nat), r < 4294967296 → Calls Tryd.prog 25 #[.int .u32 (r : Int)] w fun e w' => e = .returned (.int .u32 ((CrcM.ones - r : Nat) : Int)) ∧ w' = w) := fun r hr => rturned_at r w hr
  have T0 : Hid (Calls Tryd.prog 25 #[.int .u32 (s : Int)] w fun e w' => e = .returned (.int .u32 ((CrcM.ones - s : Nat) : Int)) ∧ w' = w) := rturned_at s w hs
  have HR : Hid (∀ k, CrcM.crc (CrcM.ones - s) (bs.take k) < 4294967296) := fun k => crc_lt32 (by unfold CrcM.ones; omega) hb k
  have HS : Hid (∀ k, k < L → CrcM.crc (CrcM.ones - s) (bs.take (k + 1)) = CrcM.laid (CrcM.crc (CrcM.ones - s) (bs.take k)) (bs.getD k 0)) := fun k hk => crc_take _ bs k (by omega)
  have HX : Hid (∀ k, bs.getD k 0 < 256) := getD_lt hb
  have HE : Hid (CrcM.ext s bs = CrcM.ones - CrcM.crc (CrcM.ones - s) (bs.take L)) := by
    show _ = _
    rw [List.take_of_length_le (by omega)]; exact CrcM.ext_eq s bs
  obtain ⟨E, hE⟩ : ∃ E, CrcM.ext s bs = E := ⟨_, rfl⟩
  rw [hE] at HE ⊢
  have l2 : L ≤ 140737488355328 := by omega
  clear H h hs hb hL n1 hl hE hc
  generalize CrcM.ones - s = r0 at *
  have Z0 : Hid (r0 = CrcM.crc r0 (bs.take 0)) := (CrcM.crc_nil r0).symm
  go_enter Tryd.func23, Tryd.ntmps23
  go_wp2_with fail
  refine T0.out.mono ?_
  rintro e w2 ⟨rfl, rfl⟩
  go_wp2_with fail
  go_loopw [5, 6] (fun vr vk wr => ∃ k : Nat, wr = w2 ∧ vk = .int .i64 (k : Int) ∧ k ≤ L ∧ vr = .int .u32 ((CrcM.crc r0 (bs.take k) : Nat) : Int)) (fun _ vk _ => L - (intOf vk).toNat)
  case atStart => exact ⟨0, rfl, rfl, by omega, by rw [← Z0.out]⟩
  case round =>
    obtain ⟨k, rfl, rfl, hk, rfl⟩ := hrel
    have hr := HR.out k
    by_cases hlt : (k : Int) < (L : Int)
    · obtain ⟨g, o, rfl, c0⟩ := HH.out k (by omega)
      have hx := HX.out k
      have HN : Hid (CrcM.crc r0 (bs.take (k + 1)) = CrcM.laid (CrcM.crc r0 (bs.take k)) (bs.getD k 0)) := HS.out k (by omega)
      generalize bs.getD k 0 = x at *
      generalize CrcM.crc r0 (bs.take k) = r at *
      go_wp2_with fail
      refine (LD.out r x hr hx).mono ?_
      rintro e w2 ⟨rfl, rfl⟩
      go_wp2_with fail
      go_roundw
      case rel => exact ⟨k + 1, by trivial, by go_num, by omega, by rw [HN.out]⟩
      case measure => simp [intOf]; omega
    · obtain rfl : k = L := by omega
      generalize CrcM.crc r0 (bs.take k) = r at *
      go_wp2_with fail
      refine (TD.out r hr).mono ?_
      rintro e w2 ⟨rfl, rfl⟩
      go_wp2_with fail
      go_ret
      exact ⟨by rw [HE.out]; rfl, rfl⟩

set_option maxHeartbeats 600000 in
theorem rsum_at (bs : List Nat) (v : Value) (w : World) (hb : ∀ b ∈ bs, b < 256) (hl : bs.length ≤ 140737488355328) (h : RdB w v bs) :
    Calls Tryd.prog 20 #[v] w fun e w' => e = .returned (.int .u32 ((CrcM.sum bs : Nat) : Int)) ∧ w' = w := by
  have E : Hid (Calls Tryd.prog 23 #[.int .u32 0, v] w fun e w' => e = .returned (.int .u32 ((CrcM.sum bs : Nat) : Int)) ∧ w' = w) := by
    have := rextend_at 0 bs v w (by decide) hb hl h
    rw [show ((0 : Nat) : Int) = 0 from rfl, ← CrcM.sum_eq] at this
    exact this
  obtain ⟨ao, cap, rfl, _, _⟩ := h.len
  clear h hb hl
  generalize (bs.map bv).length = L at *
  generalize CrcM.sum bs = r at *
  go_enter Tryd.func20, Tryd.ntmps20
  go_wp2_with fail
  refine E.out.mono ?_
  rintro e w2 ⟨rfl, rfl⟩
  go_wp2_with fail
  go_ret
  exact ⟨rfl, rfl⟩
end Go.Proofs.YteflbdlfjebccaaDoor
