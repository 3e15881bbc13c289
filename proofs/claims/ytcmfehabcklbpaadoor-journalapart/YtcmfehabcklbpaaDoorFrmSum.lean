/-
  Ours: frame.Extend and frame.Sum; the reference's laid, turned, Extend, Sum.
-/
import Derived.Test.YtcmfehabcklbpaaDoorFrmStep
namespace Go.Proofs.YtcmfehabcklbpaaDoor
open Go.RowKit

theorem crc_take (r : Nat) (bs : List Nat) (k : Nat) (h : k < bs.length) : CrcM.crc r (bs.take (k + 1)) = CrcM.laid (CrcM.crc r (bs.take k)) (bs.getD k 0) := by
  rw [List.take_add_one, List.getD_eq_getElem?_getD, List.getElem?_eq_getElem h, CrcM.crc_app]
  exact CrcM.crc_one _ _
theorem getD_lt {bs : List Nat} (hb : ∀ b ∈ bs, b < 256) (k : Nat) : bs.getD k 0 < 256 := by
  rw [List.getD_eq_getElem?_getD]
  cases h : bs[k]? with
  | none => simp
  | some x => exact hb x (List.mem_of_getElem? h)
theorem crc_lt32 {r : Nat} {bs : List Nat} (hr : r < 4294967296) (hb : ∀ b ∈ bs, b < 256) (k : Nat) : CrcM.crc r (bs.take k) < 4294967296 := CrcM.crc_lt _ hr (fun b h => hb b (List.mem_of_mem_take h))
theorem laid_lt32 {r b : Nat} (hr : r < 4294967296) (hb : b < 256) : CrcM.laid r b < 4294967296 := by unfold CrcM.laid; exact CrcM.bitN_lt 8 (Nat.xor_lt_two_pow (n := 32) hr (by omega))

/-- How bytes read, one by one. -/
theorem RdB.at {w : World} {ao : Option Addr} {n c : Nat} {bs : List Nat} (h : RdB w (.slice ao n c) bs) : n = bs.length ∧ n ≤ c ∧ ∀ k, k < n → ∃ g o, ao = some ⟨g, o, none⟩ ∧ w.cell? ⟨g, o + k, none⟩ = some (.int .u8 ((bs.getD k 0 : Nat) : Int)) := by
  obtain ⟨ao', cap, e, h1, _, H⟩ := h
  injection e with e1 e2 e3
  subst e1 e2 e3
  rw [List.length_map] at h1
  refine ⟨by rw [List.length_map], by rw [List.length_map]; exact h1, fun k hk => ?_⟩
  obtain ⟨g, o, e1, _, e2⟩ := H k hk
  rw [List.length_map] at hk
  refine ⟨g, o, e1, ?_⟩
  rw [e2, List.getElem_map, List.getD_eq_getElem?_getD, List.getElem?_eq_getElem hk]; rfl

set_option maxHeartbeats 600000 in
theorem extend_same (s : Nat) (bs : List Nat) (v : Value) (w : World) (hs : s < 4294967296) (hb : ∀ b ∈ bs, b < 256) (hl : bs.length ≤ 140737488355328) (h : RdB w v bs) (hT : TabS w) :
    Calls Tryd.prog 57 #[.int .u32 (s : Int), v] w fun e w' => e = .returned (.int .u32 ((CrcM.ext s bs : Nat) : Int)) ∧ w' = w := by
  obtain ⟨ao, cap, rfl, _, _⟩ := h.len
  obtain ⟨L, hL⟩ : ∃ L, (bs.map bv).length = L := ⟨_, rfl⟩
  rw [hL] at h ⊢
  obtain ⟨n1, hc, H⟩ := h.at
  have HH : Hid (∀ k, k < L → ∃ g o, ao = some ⟨g, o, none⟩ ∧ w.cell? ⟨g, o + k, none⟩ = some (.int .u8 ((bs.getD k 0 : Nat) : Int))) := H
  have ST : Hid (∀ (r : Nat), r < 4294967296 → Calls Tryd.prog 60 #[.int .u32 (r : Int)] w fun e w' => e = .returned (.int .u32 ((CrcM.bitN 4 r : Nat) : Int)) ∧ w' = w) := fun r hr => step_at r w hr hT
  have N0 := not32 s hs
  have HR : Hid (∀ k, CrcM.crc (CrcM.ones - s) (bs.take k) < 4294967296) := fun k => crc_lt32 (by unfold CrcM.ones; omega) hb k
  have HS : Hid (∀ k, k < L → CrcM.crc (CrcM.ones - s) (bs.take (k + 1)) = CrcM.laid (CrcM.crc (CrcM.ones - s) (bs.take k)) (bs.getD k 0)) := fun k hk => crc_take _ bs k (by omega)
  have HX : Hid (∀ k, bs.getD k 0 < 256) := getD_lt hb
  have HE : Hid (CrcM.ext s bs = CrcM.ones - CrcM.crc (CrcM.ones - s) (bs.take L)) := by
    show _ = _
    rw [List.take_of_length_le (by omega)]; exact CrcM.ext_eq s bs
  obtain ⟨E, hE⟩ : ∃ E, CrcM.ext s bs = E := ⟨_, rfl⟩
  rw [hE] at HE ⊢
  have l2 : L ≤ 140737488355328 := by omega
  clear H hT h hs hb hL n1 hl hE hc
  generalize CrcM.ones - s = r0 at *
  have Z0 : Hid (r0 = CrcM.crc r0 (bs.take 0)) := (CrcM.crc_nil r0).symm
  go_enter Tryd.func57, Tryd.ntmps57
  go_wp2_with fail
  go_loopw [5, 12] (fun vr vk wr => ∃ (k : Nat), wr = w ∧ vk = .int .i64 (k : Int) ∧ k ≤ L ∧ vr = .int .u32 ((CrcM.crc r0 (bs.take k) : Nat) : Int)) (fun _ vk _ => L - (intOf vk).toNat)
  case atStart => exact ⟨0, rfl, rfl, by omega, by rw [← Z0.out]⟩
  case round =>
    obtain ⟨k, rfl, rfl, hk, rfl⟩ := hrel
    have hr := HR.out k
    by_cases hlt : (k : Int) < (L : Int)
    · obtain ⟨g, o, rfl, c0⟩ := HH.out k (by omega)
      have hx := HX.out k
      have HN : Hid (CrcM.crc r0 (bs.take (k + 1)) = CrcM.laid (CrcM.crc r0 (bs.take k)) (bs.getD k 0)) := HS.out k (by omega)
      generalize bs.getD k 0 = x at *
      generalize CrcM.crc r0 (bs.take k) = r at *
      have e1 := xor32 r x hr (by omega)
      have hy : r ^^^ x < 4294967296 := Nat.xor_lt_two_pow (n := 32) hr (by omega)
      have HY : Hid (CrcM.laid r x = CrcM.bitN 4 (CrcM.bitN 4 (r ^^^ x))) := CrcM.laid_eq r x
      generalize r ^^^ x = y at *
      have hz : CrcM.bitN 4 y < 4294967296 := CrcM.bitN_lt 4 hy
      go_wp2_with fail
      refine (ST.out y hy).mono ?_
      rintro e w2 ⟨rfl, rfl⟩
      go_wp2_with fail
      refine (ST.out _ hz).mono ?_
      rintro e w2 ⟨rfl, rfl⟩
      go_wp2_with fail
      go_roundw
      case rel => exact ⟨k + 1, by trivial, by go_num, by omega, by rw [HN.out, HY.out]⟩
      case measure => simp [intOf]; omega
    · obtain rfl : k = L := by omega
      generalize CrcM.crc r0 (bs.take k) = r at *
      have N1 := not32 r hr
      go_wp2_with fail
      go_ret
      exact ⟨by rw [HE.out]; rfl, rfl⟩

set_option maxHeartbeats 1000000 in
theorem sum_same (bs : List Nat) (v : Value) (w : World) (hb : ∀ b ∈ bs, b < 256) (hl : bs.length ≤ 140737488355328) (h : RdB w v bs) (hT : TabS w) :
    Calls Tryd.prog 53 #[v] w fun e w' => e = .returned (.int .u32 ((CrcM.sum bs : Nat) : Int)) ∧ w' = w := by
  have E : Hid (Calls Tryd.prog 57 #[.int .u32 0, v] w fun e w' => e = .returned (.int .u32 ((CrcM.sum bs : Nat) : Int)) ∧ w' = w) := by
    have := extend_same 0 bs v w (by decide) hb hl h hT
    rw [show ((0 : Nat) : Int) = 0 from rfl, ← CrcM.sum_eq] at this
    exact this
  obtain ⟨ao, cap, rfl, _, _⟩ := h.len
  clear h hT hb hl
  generalize (bs.map bv).length = L at *
  generalize CrcM.sum bs = r at *
  go_enter Tryd.func53, Tryd.ntmps53
  go_wp2_with fail
  refine E.out.mono ?_
  rintro e w2 ⟨rfl, rfl⟩
  go_wp2_with fail
  go_ret
  exact ⟨rfl, rfl⟩
theorem extend_at (s : Nat) (bs : List Nat) (v : Value) (w : World) (hs : s < 4294967296) (hb : ∀ b ∈ bs, b < 256) (hl : bs.length ≤ 140737488355328) (h : RdB w v bs) (hT : TabS w) :
    Calls Tryd.prog 57 #[.int .u32 (s : Int), v] w fun e w' => e = .returned (.int .u32 ((CrcM.ext s bs : Nat) : Int)) ∧ ∃ n, w' = w.drewN n := (extend_same s bs v w hs hb hl h hT).mono fun _ _ ⟨h1, h2⟩ => ⟨h1, 0, h2⟩
theorem sum_at (bs : List Nat) (v : Value) (w : World) (hb : ∀ b ∈ bs, b < 256) (hl : bs.length ≤ 140737488355328) (h : RdB w v bs) (hT : TabS w) :
    Calls Tryd.prog 53 #[v] w fun e w' => e = .returned (.int .u32 ((CrcM.sum bs : Nat) : Int)) ∧ ∃ n, w' = w.drewN n := (sum_same bs v w hb hl h hT).mono fun _ _ ⟨h1, h2⟩ => ⟨h1, 0, h2⟩
end Go.Proofs.YtcmfehabcklbpaaDoor
