/-
  Ours: frame.word and frame.putWord.
-/
import Derived.Test.YtcmfehabcklbpaaDoorFrmSum
import Derived.Test.YtcmfehabcklbpaaDoorFrmOwn
import Derived.Test.YtcmfehabcklbpaaDoorWirNear
namespace Go.Proofs.YtcmfehabcklbpaaDoor
open Go.RowKit

theorem xor_or {a x k : Nat} (h : a < 2 ^ k) : a ^^^ (2 ^ k * x) = a ||| (x * 2 ^ k) := by
  apply Nat.eq_of_testBit_eq
  intro i
  rw [Nat.testBit_xor, Nat.testBit_or, Nat.mul_comm, Nat.testBit_mul_two_pow]
  by_cases hi : k ≤ i
  · rw [Nat.testBit_lt_two_pow (Nat.lt_of_lt_of_le h (Nat.pow_le_pow_right (by decide) hi))]; simp
  · simp [hi]
theorem num_nil : CrcM.num [] = 0 := by unfold CrcM.num; rfl
theorem num_one {x : Nat} (h : x < 256) : CrcM.num [x] = x := by rw [CrcM.num_cons h, num_nil]; omega
theorem num_next {bs : List Nat} (hb : ∀ b ∈ bs, b < 256) {k : Nat} (hk : k < bs.length) : CrcM.num (bs.take (k + 1)) = CrcM.num (bs.take k) ||| (bs.getD k 0 * 2 ^ (8 * k)) := by
  have e : bs.take (k + 1) = bs.take k ++ [bs.getD k 0] := by rw [List.take_add_one, List.getD_eq_getElem?_getD, List.getElem?_eq_getElem hk]; rfl
  have ll : (bs.take k).length = k := by rw [List.length_take]; omega
  have lt := CrcM.num_lt (bs.take k) (fun b h => hb b (List.mem_of_mem_take h))
  rw [ll] at lt
  rw [e, CrcM.num_app, ll, num_one (getD_lt hb k), xor_or lt]
theorem num_lt32 {bs : List Nat} (hb : ∀ b ∈ bs, b < 256) {k : Nat} (hk : k ≤ 4) : CrcM.num (bs.take k) < 4294967296 := by
  have lt := CrcM.num_lt (bs.take k) (fun b h => hb b (List.mem_of_mem_take h))
  have : 2 ^ (8 * (bs.take k).length) ≤ 2 ^ 32 := Nat.pow_le_pow_right (by decide) (by rw [List.length_take]; omega)
  omega

set_option maxHeartbeats 600000 in
theorem word_at (bs : List Nat) (v : Value) (w : World) (hb : ∀ b ∈ bs, b < 256) (h4 : 4 ≤ bs.length) (h : RdB w v bs) :
    Calls Tryd.prog 61 #[v] w fun e w' => e = .returned (.int .u32 ((CrcM.num (bs.take 4) : Nat) : Int)) ∧ w' = w := by
  obtain ⟨ao, cap, rfl, _, _⟩ := h.len
  obtain ⟨L, hL⟩ : ∃ L, (bs.map bv).length = L := ⟨_, rfl⟩
  rw [hL] at h ⊢
  obtain ⟨n1, hc, H⟩ := h.at
  have h4' : 4 ≤ L := by omega
  have HH : Hid (∀ k, k < 4 → ∃ g o, ao = some ⟨g, o, none⟩ ∧ w.cell? ⟨g, o + k, none⟩ = some (.int .u8 ((bs.getD k 0 : Nat) : Int))) := fun k hk => H k (by omega)
  have HX : Hid (∀ k, bs.getD k 0 < 256) := getD_lt hb
  have HN : Hid (∀ k, k < 4 → bits .or .u32 ((CrcM.num (bs.take k) : Nat) : Int) ((bs.getD k 0 * 2 ^ (8 * k) : Nat) : Int) = ((CrcM.num (bs.take (k + 1)) : Nat) : Int)) := fun k hk => by
    rw [num_next hb (by omega)]
    refine or32 _ _ (num_lt32 hb (by omega)) ?_
    have := getD_lt hb k
    generalize bs.getD k 0 = x at *
    match k, hk with
    | 0, _ => simp; omega
    | 1, _ => simp; omega
    | 2, _ => simp; omega
    | 3, _ => simp; omega
  have Z0 : Hid (CrcM.num (bs.take 0) = 0) := by show _ = _; rw [List.take_zero]; exact num_nil
  clear H h hb hL n1 h4 hc
  go_enter Tryd.func61, Tryd.ntmps61
  go_wp2_with fail
  go_loopw [3, 5] (fun vx vk wr => ∃ k : Nat, wr = w ∧ vk = .int .i64 (k : Int) ∧ k ≤ 4 ∧ vx = .int .u32 ((CrcM.num (bs.take k) : Nat) : Int)) (fun _ vk _ => 4 - (intOf vk).toNat)
  case atStart => exact ⟨0, rfl, rfl, by omega, by rw [Z0.out]; rfl⟩
  case round =>
    obtain ⟨k, rfl, rfl, hk, rfl⟩ := hrel
    by_cases hlt : (k : Int) < 4
    · obtain ⟨g, o, rfl, c0⟩ := HH.out k (by omega)
      have hx := HX.out k
      have e1 := HN.out k (by omega)
      generalize bs.getD k 0 = x at *
      generalize CrcM.num (bs.take k) = y at *
      match k, hlt, c0, e1 with
      | 0, hlt, c0, e1 =>
        rw [Nat.add_zero] at c0
        rw [show ((x * 2 ^ (8 * 0) : Nat) : Int) = (x : Int) by simp] at e1
        have E1 : Hid (bits .or .u32 (y : Int) (x : Int) = ((CrcM.num (bs.take 1) : Nat) : Int)) := e1
        clear e1
        go_wp2_with fail
        go_roundw
        case rel => exact ⟨1, by trivial, rfl, by omega, by rw [← E1.out]⟩
        case measure => simp [intOf]
      | 1, hlt, c0, e1 =>
        rw [show ((x * 2 ^ (8 * 1) : Nat) : Int) = ((x : Int) * 256) by simp] at e1
        have E1 : Hid (bits .or .u32 (y : Int) ((x : Int) * 256) = ((CrcM.num (bs.take 2) : Nat) : Int)) := e1
        clear e1
        go_wp2_with fail
        go_roundw
        case rel => exact ⟨2, by trivial, rfl, by omega, by rw [← E1.out]⟩
        case measure => simp [intOf]
      | 2, hlt, c0, e1 =>
        rw [show ((x * 2 ^ (8 * 2) : Nat) : Int) = ((x : Int) * 65536) by simp] at e1
        have E1 : Hid (bits .or .u32 (y : Int) ((x : Int) * 65536) = ((CrcM.num (bs.take 3) : Nat) : Int)) := e1
        clear e1
        go_wp2_with fail
        go_roundw
        case rel => exact ⟨3, by trivial, rfl, by omega, by rw [← E1.out]⟩
        case measure => simp [intOf]
      | 3, hlt, c0, e1 =>
        rw [show ((x * 2 ^ (8 * 3) : Nat) : Int) = ((x : Int) * 16777216) by simp] at e1
        have E1 : Hid (bits .or .u32 (y : Int) ((x : Int) * 16777216) = ((CrcM.num (bs.take 4) : Nat) : Int)) := e1
        clear e1
        go_wp2_with fail
        go_roundw
        case rel => exact ⟨4, by trivial, rfl, by omega, by rw [← E1.out]⟩
        case measure => simp [intOf]
    · obtain rfl : k = 4 := by omega
      go_wp2_with fail
      go_ret
      exact ⟨rfl, rfl⟩

theorem grown_near {a b c : World} {r r' : Option Nat} (h : a.grownBy b r) (k : b.grownBy c r') (hn : ∀ g, r' = some g → r = some g ∨ a.heap.size ≤ g) : a.grownBy c r :=
  ⟨k.os.trans h.os, k.tape.trans h.tape, k.output.trans h.output, Nat.le_trans h.size k.size, fun i hi he => (k.block i (Nat.lt_of_lt_of_le hi h.size) (fun e => by
    rcases hn i e.symm with h1 | h1
    · exact he h1.symm
    · omega)).trans (h.block i hi he)⟩
theorem four_take (x k : Nat) (hk : k < 4) : (CrcM.four x).take (k + 1) = (CrcM.four x).take k ++ [x / 256 ^ k % 256] := by
  match k, hk with
  | 0, _ => simp [CrcM.four]
  | 1, _ => simp [CrcM.four]
  | 2, _ => simp [CrcM.four]
  | 3, _ => simp [CrcM.four]

set_option maxHeartbeats 600000 in
theorem putWord_at (bs : List Nat) (x base : Nat) (v : Value) (w : World) (hx : x < 4294967296) (hl : bs.length ≤ 1000000000000) (hb : base ≤ w.heap.size) (h : RowB 5 base w v bs) :
    Calls Tryd.prog 52 #[v, .int .u32 (x : Int)] w fun e w' => ∃ u, e = .returned u ∧ RowB 5 base w' u (bs ++ CrcM.four x) ∧ w.grownBy w' v.ownBlock := by
  obtain ⟨i0, hi, hz0, hz1, hz2⟩ := info_parts infoB
  have H0 : Hid (RowB 5 base w v bs) := h
  have HB : Hid (∀ g, v.ownBlock = some g → base ≤ g) := fun g hg => h.block_ge hg
  have HT : Hid (∀ k, k < 4 → (CrcM.four x).take (k + 1) = (CrcM.four x).take k ++ [x / 256 ^ k % 256]) := fun k hk => four_take x k hk
  have H4 : Hid (CrcM.four x = (CrcM.four x).take 4) := rfl
  have HL : Hid (∀ k, ((CrcM.four x).take k).length ≤ 4) := fun k => by rw [List.length_take]; exact Nat.min_le_right _ _
  have Z0 : Hid ((CrcM.four x).take 0 = []) := rfl
  have HX : Hid (x < 4294967296) := hx
  clear hx
  obtain ⟨F4, hF4⟩ : ∃ F, CrcM.four x = F := ⟨_, rfl⟩
  rw [hF4] at HT H4 HL Z0 ⊢
  clear hF4
  go_enter Tryd.func52, Tryd.ntmps52
  go_wp2_with fail
  go_loopw [0, 1, 5] (fun vo vx vk wr => ∃ k : Nat, vk = .int .i64 (k : Int) ∧ k ≤ 4 ∧ vx = .int .u32 ((x / 256 ^ k : Nat) : Int) ∧ RowB 5 base wr vo (bs ++ F4.take k) ∧ w.grownBy wr v.ownBlock ∧ (∀ g, vo.ownBlock = some g → v.ownBlock = some g ∨ w.heap.size ≤ g)) (fun _ _ vk _ => 4 - (intOf vk).toNat)
  case atStart => exact ⟨0, rfl, by omega, by simp, by rw [Z0.out, List.append_nil]; exact H0.out, grownBy_refl _ _, fun g hg => .inl hg⟩
  case round =>
    clear h H0
    obtain ⟨k, rfl, hk, rfl, ho, hg, hn⟩ := hrel
    by_cases hlt : (k : Int) < 4
    · have hs := hg.size
      have lt := HL.out k
      have l1 : ((bs ++ F4.take k).map bv).length + 1 ≤ maxLen := by rw [List.length_map, List.length_append]; unfold maxLen; omega
      have l2 : (((bs ++ F4.take k).map bv).length + 1) * 1 ≤ 140737488355328 := by rw [List.length_map, List.length_append]; omega
      have hsz : base ≤ wr.heap.size := by omega
      have CT : Hid (bs ++ F4.take (k + 1) = bs ++ F4.take k ++ [x / 256 ^ k % 256]) := by show _ = _; rw [HT.out k (by omega), List.append_assoc]
      have DV : Hid (x / 256 ^ (k + 1) = x / 256 ^ k / 256) := by show _ = _; rw [Nat.pow_succ, Nat.div_div_eq_div_mul]
      have hy : x / 256 ^ k < 4294967296 := Nat.lt_of_le_of_lt (Nat.div_le_self _ _) HX.out
      generalize x / 256 ^ k = y at *
      clear lt
      go_wp2_with (at_builtin; refine wpList_pushN rfl (.tmp 7) (.tmp 10) 22 rfl 5 i0 (.int .u8 0) 1 underB hi hz0 hz1 hz2 rfl base _ _ _ rfl rfl ho hsz rfl l1 l2 ?_; intro v' w2 hown' hgr hnr)
      go_roundw
      case rel => exact ⟨k + 1, by go_num, by omega, by rw [DV.out]; simp, by rw [CT.out]; exact rowB_push hown' (by omega), grown_near hg hgr hn, fun g hg' => by
        rcases hnr g hg' with h1 | h1
        · exact hn g h1
        · exact .inr (by omega)⟩
      case measure => simp [intOf]; omega
    · obtain rfl : k = 4 := by omega
      go_wp2_with fail
      go_ret
      exact ⟨_, rfl, by rw [H4.out]; exact ho, hg⟩
end Go.Proofs.YtcmfehabcklbpaaDoor
