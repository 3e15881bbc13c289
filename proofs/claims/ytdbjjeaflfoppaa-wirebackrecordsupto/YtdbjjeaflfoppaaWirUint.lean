/-
  Ours: the program's Uint and Int.
-/
import Derived.Test.YtdbjjeaflfoppaaWirNum
import Derived.Laws.Bits64b
namespace Go.Proofs.Ytdbjjeaflfoppaa
open Go.RowKit

theorem andNot128 : ∀ n : Fin 256, bits BinOp.andNot IntKind.u8 (n.val : Int) 128 = (((n.val % 128 : Nat)) : Int) := by decide +kernel
theorem andNot128' (n : Nat) (h : n < 256) : bits BinOp.andNot IntKind.u8 (n : Int) 128 = (((n % 128 : Nat)) : Int) := andNot128 ⟨n, h⟩

theorem ret3 {a b c d : Int} {k l : IntKind} {p q : Bool} (h : a = c) (h' : b = d) (hp : p = q) : Ending.returned (.tuple #[.int k a, .int l b, .bool p]) = .returned (.tuple #[.int k c, .int l d, .bool q]) := by rw [h, h', hp]
theorem pow7 (i : Nat) : 2 ^ (7 * i) = 128 ^ i := by rw [Nat.pow_mul]
theorem orJoin (x c i : Nat) (hx : x < 128 ^ i) (h : c % 128 * 128 ^ i < 18446744073709551616) (hx2 : x < 18446744073709551616) : bits BinOp.or IntKind.u64 (x : Int) (IntKind.u64.wrap ((c : Int) % 128 * 2 ^ (7 * i))) = ((x + c % 128 * 128 ^ i : Nat) : Int) := by
  have e : (c : Int) % 128 * 2 ^ (7 * i) = ((c % 128 * 128 ^ i : Nat) : Int) := by
    rw [← pow7]; push_cast; rfl
  rw [e, IntKind.wrap_u64, show ((c % 128 * 128 ^ i : Nat) : Int) % 18446744073709551616 = ((c % 128 * 128 ^ i : Nat) : Int) by omega, bits_or_u64_nat _ _ hx2 h]
  rw [← pow7] at *
  rw [Nat.or_comm, Nat.mul_comm (c % 128), ← Nat.two_pow_add_eq_or_of_lt hx, Nat.add_comm]

theorem grp (c i : Nat) (hi : i ≤ 9) (h9 : ¬(i = 9 ∧ 1 < c)) : c % 128 * 128 ^ i < 18446744073709551616 := by
  by_cases e : i = 9
  · subst e
    have : c % 128 * 128 ^ 9 ≤ 1 * 128 ^ 9 := Nat.mul_le_mul_right _ (by omega)
    omega
  · obtain ⟨q, hq, _⟩ := pow9 (i := i + 1) (by omega)
    have p1 : 0 < 128 ^ i := Nat.pow_pos (by decide)
    have a1 : c % 128 * 128 ^ i < 128 * 128 ^ i := Nat.mul_lt_mul_of_pos_right (by omega) p1
    have a2 : 128 * 128 ^ i ≤ q * 128 ^ (i + 1) := by
      rw [Nat.pow_succ, Nat.mul_comm (128 ^ i) 128]
      exact Nat.le_mul_of_pos_left _ (by omega)
    omega
theorem grp2 (x c i : Nat) (hx : x < 128 ^ i) : x + c % 128 * 128 ^ i < 128 ^ (i + 1) := by
  have : c % 128 * 128 ^ i ≤ 127 * 128 ^ i := Nat.mul_le_mul_right _ (by omega)
  rw [Nat.pow_succ, Nat.mul_comm (128 ^ i) 128]; omega
theorem grp3 (x c i : Nat) (hi : i ≤ 9) (hx : x < 128 ^ i) (h9 : ¬(i = 9 ∧ 1 < c)) : x + c % 128 * 128 ^ i < 18446744073709551616 := by
  by_cases e : i = 9
  · subst e
    have : c % 128 * 128 ^ 9 ≤ 1 * 128 ^ 9 := Nat.mul_le_mul_right _ (by omega)
    omega
  · have h1 := grp2 x c i hx
    obtain ⟨q, hq, q2⟩ := pow9 (i := i + 1) (by omega)
    have : 128 ^ (i + 1) ≤ q * 128 ^ (i + 1) := Nat.le_mul_of_pos_left _ (by omega)
    omega

set_option maxRecDepth 20000 in
set_option maxHeartbeats 4000000 in
theorem uint_in (bs : List Nat) (k L cap g o : Nat) (w : World) (hb : ∀ c ∈ bs, c < 256) (hL : bs.length = L) (hk : k < L) (hl : L ≤ 140737488355328) (hcap : L ≤ cap) (h : RdB w (.slice (some ⟨g, o, none⟩) L cap) bs) :
    Calls Try.prog 43 #[.slice (some ⟨g, o, none⟩) L cap, .int .i64 (k : Int)] w fun e w' => e = rdAns (rd bs k) ∧ w' = w := by
  have RD : Hid (rd bs k = (rdL (bs.drop k) 0 0).map fun q => (q.1, k + q.2)) := by
    show rd bs k = _
    unfold rd; rw [if_pos ⟨by omega, by omega⟩, Int.toNat_natCast]
  have HH : Hid (∀ i (h : k + i < L), ∃ c, c < 256 ∧ w.cell? ⟨g, o + k + i, none⟩ = some (.int .u8 (c : Nat)) ∧ bs.drop (k + i) = c :: bs.drop (k + i + 1)) := fun i hi => by
    obtain ⟨ao', cap', e', _, _, h3⟩ := h
    obtain ⟨g', o', e1, _, e2⟩ := h3 (k + i) (by rw [List.length_map]; omega)
    cases e'
    cases e1
    refine ⟨bs[k + i], hb _ (List.getElem_mem _), ?_, List.drop_eq_getElem_cons (by omega)⟩
    rw [Nat.add_assoc, e2, List.getElem_map]; rfl
  have HL : Hid (bs.length = L) := hL
  have dA : decide ((k : Int) < 0) = false := decide_eq_false (by omega)
  have dB : decide (L < k) = false := decide_eq_false (by omega)
  have dC : (cap - k == 0) = false := by rw [beq_eq_false_iff_ne]; omega
  clear h hb hL
  go_enter Try.func43, Try.ntmps43
  go_wp2_with fail
  go_loopw [7, 22] (fun vx vi wr => wr = w ∧ ∃ (i x : Nat), vi = .int .i64 (i : Int) ∧ k + i ≤ L ∧ i ≤ 9 ∧ vx = .int .u64 (x : Int) ∧ x < 18446744073709551616 ∧ Hid (x < 128 ^ i ∧ rdL (bs.drop (k + i)) i x = rdL (bs.drop k) 0 0)) (fun _ vi _ => L - (intOf vi).toNat)
  case atStart => exact ⟨rfl, 0, 0, rfl, by omega, by omega, rfl, by omega, by decide, rfl⟩
  case round =>
    obtain ⟨rfl, i, x, rfl, hi, i9, rfl, hx, EQ⟩ := hrel
    by_cases hlt : (i : Int) < ((L - k : Nat) : Int)
    · obtain ⟨c, c256, cc, CD⟩ := HH.out i (by omega)
      have CD' : Hid (bs.drop (k + i) = c :: bs.drop (k + i + 1)) := CD
      clear CD
      have an := andNot128' c c256
      have R1 : Hid (rdL (bs.drop (k + i)) i x = if i = 9 ∧ 1 < c then none else if 128 ≤ c then rdL (bs.drop (k + i + 1)) (i + 1) (x + c % 128 * 128 ^ i) else if c = 0 ∧ 0 < i then none else some (x + c % 128 * 128 ^ i, i + 1)) := by
        show _ = _; rw [CD'.out, rdL]
      by_cases h9 : i = 9 ∧ 1 < c
      · obtain ⟨rfl, h9c⟩ := h9
        have c1' : (1 : Int) < (c : Int) := by omega
        have AN : Hid (rd bs k = none) := by
          show rd bs k = none
          rw [RD.out, ← EQ.out.2, R1.out, if_pos ⟨rfl, h9c⟩]; rfl
        clear R1 EQ CD'
        go_wp2_with fail
        go_ret3
        refine ⟨?_, rfl⟩
        rw [AN.out]; rfl
      · have OJ : Hid (bits BinOp.or IntKind.u64 (x : Int) (IntKind.u64.wrap ((c : Int) % 128 * 2 ^ (7 * i))) = ((x + c % 128 * 128 ^ i : Nat) : Int)) := orJoin x c i EQ.out.1 (grp c i i9 h9) hx
        have G3 : Hid (x + c % 128 * 128 ^ i < 18446744073709551616) := grp3 x c i i9 EQ.out.1 h9
        have dn : ((i : Int) == 9 && decide ((1 : Int) < (c : Int))) = false := by
          rw [Bool.and_eq_false_iff, beq_eq_false_iff_ne, decide_eq_false_iff_not]; omega
        by_cases c1 : 128 ≤ c
        · have i8 : i < 9 := by omega
          have d9 : ((i : Int) == 9) = false := by rw [beq_eq_false_iff_ne]; omega
          have c1' : (128 : Int) ≤ (c : Int) := by omega
          have G2 : Hid (x + c % 128 * 128 ^ i < 128 ^ (i + 1) ∧ rdL (bs.drop (k + (i + 1))) (i + 1) (x + c % 128 * 128 ^ i) = rdL (bs.drop k) 0 0) := by
            refine ⟨grp2 x c i EQ.out.1, ?_⟩
            rw [← EQ.out.2, R1.out, if_neg h9, if_pos c1]; rfl
          clear R1 EQ CD'
          go_wp2_with fail
          go_roundw
          case rel => exact ⟨trivial, i + 1, x + c % 128 * 128 ^ i, by go_num, by omega, by omega, by rw [OJ.out], G3.out, G2⟩
          case measure => simp [intOf]; omega
        · have c1' : (c : Int) < 128 := by omega
          have dc : decide ((128 : Int) ≤ (c : Int)) = false := decide_eq_false (by omega)
          by_cases c0 : c = 0 ∧ 0 < i
          · have AN : Hid (rd bs k = none) := by
              show rd bs k = none
              rw [RD.out, ← EQ.out.2, R1.out, if_neg h9, if_neg c1, if_pos c0]; rfl
            obtain ⟨rfl, i0⟩ := c0
            have i0' : (0 : Int) < (i : Int) := by omega
            clear R1 EQ CD'
            go_wp2_with fail
            all_goals
              go_ret3
              refine ⟨?_, rfl⟩
              rw [AN.out]; rfl
          · have AN : Hid (rd bs k = some (x + c % 128 * 128 ^ i, k + (i + 1))) := by
              show rd bs k = _
              rw [RD.out, ← EQ.out.2, R1.out, if_neg h9, if_neg c1, if_neg c0]; rfl
            by_cases e9 : i = 9
            · subst e9
              obtain rfl : c = 1 := by omega
              have OK : Hid (bits BinOp.or IntKind.u64 (x : Int) 9223372036854775808 = ((x + 1 % 128 * 128 ^ 9 : Nat) : Int)) := OJ.out
              clear R1 EQ CD' OJ
              go_wp2_with fail
              go_ret3
              refine ⟨?_, rfl⟩
              rw [AN.out]
              exact ret3 OK.out (by omega) rfl
            · have d9 : ((i : Int) == 9) = false := by rw [beq_eq_false_iff_ne]; omega
              by_cases z0 : c = 0
              · subst z0
                obtain rfl : i = 0 := by omega
                obtain rfl : x = 0 := by have := EQ.out.1; simp at this; omega
                have cc' : wr.cell? ⟨g, o + k, none⟩ = some (.int .u8 0) := cc
                have an' : bits BinOp.andNot IntKind.u8 0 128 = 0 := by decide
                clear R1 EQ CD' OJ cc an
                go_wp2_with fail
                go_ret3
                refine ⟨?_, rfl⟩
                rw [AN.out]
                exact ret3 (by decide) (by omega) rfl
              · have z1 : ((c : Int) == 0) = false := by rw [beq_eq_false_iff_ne]; omega
                clear R1 EQ CD'
                go_wp2_with fail
                go_ret3
                refine ⟨?_, rfl⟩
                rw [AN.out]
                exact ret3 OJ.out (by omega) rfl
    · have AN : Hid (rd bs k = none) := by
        show rd bs k = none
        rw [RD.out, ← EQ.out.2, List.drop_of_length_le (by have := HL.out; omega)]; rfl
      clear EQ
      go_wp2_with fail
      go_ret3
      refine ⟨?_, rfl⟩
      rw [AN.out]; rfl

set_option maxRecDepth 20000 in
set_option maxHeartbeats 2000000 in
theorem uint_at (bs : List Nat) (p : Int) (v : Value) (w : World) (hb : ∀ c ∈ bs, c < 256) (hl : bs.length ≤ 140737488355328) (p0 : -9223372036854775808 ≤ p) (p1 : p ≤ 9223372036854775807) (h : RdB w v bs) :
    Calls Try.prog 43 #[v, .int .i64 p] w fun e w' => e = rdAns (rd bs p) ∧ w' = w := by
  obtain ⟨L, hL⟩ : ∃ L, bs.length = L := ⟨_, rfl⟩
  obtain ⟨ao, cap, rfl, hcap, hn⟩ := h.len
  rw [List.length_map, hL] at hcap h ⊢
  rw [hL] at hl
  by_cases hp : p < 0
  · have e : rd bs p = none := by unfold rd; rw [if_neg (by omega)]
    rw [e]
    go_enter Try.func43, Try.ntmps43
    go_wp2_with fail
    go_ret3
    exact ⟨rfl, rfl⟩
  · have d1 : decide (p < 0) = false := decide_eq_false hp
    by_cases hp2 : (L : Int) < p
    · have e : rd bs p = none := by unfold rd; rw [if_neg (by omega)]
      rw [e]
      go_enter Try.func43, Try.ntmps43
      go_wp2_with fail
      go_ret3
      exact ⟨rfl, rfl⟩
    · obtain ⟨k, rfl⟩ := Int.eq_ofNat_of_zero_le (show 0 ≤ p by omega)
      by_cases hk : k < L
      · obtain ⟨g, o, rfl, _⟩ := h.addr (by omega)
        exact uint_in bs k L cap g o w hb hL hk hl hcap h
      · obtain rfl : k = L := by omega
        have AN : Hid (rd bs k = none) := by
          show rd bs k = none
          unfold rd; rw [if_pos ⟨by omega, by omega⟩, Int.toNat_natCast, List.drop_of_length_le (by omega)]; rfl
        have dA : decide ((k : Int) < 0) = false := decide_eq_false (by omega)
        have dB : decide (k < k) = false := decide_eq_false (by omega)
        clear h hb hL hp hp2 d1 hk
        by_cases hc : cap = k
        · subst hc
          go_enter Try.func43, Try.ntmps43
          go_wp2_with fail
          go_loopw [22] (fun vi wr => wr = w ∧ vi = .int .i64 0) (fun _ _ => 0)
          case atStart => exact ⟨rfl, rfl⟩
          case round =>
            obtain ⟨rfl, rfl⟩ := hrel
            go_wp2_with fail
            go_ret3
            refine ⟨?_, rfl⟩
            rw [AN.out]; rfl
        · cases ao with
          | none => have := hn rfl; omega
          | some ad =>
            go_enter Try.func43, Try.ntmps43
            go_wp2_with fail
            go_loopw [22] (fun vi wr => wr = w ∧ vi = .int .i64 0) (fun _ _ => 0)
            case atStart => exact ⟨rfl, rfl⟩
            case round =>
              obtain ⟨rfl, rfl⟩ := hrel
              go_wp2_with fail
              go_ret3
              refine ⟨?_, rfl⟩
              rw [AN.out]; rfl
end Go.Proofs.Ytdbjjeaflfoppaa
