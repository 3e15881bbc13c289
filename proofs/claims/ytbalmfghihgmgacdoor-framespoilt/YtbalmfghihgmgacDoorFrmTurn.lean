/-
  Ours: turn: one bit of a file.
-/
import Derived.Test.YtbalmfghihgmgacDoorFrmLaw2
namespace Go.Proofs.YtbalmfghihgmgacDoor
open Go.RowKit

def turnB (rs : List Nat) (j : Nat) : List Nat := rs.set (j / 8) (rs.getD (j / 8) 0 ^^^ 2 ^ (j % 8))
theorem turnB_len (rs : List Nat) (j : Nat) : (turnB rs j).length = rs.length := by simp [turnB]
theorem turnB_lt {rs : List Nat} (h : ∀ b ∈ rs, b < 256) (j : Nat) : ∀ b ∈ turnB rs j, b < 256 := by
  intro b hb
  rcases List.mem_or_eq_of_mem_set hb with h1 | h1
  · exact h b h1
  · rw [h1]
    exact Nat.xor_lt_two_pow (n := 8) (getD_lt h _) (Nat.pow_lt_pow_right (by decide) (by omega))
theorem turnB_num {rs : List Nat} {j : Nat} (h : j < 8 * rs.length) : CrcM.num (turnB rs j) = CrcM.num rs ^^^ 2 ^ j := by
  unfold turnB
  rw [CrcM.num_set _ _ _ (by omega), ← Nat.pow_add, show 8 * (j / 8) + j % 8 = j by omega]

set_option maxRecDepth 100000 in
set_option maxHeartbeats 1000000 in
theorem turn_at (rs : List Nat) (j base : Nat) (v : Value) (w : World) (hl : rs.length ≤ 1000000000) (hj : j < 8 * rs.length) (hb : ∀ b ∈ rs, b < 256) (h : RowB 5 base w v rs) :
    Calls Tryd.prog 16 #[v, .int .i64 (j : Int)] w fun e w' => (∃ u, e = .returned u) ∧ RowB 5 base w' v (turnB rs j) ∧ w.grownBy w' v.ownBlock := by
  have hL : (rs.map bv).length = rs.length := List.length_map ..
  obtain ⟨g, cap, rfl, hc, hcell, hfz⟩ := RowV.own h (by omega)
  have c1 := hcell (j / 8) (by omega)
  have f1 := hfz (j / 8)
  rw [getD_bv] at c1
  have hx := getD_lt hb (j / 8)
  have hp : 2 ^ (j % 8) < 256 := Nat.pow_lt_pow_right (n := 8) (by decide) (by omega)
  have E1 := xor8 _ _ hx hp
  have ET : turnB rs j = rs.set (j / 8) (rs.getD (j / 8) 0 ^^^ 2 ^ (j % 8)) := rfl
  generalize rs.getD (j / 8) 0 = x at *
  obtain ⟨L, hLL⟩ : ∃ L, (rs.map bv).length = L := ⟨_, rfl⟩
  rw [hLL] at h hc ⊢
  obtain ⟨r2, g2⟩ := rowV_set (i := j / 8) (u := .int .u8 ((x ^^^ 2 ^ (j % 8) : Nat) : Int)) hLL h
  rw [map_set_bv, ← ET] at r2
  have hm : j / 8 < L := by omega
  have hL9 : L ≤ 1000000000 := by omega
  have FIN : Hid ((∃ u : Value, Ending.returned (.tuple #[]) = .returned u) ∧ RowB 5 base (w.setCell ⟨g, j / 8, none⟩ (.int .u8 ((x ^^^ 2 ^ (j % 8) : Nat) : Int))) (.slice (some ⟨g, 0, none⟩) L cap) (turnB rs j) ∧ w.grownBy (w.setCell ⟨g, j / 8, none⟩ (.int .u8 ((x ^^^ 2 ^ (j % 8) : Nat) : Int))) (some g)) := ⟨⟨_, rfl⟩, r2, g2⟩
  have q1 : (j : Int) / 8 = ((j / 8 : Nat) : Int) := by omega
  have q2 : (j : Int) % 8 = ((j % 8 : Nat) : Int) := by omega
  have hk8 : j % 8 ≤ 7 := by omega
  have hj' : j < 8000000000 := by omega
  generalize (x ^^^ 2 ^ (j % 8)) = y at *
  clear r2 g2 h hcell hfz hb hL hLL hl ET
  generalize j / 8 = m at *
  generalize j % 8 = t at *
  go_enter Tryd.func16, Tryd.ntmps16
  go_wp2_with fail
  go_loopw [4, 5] (fun vb vk wr => ∃ k : Nat, wr = w ∧ vk = .int .i64 (k : Int) ∧ k ≤ t ∧ vb = .int .u8 ((2 ^ k : Nat) : Int)) (fun _ vk _ => t - (intOf vk).toNat)
  case atStart => exact ⟨0, rfl, rfl, by omega, rfl⟩
  case round =>
    obtain ⟨k, rfl, rfl, hk, rfl⟩ := hrel
    by_cases hlt : (k : Int) < (t : Int)
    · have hpk : 2 ^ k ≤ 64 := Nat.pow_le_pow_right (n := 2) (by decide) (show k ≤ 6 by omega)
      have HS : Hid (2 ^ (k + 1) = 2 ^ k * 2) := Nat.pow_succ ..
      generalize 2 ^ k = z at *
      go_wp2_with fail
      go_roundw
      case rel => exact ⟨k + 1, by trivial, by go_num, by omega, by rw [HS.out]; go_num⟩
      case measure => simp [intOf]; omega
    · obtain rfl : k = t := by omega
      generalize 2 ^ k = z at *
      go_wp2_with fail
      go_end0
      exact ⟨⟨_, rfl⟩, FIN.out.2⟩

/-- The bits that are turned, after i rounds. -/
def mskd (B M i : Nat) : Nat := B % 2 ^ (min i M)
theorem mskd_zero (B M : Nat) : mskd B M 0 = 0 := by unfold mskd; rw [Nat.zero_min, Nat.pow_zero, Nat.mod_one]
theorem mskd_no {B M i : Nat} (h : ¬ (B / 2 ^ i % 2 = 1) ∨ M ≤ i) : mskd B M (i + 1) = mskd B M i := by
  unfold mskd
  by_cases hM : M ≤ i
  · rw [Nat.min_eq_right hM, Nat.min_eq_right (by omega)]
  · rcases h with h | h
    · rw [Nat.min_eq_left (by omega), Nat.min_eq_left (by omega), Nat.pow_succ, Nat.mod_mul]
      have : B / 2 ^ i % 2 = 0 := by omega
      rw [this]; omega
    · omega
theorem mskd_yes {B M i : Nat} (h : B / 2 ^ i % 2 = 1) (hM : i < M) : mskd B M (i + 1) = mskd B M i + 2 ^ i ∧ mskd B M i < 2 ^ i := by
  unfold mskd
  rw [Nat.min_eq_left (by omega), Nat.min_eq_left (by omega)]
  refine ⟨?_, Nat.mod_lt _ (Nat.two_pow_pos i)⟩
  rw [Nat.pow_succ, Nat.mod_mul, h, Nat.mul_one]
theorem mskd_lt (B M i : Nat) : mskd B M i < 2 ^ (min i M) := Nat.mod_lt _ (Nat.two_pow_pos _)
theorem xor_pow {f i x : Nat} (h : x < 2 ^ i) : (2 ^ f * x) ^^^ 2 ^ (f + i) = 2 ^ f * (x + 2 ^ i) := by
  have e : x + 2 ^ i = x ^^^ 2 ^ i := by
    have h1 := xor_or (a := x) (x := 1) (k := i) h
    have h2 := or_add (a := x) (x := 1) (k := i) h
    rw [Nat.mul_one, Nat.one_mul] at h1
    rw [Nat.one_mul] at h2
    rw [h1, h2]
  rw [e, Nat.pow_add, Nat.mul_comm (2 ^ f) x, ← Nat.shiftLeft_eq, Nat.mul_comm (2 ^ f) (2 ^ i), ← Nat.shiftLeft_eq, ← Nat.shiftLeft_xor_distrib, Nat.shiftLeft_eq, Nat.mul_comm]

/-- The file after i rounds. -/
structure Spo (F : List Nat) (f B M i : Nat) (l : List Nat) : Prop where
  len : l.length = F.length
  lt : ∀ b ∈ l, b < 256
  num : CrcM.num l = CrcM.num F ^^^ (2 ^ f * mskd B M i)
theorem Spo.zero {F : List Nat} (h : ∀ b ∈ F, b < 256) (f B M : Nat) : Spo F f B M 0 F := ⟨rfl, h, by rw [mskd_zero, Nat.mul_zero, Nat.xor_zero]⟩
theorem Spo.no {F l : List Nat} {f B M i : Nat} (h : Spo F f B M i l) (hn : ¬ (B / 2 ^ i % 2 = 1) ∨ M ≤ i) : Spo F f B M (i + 1) l := ⟨h.len, h.lt, by rw [mskd_no hn]; exact h.num⟩
theorem Spo.yes {F l : List Nat} {f B M i : Nat} (h : Spo F f B M i l) (hy : B / 2 ^ i % 2 = 1) (hM : i < M) (hF : f + M ≤ 8 * F.length) : Spo F f B M (i + 1) (turnB l (f + i)) := by
  obtain ⟨m1, m2⟩ := mskd_yes hy hM
  refine ⟨by rw [turnB_len, h.len], turnB_lt h.lt _, ?_⟩
  rw [turnB_num (by rw [h.len]; omega), h.num, m1, Nat.xor_assoc, xor_pow m2]
theorem Spo.end {p q l : List Nat} {f B : Nat} (hp : p.length ≤ 4194304) (hpb : ∀ b ∈ p, b < 256) (hqb : ∀ b ∈ q, b < 256) (h32 : 32 ≤ f) (hf : f < 8 * (p.length + 8)) (h : Spo (CrcM.enc p ++ q) f B (8 * (p.length + 8) - f) 32 l) (h0 : mskd B (8 * (p.length + 8) - f) 32 ≠ 0) :
    CrcM.whole l = (0, 3) := by
  have lt := mskd_lt B (8 * (p.length + 8) - f) 32
  refine CrcM.whole_spoilt hp hpb hqb h.len h.lt h32 (x := mskd B (8 * (p.length + 8) - f) 32) ?_ h0 ?_ h.num
  · exact Nat.lt_of_lt_of_le lt (Nat.pow_le_pow_right (by decide) (Nat.min_le_left _ _))
  · have h1 : 2 ^ f * mskd B (8 * (p.length + 8) - f) 32 < 2 ^ f * 2 ^ (8 * (p.length + 8) - f) := Nat.mul_lt_mul_of_pos_left (Nat.lt_of_lt_of_le lt (Nat.pow_le_pow_right (by decide) (Nat.min_le_right _ _))) (Nat.two_pow_pos f)
    rw [← Nat.pow_add, show f + (8 * (p.length + 8) - f) = 8 * (p.length + 8) by omega] at h1
    exact h1
end Go.Proofs.YtbalmfghihgmgacDoor
