/-
  Ours: the reference's number, There, piece, Decode.
-/
import Derived.Test.YteflbdlfjebccaaDoorFrmDec
import Derived.Test.YteflbdlfjebccaaDoorFrmRef
namespace Go.Proofs.YteflbdlfjebccaaDoor
open Go.RowKit

theorem num_drop {l : List Nat} (hb : ∀ b ∈ l, b < 256) {i : Nat} (h : i < l.length) : CrcM.num (l.drop i) = CrcM.num (l.drop (i + 1)) * 256 + l.getD i 0 := by
  have e : l.drop i = l.getD i 0 :: l.drop (i + 1) := by rw [List.getD_eq_getElem?_getD, List.getElem?_eq_getElem h]; exact List.drop_eq_getElem_cons h
  rw [e, CrcM.num_cons (getD_lt hb i)]
  omega
theorem getD_drop_take (bs : List Nat) (a n i : Nat) (h : i < n) : ((bs.drop a).take n).getD i 0 = bs.getD (a + i) 0 := by
  simp only [List.getD_eq_getElem?_getD, List.getElem?_take, List.getElem?_drop, if_pos h]

set_option maxHeartbeats 600000 in
theorem rnumber_at (bs : List Nat) (A : Nat) (v : Value) (w : World) (hb : ∀ b ∈ bs, b < 256) (hl : bs.length ≤ 1000000000000) (hA : A + 4 ≤ bs.length) (h : RdB w v bs) :
    Calls Tryd.prog 19 #[v, .int .i64 (A : Int)] w fun e w' => e = .returned (.int .i64 ((CrcM.num ((bs.drop A).take 4) : Nat) : Int)) ∧ w' = w := by
  obtain ⟨ao, cap, rfl, _, _⟩ := h.len
  obtain ⟨L, hL⟩ : ∃ L, (bs.map bv).length = L := ⟨_, rfl⟩
  rw [hL] at h ⊢
  obtain ⟨n1, hc, H⟩ := h.at
  obtain ⟨l, hl4⟩ : ∃ l, (bs.drop A).take 4 = l := ⟨_, rfl⟩
  have lb : ∀ b ∈ l, b < 256 := fun b hb' => hb b (List.mem_of_mem_drop (List.mem_of_mem_take (hl4 ▸ hb')))
  have ll : l.length = 4 := by rw [← hl4, List.length_take, List.length_drop]; omega
  have HH : Hid (∀ k, k < 4 → ∃ g o, ao = some ⟨g, o, none⟩ ∧ w.cell? ⟨g, o + (A + k), none⟩ = some (.int .u8 ((l.getD k 0 : Nat) : Int))) := fun k hk => by
    obtain ⟨g, o, e1, e2⟩ := H (A + k) (by omega)
    refine ⟨g, o, e1, ?_⟩
    rw [e2, ← hl4, getD_drop_take _ _ _ _ hk]
  have HX : Hid (∀ k, l.getD k 0 < 256) := getD_lt lb
  have HN : Hid (∀ k, k < 4 → CrcM.num (l.drop k) = CrcM.num (l.drop (k + 1)) * 256 + l.getD k 0) := fun k hk => num_drop lb (by omega)
  have HB : Hid (∀ k, CrcM.num (l.drop k) < 4294967296) := fun k => by
    have lt := CrcM.num_lt (l.drop k) (fun b h => lb b (List.mem_of_mem_drop h))
    have : 2 ^ (8 * (l.drop k).length) ≤ 2 ^ 32 := Nat.pow_le_pow_right (by decide) (by rw [List.length_drop]; omega)
    omega
  have Z4 : Hid (CrcM.num (l.drop 4) = 0) := by show _ = _; rw [List.drop_of_length_le (by omega)]; exact num_nil
  have Z0 : Hid (CrcM.num l = CrcM.num (l.drop 0)) := rfl
  rw [hl4]
  have hA' : A + 4 ≤ L := by omega
  have hL' : L ≤ 1000000000000 := by omega
  clear H h hb hL n1 hA hl hl4 lb ll hc
  go_enter Tryd.func19, Tryd.ntmps19
  go_wp2_with fail
  go_loopw [5, 6] (fun vn vk wr => ∃ k : Nat, wr = w ∧ vk = .int .i64 ((k : Int) - 1) ∧ k ≤ 4 ∧ vn = .int .i64 ((CrcM.num (l.drop k) : Nat) : Int)) (fun _ vk _ => (intOf vk + 1).toNat)
  case atStart => exact ⟨4, rfl, rfl, by omega, by rw [Z4.out]; rfl⟩
  case round =>
    obtain ⟨k, rfl, rfl, hk, rfl⟩ := hrel
    by_cases h0 : k = 0
    · subst h0
      go_wp2_with fail
      go_ret
      exact ⟨by rw [Z0.out]; rfl, rfl⟩
    · obtain ⟨j, rfl⟩ : ∃ j, k = j + 1 := ⟨k - 1, by omega⟩
      obtain ⟨g, o, rfl, c0⟩ := HH.out j (by omega)
      have hx := HX.out j
      have HN' : Hid (CrcM.num (l.drop j) = CrcM.num (l.drop (j + 1)) * 256 + l.getD j 0) := HN.out j (by omega)
      have hy := HB.out (j + 1)
      have hj : j < 4 := by omega
      generalize l.getD j 0 = x at *
      generalize CrcM.num (l.drop (j + 1)) = y at *
      have ej : ((j + 1 : Nat) : Int) - 1 = (j : Int) := by omega
      rw [ej]
      clear ej h0 hk
      go_wp2_with fail
      go_roundw
      case rel => exact ⟨j, by trivial, by go_num, by omega, by rw [HN'.out]; go_num⟩
      case measure => simp [intOf]

def thereL (l : List Nat) : Bool × Nat × Nat := if (CrcM.whole l).1 = 0 then (false, 0, (CrcM.whole l).2) else (true, (CrcM.whole l).1 - 8, 0)
theorem there_no {l : List Nat} {t : Nat} (h : CrcM.whole l = (0, t)) : thereL l = (false, 0, t) := by unfold thereL; rw [h, if_pos rfl]
theorem there_yes {l : List Nat} {n : Nat} (h : CrcM.whole l = (n + 8, 0)) : thereL l = (true, n, 0) := by unfold thereL; rw [h, if_neg (by simp)]; rfl
def ThereIs (l : List Nat) (w : World) (e : Ending) (w' : World) : Prop := e = .returned (.tuple #[.bool (thereL l).1, .int .i64 (((thereL l).2.1 : Nat) : Int), .int .i64 (((thereL l).2.2 : Nat) : Int)]) ∧ ∃ n, w' = w.drewN n

set_option maxHeartbeats 1000000 in
theorem rthere_at (bs : List Nat) (A : Nat) (v : Value) (w : World) (hb : ∀ b ∈ bs, b < 256) (hl : bs.length ≤ 1000000000000) (hA : A ≤ bs.length) (h : RdB w v bs) :
    Calls Tryd.prog 12 #[v, .int .i64 (A : Int)] w (ThereIs (bs.drop A) w) := by
  obtain ⟨ao, cap, rfl, hcap, _⟩ := h.len
  have hl0 : (bs.map bv).length = bs.length := List.length_map ..
  rw [hl0] at h hcap ⊢
  have wl : (bs.drop A).length = bs.length - A := List.length_drop ..
  have wb : ∀ b ∈ bs.drop A, b < 256 := fun b hb' => hb b (List.mem_of_mem_drop hb')
  unfold ThereIs
  by_cases h0 : bs.length - A = 0
  · rw [there_no (whole_0 (by omega))]
    have g1 : ((bs.length : Int) - (A : Int) == 0) = true := beq_iff_eq.2 (by omega)
    generalize bs.length = L at *
    clear h hb wb wl hl0
    go_enter Tryd.func12, Tryd.ntmps12
    go_wp2_with fail
    go_ret3
    exact ⟨rfl, 0, rfl⟩
  have g1 : ((bs.length : Int) - (A : Int) == 0) = false := beq_eq_false_iff_ne.2 (by omega)
  by_cases h1 : (bs.length : Int) - (A : Int) < 4
  · rw [there_no (whole_1 (by omega) (by omega))]
    generalize bs.length = L at *
    clear h hb wb wl hl0
    go_enter Tryd.func12, Tryd.ntmps12
    go_wp2_with fail
    go_ret3
    exact ⟨rfl, 0, rfl⟩
  have W1 : Hid (Calls Tryd.prog 19 #[.slice ao bs.length cap, .int .i64 (A : Int)] w fun e w' => e = .returned (.int .i64 ((CrcM.num ((bs.drop A).take 4) : Nat) : Int)) ∧ w' = w) := rnumber_at bs A _ w hb hl (by omega) h
  have hn := num_lt32 wb (k := 4) (by omega)
  have h0' : 4 ≤ (bs.drop A).length := by omega
  by_cases h2 : (4194304 : Int) < ((CrcM.num ((bs.drop A).take 4) : Nat) : Int)
  · rw [there_no (whole_2 h0' (by omega))]
    clear h hb wb wl hl0
    generalize CrcM.num ((bs.drop A).take 4) = N at *
    generalize bs.length = L at *
    go_enter Tryd.func12, Tryd.ntmps12
    go_wp2_with fail
    refine W1.out.mono ?_
    rintro e w2 ⟨rfl, rfl⟩
    go_wp2_with fail
    go_ret3
    exact ⟨rfl, 0, rfl⟩
  by_cases h3 : (bs.length : Int) - (A : Int) < ((CrcM.num ((bs.drop A).take 4) : Nat) : Int) + 8
  · rw [there_no (whole_3 h0' (by omega) (by omega))]
    clear h hb wb wl hl0
    generalize CrcM.num ((bs.drop A).take 4) = N at *
    generalize bs.length = L at *
    go_enter Tryd.func12, Tryd.ntmps12
    go_wp2_with fail
    refine W1.out.mono ?_
    rintro e w2 ⟨rfl, rfl⟩
    go_wp2_with fail
    go_ret3
    exact ⟨rfl, 0, rfl⟩
  have X4 := whole_4 (l := bs.drop A) h0' (by omega) (by omega)
  have X5 := whole_5 (l := bs.drop A) h0' (by omega) (by omega)
  generalize hN : CrcM.num ((bs.drop A).take 4) = N at *
  obtain ⟨g, o, eao⟩ : ∃ g o, ao = some ⟨g, o, none⟩ := by
    obtain ⟨_, _, H⟩ := h.at
    obtain ⟨g, o, e, _⟩ := H A (by omega)
    exact ⟨g, o, e⟩
  subst eao
  have SM : Hid (∀ n, Calls Tryd.prog 20 #[.slice (some ⟨g, o + A, none⟩) (A + 4 + N - A) (cap - A)] (w.drewN n) fun e w' => e = .returned (.int .u32 ((CrcM.sum ((bs.drop A).take (N + 4)) : Nat) : Int)) ∧ w' = w.drewN n) := fun n => by
    have r0 := Rd.tail (k := A) (ad := some ⟨g, o + A, none⟩) h hA (fun g' o' e _ => by cases e; rfl) (fun e => by cases e)
    have r := Rd.cut (k := N + 4) r0 (by omega)
    rw [← List.map_drop, ← List.map_take] at r
    rw [show A + 4 + N - A = N + 4 by omega]
    exact rsum_at _ _ (w.drewN n) (fun b hb' => wb b (List.mem_of_mem_take hb')) (by rw [List.length_take]; omega) (Rd.drewN r n)
  have W2 : Hid (∀ n, Calls Tryd.prog 19 #[.slice (some ⟨g, o, none⟩) bs.length cap, .int .i64 ((A : Int) + 4 + (N : Int))] (w.drewN n) fun e w' => e = .returned (.int .i64 ((CrcM.num (((bs.drop A).drop (N + 4)).take 4) : Nat) : Int)) ∧ w' = w.drewN n) := fun n => by
    have := rnumber_at bs (A + (N + 4)) _ (w.drewN n) hb hl (by omega) (Rd.drewN h n)
    rw [show ((A + (N + 4) : Nat) : Int) = (A : Int) + 4 + (N : Int) by omega] at this
    rw [List.drop_drop]
    exact this
  have b1 : A + (N + 4) + 4 ≤ bs.length := by omega
  have b3 : bs.length ≤ 1000000000000 := hl
  clear h hb hl0 hl hN wb wl h0'
  by_cases h4 : ((CrcM.num (((bs.drop A).drop (N + 4)).take 4) : Nat) : Int) = ((CrcM.sum ((bs.drop A).take (N + 4)) : Nat) : Int)
  · rw [there_yes (X5 (by omega))]
    rw [h4] at W2
    have hS : CrcM.sum ((bs.drop A).take (N + 4)) < 4294967296 := CrcM.sum_lt
    clear X4 X5 h4
    generalize CrcM.sum ((bs.drop A).take (N + 4)) = S at *
    generalize bs.length = L at *
    have e0 : ((S : Int) != (S : Int)) = false := by simp
    go_enter Tryd.func12, Tryd.ntmps12
    go_wp2_with fail
    refine W1.out.mono ?_
    rintro e w2 ⟨rfl, rfl⟩
    go_wp2_with fail
    go_quiet ((first | (go_at_call 19; exact Calls.quiet_of_same (W2.out _)) | (go_at_call 20; exact Calls.quiet_of_same (SM.out _))))
    go_wp2_with fail
    go_ret3
    exact ⟨rfl, nq, rfl⟩
  · rw [there_no (X4 (by omega))]
    have hS : CrcM.sum ((bs.drop A).take (N + 4)) < 4294967296 := CrcM.sum_lt
    have e0 : (((CrcM.num (((bs.drop A).drop (N + 4)).take 4) : Nat) : Int) != ((CrcM.sum ((bs.drop A).take (N + 4)) : Nat) : Int)) = true := bne_iff_ne.2 h4
    clear X4 X5 h4
    generalize CrcM.num (((bs.drop A).drop (N + 4)).take 4) = T at *
    generalize CrcM.sum ((bs.drop A).take (N + 4)) = S at *
    generalize bs.length = L at *
    go_enter Tryd.func12, Tryd.ntmps12
    go_wp2_with fail
    refine W1.out.mono ?_
    rintro e w2 ⟨rfl, rfl⟩
    go_wp2_with fail
    go_quiet ((first | (go_at_call 19; exact Calls.quiet_of_same (W2.out _)) | (go_at_call 20; exact Calls.quiet_of_same (SM.out _))))
    go_wp2_with fail
    go_ret3
    exact ⟨rfl, nq, rfl⟩

set_option maxHeartbeats 600000 in
theorem rpiece_at (bs : List Nat) (A N : Nat) (v : Value) (w : World) (hl : bs.length ≤ 1000000000000) (hA : A + N ≤ bs.length) (h : RdB w v bs) :
    Calls Tryd.prog 13 #[v, .int .i64 (A : Int), .int .i64 (N : Int)] w (NewB w ((bs.drop A).take N)) := by
  obtain ⟨i0, hi, hz0, hz1, hz2⟩ := info_parts infoB
  obtain ⟨ao, cap, rfl, hcap, _⟩ := h.len
  obtain ⟨L, hL⟩ : ∃ L, (bs.map bv).length = L := ⟨_, rfl⟩
  rw [hL] at h hcap ⊢
  obtain ⟨n1, hc, H⟩ := h.at
  obtain ⟨l, hl4⟩ : ∃ l, (bs.drop A).take N = l := ⟨_, rfl⟩
  have ll : l.length = N := by rw [← hl4, List.length_take, List.length_drop]; omega
  have HH : Hid (∀ k, k < N → ∃ g o, ao = some ⟨g, o, none⟩ ∧ (∀ w', Below w.heap.size w w' → w'.cell? ⟨g, o + (A + k), none⟩ = some (.int .u8 ((l.getD k 0 : Nat) : Int))) ∧ l.take (k + 1) = l.take k ++ [l.getD k 0]) := fun k hk => by
    obtain ⟨ao', cap', e, _, _, HR⟩ := h
    injection e with e1 e2 e3
    subst e1 e3
    obtain ⟨g, o, e1, lt, _⟩ := HR (A + k) (by omega)
    obtain ⟨g', o', e2, e3⟩ := H (A + k) (by omega)
    rw [e1] at e2
    cases e2
    refine ⟨g, o, e1, fun w' hb => ?_, ?_⟩
    · rw [hb.cell (p := ⟨g, o + (A + k), none⟩) lt, e3, ← hl4, getD_drop_take _ _ _ _ hk]
    · rw [List.take_add_one, List.getD_eq_getElem?_getD, List.getElem?_eq_getElem (by omega)]; rfl
  have HF : Hid (l.take N = l) := List.take_of_length_le (by omega)
  have HLL : Hid (l.length = N) := ll
  rw [hl4]
  have hA' : A + N ≤ L := by omega
  have hL' : L ≤ 1000000000000 := by omega
  clear H h hL n1 hA hl hl4 ll hc
  go_enter Tryd.func13, Tryd.ntmps13
  go_wp2_with fail
  go_loopw [7, 8] (fun v vk wr => ∃ k : Nat, vk = .int .i64 (k : Int) ∧ k ≤ N ∧ RowB 5 w.heap.size wr v (l.take k) ∧ Below w.heap.size w wr) (fun _ vk _ => N - (intOf vk).toNat)
  case atStart => exact ⟨0, rfl, by omega, RowV.nil _ _ _, Below.refl _ _⟩
  case round =>
    obtain ⟨k, rfl, hk, hown, hnx⟩ := hrel
    have hsz := hnx.size
    have lt : (l.take k).length = k := by have := HLL.out; simp; omega
    have l1 : ((l.take k).map bv).length + 1 ≤ maxLen := by rw [List.length_map, lt]; unfold maxLen; omega
    have l2 : (((l.take k).map bv).length + 1) * 1 ≤ 140737488355328 := by rw [List.length_map, lt]; omega
    clear lt
    by_cases hlt : (k : Int) < (N : Int)
    · obtain ⟨g, o, rfl, cc, ct⟩ := HH.out k (by omega)
      have c2 := cc wr hnx
      have CT : Hid (l.take (k + 1) = l.take k ++ [l.getD k 0]) := ct
      clear ct cc
      generalize l.getD k 0 = x at *
      go_wp2_with (at_builtin; refine wpList_pushV rfl (.tmp 14) (.tmp 21) 22 rfl 5 i0 (.int .u8 0) 1 underB hi hz0 hz1 hz2 rfl w.heap.size _ _ _ rfl rfl hown hsz rfl l1 l2 ?_; intro v' w1 hown' hgr)
      have hb : Below w.heap.size w w1 := below_grown hnx hown (Nat.le_refl _) hsz hgr
      go_roundw
      case rel => exact ⟨k + 1, by go_num, by omega, by rw [CT.out]; exact rowB_push hown' rfl, hb⟩
      case measure => simp [intOf]; omega
    · obtain rfl : k = N := by omega
      go_wp2_with fail
      go_ret
      refine ⟨_, rfl, ?_, hnx⟩
      rw [HF.out] at hown; exact hown
end Go.Proofs.YteflbdlfjebccaaDoor
