/-
  Ours: the reference's copied, joined, upTo.
-/
import Derived.Test.YtiefnomldfhhnaaDskRefP
import Derived.Test.YtiefnomldfhhnaaDskCat
namespace Go.Proofs.Ytiefnomldfhhnaa
open Go.RowKit

theorem rdB_cells {w : World} {ao : Option Addr} {L cap : Nat} {bs : List Nat} (h : RdB w (.slice ao L cap) bs) (k : Nat) (hk : k < L) : ∃ g o, ao = some ⟨g, o, none⟩ ∧ (∀ w', Below w.heap.size w w' → w'.cell? ⟨g, o + k, none⟩ = some (.int .u8 ((bs.getD k 0 : Nat) : Int))) ∧ bs.take (k + 1) = bs.take k ++ [bs.getD k 0] := by
  obtain ⟨ao', cap', e, _, _, HR⟩ := h
  injection e with e1 e2 e3
  rw [List.length_map] at e2
  subst e1 e3
  obtain ⟨g, o, e1, lt, hc⟩ := HR k (by rw [List.length_map]; omega)
  refine ⟨g, o, e1, fun w' hb => ?_, ?_⟩
  · rw [hb.cell (p := ⟨g, o + k, none⟩) lt, hc, List.getElem_map, List.getD_eq_getElem?_getD, List.getElem?_eq_getElem (by omega)]; rfl
  · rw [List.take_add_one, List.getD_eq_getElem?_getD, List.getElem?_eq_getElem (by omega)]; rfl

theorem rowB_psh {e : TypeId} {base : Nat} {w : World} {v : Value} {bs : List Nat} {c : Int} {d : Nat} (h : RowV e base w v (bs.map bv ++ [.int .u8 c])) (hc : c = (d : Int)) : RowB e base w v (bs ++ [d]) := by
  subst hc
  unfold RowB
  rw [List.map_append]
  exact h

set_option maxRecDepth 20000 in
set_option maxHeartbeats 1000000 in
theorem rcopied_at (bs : List Nat) (v : Value) (w : World) (hl : bs.length ≤ 1000000000) (h : RdB w v bs) : Calls Try.prog 42 #[v] w (NewB w bs) := by
  obtain ⟨i0, hi, hz0, hz1, hz2⟩ := info_parts infoB
  obtain ⟨ao, cap, rfl, hcap, _⟩ := h.len
  rw [List.length_map] at h hcap ⊢
  obtain ⟨L, hL⟩ : ∃ L, bs.length = L := ⟨_, rfl⟩
  rw [hL] at h hcap hl ⊢
  have HH : Hid (∀ k, k < L → ∃ g o, ao = some ⟨g, o, none⟩ ∧ (∀ w', Below w.heap.size w w' → w'.cell? ⟨g, o + k, none⟩ = some (.int .u8 ((bs.getD k 0 : Nat) : Int))) ∧ bs.take (k + 1) = bs.take k ++ [bs.getD k 0]) := fun k hk => rdB_cells h k hk
  have HLL : Hid (bs.length = L) := hL
  clear h hL
  go_enter Try.func42, Try.ntmps42
  go_wp2_with fail
  go_loopw [3, 4] (fun v vk wr => ∃ k : Nat, vk = .int .i64 (k : Int) ∧ k ≤ L ∧ RowB 5 w.heap.size wr v (bs.take k) ∧ Below w.heap.size w wr) (fun _ vk _ => L - (intOf vk).toNat)
  case atStart => exact ⟨0, rfl, by omega, RowV.nil _ _ _, Below.refl _ _⟩
  case round =>
    obtain ⟨k, rfl, hk, hown, hnx⟩ := hrel
    have hsz := hnx.size
    have lt : (bs.take k).length = k := by have := HLL.out; simp; omega
    have l1 : ((bs.take k).map bv).length + 1 ≤ maxLen := by rw [List.length_map, lt]; unfold maxLen; omega
    have l2 : (((bs.take k).map bv).length + 1) * 1 ≤ 140737488355328 := by rw [List.length_map, lt]; omega
    clear lt
    by_cases hlt : (k : Int) < (L : Int)
    · obtain ⟨g, o, rfl, cc, ct⟩ := HH.out k (by omega)
      have c2 := cc wr hnx
      have CT : Hid (bs.take (k + 1) = bs.take k ++ [bs.getD k 0]) := ct
      clear ct cc
      generalize bs.getD k 0 = x at *
      go_wp2_with (at_builtin; refine wpList_pushV rfl (.tmp 11) (.tmp 16) 22 rfl 5 i0 (.int .u8 0) 1 underB hi hz0 hz1 hz2 rfl w.heap.size _ _ _ rfl rfl hown hsz rfl l1 l2 ?_; intro v' w1 hown' hgr)
      have hb : Below w.heap.size w w1 := below_grown hnx hown (Nat.le_refl _) hsz hgr
      go_roundw
      case rel => exact ⟨k + 1, by go_num, by omega, by rw [CT.out]; exact rowB_psh hown' rfl, hb⟩
      case measure => simp [intOf]; omega
    · obtain rfl : k = L := by omega
      have HF : Hid (bs.take k = bs) := List.take_of_length_le (by have := HLL.out; omega)
      go_wp2_with fail
      go_ret
      refine ⟨_, rfl, ?_, hnx⟩
      rw [HF.out] at hown; exact hown

set_option maxRecDepth 20000 in
set_option maxHeartbeats 1000000 in
theorem rjoined_at (xs bs : List Nat) (u v : Value) (w : World) (hx : xs.length ≤ 1000000000) (hl : bs.length ≤ 1000000000) (h0 : RdB w u xs) (h : RdB w v bs) : Calls Try.prog 46 #[u, v] w (NewB w (xs ++ bs)) := by
  obtain ⟨i0, hi, hz0, hz1, hz2⟩ := info_parts infoB
  obtain ⟨ao, cap, rfl, hcap, _⟩ := h.len
  rw [List.length_map] at h hcap ⊢
  obtain ⟨L, hL⟩ : ∃ L, bs.length = L := ⟨_, rfl⟩
  rw [hL] at h hcap hl ⊢
  have HH : Hid (∀ k, k < L → ∃ g o, ao = some ⟨g, o, none⟩ ∧ (∀ w', Below w.heap.size w w' → w'.cell? ⟨g, o + k, none⟩ = some (.int .u8 ((bs.getD k 0 : Nat) : Int))) ∧ bs.take (k + 1) = bs.take k ++ [bs.getD k 0]) := fun k hk => rdB_cells h k hk
  have HLL : Hid (bs.length = L) := hL
  have CP : Hid (Calls _ _ _ _ _) := rcopied_at xs u w hx h0
  clear h hL h0
  go_enter Try.func46, Try.ntmps46
  go_wp2_with fail
  refine CP.out.mono ?_
  rintro e w1 ⟨v1, rfl, r1, b1⟩
  go_wp2_with fail
  go_loopw [5, 6] (fun v vk wr => ∃ k : Nat, vk = .int .i64 (k : Int) ∧ k ≤ L ∧ RowB 5 w.heap.size wr v (xs ++ bs.take k) ∧ Below w.heap.size w wr) (fun _ vk _ => L - (intOf vk).toNat)
  case atStart => exact ⟨0, rfl, by omega, by rw [List.take_zero, List.append_nil]; exact r1, b1⟩
  case round =>
    obtain ⟨k, rfl, hk, hown, hnx⟩ := hrel
    have hsz := hnx.size
    have lt : (xs ++ bs.take k).length = xs.length + k := by have := HLL.out; simp; omega
    have l1 : ((xs ++ bs.take k).map bv).length + 1 ≤ maxLen := by rw [List.length_map, lt]; unfold maxLen; omega
    have l2 : (((xs ++ bs.take k).map bv).length + 1) * 1 ≤ 140737488355328 := by rw [List.length_map, lt]; omega
    clear lt
    by_cases hlt : (k : Int) < (L : Int)
    · obtain ⟨g, o, rfl, cc, ct⟩ := HH.out k (by omega)
      have c2 := cc wr hnx
      have CT : Hid (bs.take (k + 1) = bs.take k ++ [bs.getD k 0]) := ct
      clear ct cc
      generalize bs.getD k 0 = x at *
      go_wp2_with (at_builtin; refine wpList_pushV rfl (.tmp 15) (.tmp 20) 22 rfl 5 i0 (.int .u8 0) 1 underB hi hz0 hz1 hz2 rfl w.heap.size _ _ _ rfl rfl hown hsz rfl l1 l2 ?_; intro v' w1 hown' hgr)
      have hb : Below w.heap.size w w1 := below_grown hnx hown (Nat.le_refl _) hsz hgr
      go_roundw
      case rel => exact ⟨k + 1, by go_num, by omega, by rw [CT.out, ← List.append_assoc]; exact rowB_psh hown' rfl, hb⟩
      case measure => simp [intOf]; omega
    · obtain rfl : k = L := by omega
      have HF : Hid (bs.take k = bs) := List.take_of_length_le (by have := HLL.out; omega)
      go_wp2_with fail
      go_ret
      refine ⟨_, rfl, ?_, hnx⟩
      rw [HF.out] at hown; exact hown

set_option maxRecDepth 20000 in
set_option maxHeartbeats 1000000 in
theorem rupTo_at (bs : List Nat) (v : Value) (n : Nat) (w : World) (hn : n ≤ 1000000000) (hl : bs.length ≤ 1000000000) (h : RdB w v bs) : Calls Try.prog 20 #[v, .int .i64 (n : Int)] w (NewB w (bs.take n)) := by
  obtain ⟨ao, cap, rfl, hcap, _⟩ := h.len
  rw [List.length_map] at h hcap ⊢
  obtain ⟨L, hL⟩ : ∃ L, bs.length = L := ⟨_, rfl⟩
  rw [hL] at h hcap hl ⊢
  by_cases hc : (L : Int) ≤ (n : Int)
  · have CP : Hid (Calls _ _ _ _ _) := rcopied_at bs _ w (by omega) h
    rw [List.take_of_length_le (by omega)]
    have d1 : decide ((L : Int) ≤ (n : Int)) = true := decide_eq_true hc
    clear h
    go_enter Try.func20, Try.ntmps20
    go_wp2_with fail
    refine CP.out.mono ?_
    rintro e w1 ⟨v1, rfl, R1⟩
    have R1 : Hid _ := R1
    go_wp2_with fail
    go_ret
    exact ⟨v1, rfl, R1.out⟩
  · have h2 : RdB w (.slice ao n cap) (bs.take n) := by
      have := Rd.cut h (k := n) (by omega)
      rw [← List.map_take] at this; exact this
    have CP : Hid (Calls _ _ _ _ _) := rcopied_at (bs.take n) _ w (by rw [List.length_take]; omega) h2
    have d1 : decide ((L : Int) ≤ (n : Int)) = false := decide_eq_false hc
    have hnc : n ≤ cap := by omega
    clear h h2
    go_enter Try.func20, Try.ntmps20
    go_wp2_with fail
    refine CP.out.mono ?_
    rintro e w1 ⟨v1, rfl, R1⟩
    have R1 : Hid _ := R1
    go_wp2_with fail
    go_ret
    exact ⟨v1, rfl, R1.out⟩
end Go.Proofs.Ytiefnomldfhhnaa
