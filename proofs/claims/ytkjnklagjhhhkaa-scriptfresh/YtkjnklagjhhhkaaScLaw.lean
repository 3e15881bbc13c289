/-
  Ours: the statements' helpers same, copied, alike.
-/
import Derived.Test.YtkjnklagjhhhkaaScOwn
import Derived.Deep.QuietTactic
import Derived.BigQuiet
namespace Go.Proofs.Ytkjnklagjhhhkaa
open Go.RowKit

set_option maxHeartbeats 2000000 in
theorem same_at (xs ys : List Nat) (va vb : Value) (w : World) (hl : xs.length ≤ 140737488355328) (h : RdB w va xs) (h' : RdB w vb ys) :
    Calls Try.prog 7 #[va, vb] w fun e w' => e = .returned (.bool (decide (xs = ys))) ∧ ∃ n, w' = w.drewN n := by
  obtain ⟨ao, cap, rfl, hc, hn, H⟩ := h
  obtain ⟨ao', cap', rfl, hc', hn', H'⟩ := h'
  simp only [List.length_map] at *
  obtain ⟨L, hL⟩ : ∃ L, xs.length = L := ⟨_, rfl⟩
  obtain ⟨L', hL'⟩ : ∃ L, ys.length = L := ⟨_, rfl⟩
  have HH : Hid (∀ i (h : i < L), ∃ g o, ao = some ⟨g, o, none⟩ ∧ w.cell? ⟨g, o + i, none⟩ = some (.int .u8 (xs.getD i 0 : Nat))) := fun i hi => by
    obtain ⟨g, o, e1, _, e2⟩ := H i (by omega)
    refine ⟨g, o, e1, ?_⟩
    rw [e2, List.getElem_map, List.getD_eq_getElem?_getD, List.getElem?_eq_getElem (by omega)]; rfl
  have HH' : Hid (∀ i (h : i < L'), ∃ g o, ao' = some ⟨g, o, none⟩ ∧ w.cell? ⟨g, o + i, none⟩ = some (.int .u8 (ys.getD i 0 : Nat))) := fun i hi => by
    obtain ⟨g, o, e1, _, e2⟩ := H' i (by omega)
    refine ⟨g, o, e1, ?_⟩
    rw [e2, List.getElem_map, List.getD_eq_getElem?_getD, List.getElem?_eq_getElem (by omega)]; rfl
  have HL : Hid (xs.length = L) := hL
  have HL' : Hid (ys.length = L') := hL'
  rw [hL] at hl
  rw [hL, hL']
  clear H H' hL hL' hc hc' hn hn'
  by_cases hne : (L : Int) = (L' : Int)
  · obtain rfl : L = L' := by omega
    have e0 : ((L : Int) != (L : Int)) = false := by simp
    clear hne
    go_enter Try.func7, Try.ntmps7
    go_wp2_with fail
    go_loopw [5] (fun vk wr => ∃ (m k : Nat), wr = w.drewN m ∧ vk = .int .i64 (k : Int) ∧ k ≤ L ∧ Hid (∀ j, j < k → xs.getD j 0 = ys.getD j 0)) (fun vk _ => L - (intOf vk).toNat)
    case atStart => exact ⟨0, 0, rfl, rfl, by omega, fun j hj => by omega⟩
    case round =>
      obtain ⟨m, k, rfl, rfl, hk, EQ⟩ := hrel
      by_cases hlt : (k : Int) < (L : Int)
      · obtain ⟨g, off, rfl, c0⟩ := HH.out k (by omega)
        obtain ⟨g', off', rfl, d0⟩ := HH'.out k (by omega)
        by_cases ex : ((xs.getD k 0 : Nat) : Int) = ((ys.getD k 0 : Nat) : Int)
        · have EX : Hid (xs.getD k 0 = ys.getD k 0) := Int.ofNat.inj ex
          rw [← ex] at d0
          clear ex
          generalize ((xs.getD k 0 : Nat) : Int) = x at *
          have e1 : (x != x) = false := by simp
          go_wp2_with fail
          go_quiet (fail)
          go_wp2_with fail
          go_roundw
          case rel =>
            refine ⟨m + nq, k + 1, by simp, by go_num, by omega, fun j hj => ?_⟩
            by_cases e : j = k
            · subst e; exact EX.out
            · exact EQ.out j (by omega)
          case measure => simp [intOf]; omega
        · have EX : Hid (¬ xs.getD k 0 = ys.getD k 0) := fun e => ex (by rw [e])
          have e1 : (((xs.getD k 0 : Nat) : Int) != ((ys.getD k 0 : Nat) : Int)) = true := bne_iff_ne.2 ex
          clear ex
          generalize ((xs.getD k 0 : Nat) : Int) = x at *
          generalize ((ys.getD k 0 : Nat) : Int) = y at *
          go_wp2_with fail
          go_quiet (fail)
          go_wp2_with fail
          go_ret
          refine ⟨?_, m + nq, by simp⟩
          rw [decide_eq_false (fun e => EX.out (by rw [e]))]; rfl
      · obtain rfl : k = L := by omega
        go_wp2_with fail
        go_ret
        refine ⟨?_, m, rfl⟩
        rw [decide_eq_true]; rfl
        apply List.ext_getElem (by rw [HL.out, HL'.out])
        intro i h1 h2
        have := EQ.out i (by have := HL.out; omega)
        simpa [List.getD_eq_getElem?_getD, List.getElem?_eq_getElem h1, List.getElem?_eq_getElem h2] using this
  · have e0 : ((L : Int) != (L' : Int)) = true := by simpa using hne
    go_enter Try.func7, Try.ntmps7
    go_wp2_with fail
    go_ret
    refine ⟨?_, 0, rfl⟩
    rw [decide_eq_false (fun e => hne (by rw [← HL.out, ← HL'.out, e]))]; rfl
set_option maxHeartbeats 2000000 in
theorem copied_at (bs : List Nat) (v : Value) (w : World) (hl : bs.length ≤ 140737488351232) (h : RdB w v bs) : Calls Try.prog 4 #[v] w (NewB w bs) := by
  obtain ⟨i0, hi, hz0, hz1, hz2⟩ := info_parts infoB
  obtain ⟨L, hL⟩ : ∃ L, bs.length = L := ⟨_, rfl⟩
  obtain ⟨ao, cap, rfl, hcap, hn, H⟩ := h
  have HH : Hid (∀ i (h : i < L), ∃ g o, ao = some ⟨g, o, none⟩ ∧ g < w.heap.size ∧ w.cell? ⟨g, o + i, none⟩ = some (.int .u8 (bs.getD i 0 : Nat)) ∧ bs.take (i + 1) = bs.take i ++ [bs.getD i 0]) := fun i hi => by
    obtain ⟨g, o, e1, lt, e2⟩ := H i (by rw [List.length_map]; omega)
    refine ⟨g, o, e1, lt, ?_, ?_⟩
    · rw [e2, List.getElem_map, List.getD_eq_getElem?_getD, List.getElem?_eq_getElem (by omega)]; rfl
    · rw [List.take_add_one, List.getD_eq_getElem?_getD, List.getElem?_eq_getElem (by omega)]; rfl
  rw [List.length_map, hL] at hcap ⊢
  have HL : Hid (bs.length = L) := hL
  have HF : Hid (bs.take L = bs) := List.take_of_length_le (by omega)
  have hl' : L ≤ 140737488351232 := by omega
  clear H hL hl
  go_enter Try.func4, Try.ntmps4
  go_wp2_with fail
  go_loopw [3, 4] (fun v vk wr => ∃ k : Nat, vk = .int .i64 (k : Int) ∧ k ≤ L ∧ RowB 5 w.heap.size wr v (bs.take k) ∧ Below w.heap.size w wr) (fun _ vk _ => L - (intOf vk).toNat)
  case atStart => exact ⟨0, rfl, by omega, RowV.nil _ _ _, Below.refl _ _⟩
  case round =>
    obtain ⟨k, rfl, hk, hown, hnx⟩ := hrel
    have hsz := hnx.size
    have lt : (bs.take k).length = k := by have := HL.out; simp; omega
    have l1 : ((bs.take k).map bv).length + 1 ≤ maxLen := by rw [List.length_map, lt]; unfold maxLen; omega
    have l2 : (((bs.take k).map bv).length + 1) * 1 ≤ 140737488355328 := by rw [List.length_map, lt]; omega
    clear lt
    by_cases hlt : (k : Int) < (L : Int)
    · obtain ⟨g, o, rfl, lt, cc, ct⟩ := HH.out k (by omega)
      have c2 : wr.cell? ⟨g, o + k, none⟩ = some (.int .u8 ((bs.getD k 0 : Nat) : Int)) := (hnx.cell (p := ⟨g, o + k, none⟩) lt).trans cc
      have CT : Hid (bs.take (k + 1) = bs.take k ++ [bs.getD k 0]) := ct
      clear ct cc
      generalize bs.getD k 0 = x at *
      go_wp2_with (at_builtin; refine wpList_pushV rfl (.tmp 11) (.tmp 16) 22 rfl 5 i0 (.int .u8 0) 1 underB hi hz0 hz1 hz2 rfl w.heap.size _ _ _ rfl rfl hown hsz rfl l1 l2 ?_; intro v' w1 hown' hgr)
      have hb : Below w.heap.size w w1 := below_grown hnx hown (Nat.le_refl _) hsz hgr
      go_roundw
      case rel => exact ⟨k + 1, by go_num, by omega, by rw [CT.out]; exact rowB_push hown' rfl, hb⟩
      case measure => simp [intOf]; omega
    · obtain rfl : k = L := by omega
      go_wp2_with fail
      go_ret
      refine ⟨_, rfl, ?_, hnx⟩
      rw [HF.out] at hown; exact hown
set_option maxHeartbeats 1000000 in
theorem alike_at (xs : List (List Nat)) (va vb : Value) (w : World) (hn : xs.length ≤ 1000000000) (hl : ∀ x ∈ xs, x.length ≤ 1000000000000) (h : RdR w va xs) (h' : RdR w vb xs) :
    Calls Try.prog 6 #[va, vb] w fun e w' => e = .returned (.bool true) ∧ ∃ n, w' = w.drewN n := by
  obtain ⟨ao, cap, rfl, hcap⟩ := h.len
  obtain ⟨ao', cap', rfl, hcap'⟩ := h'.len
  have HH : Hid (∀ i, i < xs.length → ∃ g o a' c', ao = some ⟨g, o, none⟩ ∧ w.cell? ⟨g, o + i, none⟩ = some (.slice a' (xs.getD i []).length c') ∧ RdB w (.slice a' (xs.getD i []).length c') (xs.getD i [])) := h.at.2.2
  have HH' : Hid (∀ i, i < xs.length → ∃ g o a' c', ao' = some ⟨g, o, none⟩ ∧ w.cell? ⟨g, o + i, none⟩ = some (.slice a' (xs.getD i []).length c') ∧ RdB w (.slice a' (xs.getD i []).length c') (xs.getD i [])) := h'.at.2.2
  have HL : Hid (∀ i, (xs.getD i []).length ≤ 1000000000000) := fun i => by
    rw [List.getD_eq_getElem?_getD]
    cases e : xs[i]? with
    | none => simp
    | some y => exact hl y (List.mem_of_getElem? e)
  clear h h' hl
  generalize xs.length = L at *
  have e0 : ((L : Int) != (L : Int)) = false := by simp
  go_enter Try.func6, Try.ntmps6
  go_wp2_with fail
  go_loopw [5] (fun vk wr => ∃ (m k : Nat), wr = w.drewN m ∧ vk = .int .i64 (k : Int) ∧ k ≤ L) (fun vk _ => L - (intOf vk).toNat)
  case atStart => exact ⟨0, 0, rfl, rfl, by omega⟩
  case round =>
    obtain ⟨m, k, hw0, rfl, hk⟩ := hrel
    have HW : Hid (wr = w.drewN m) := hw0
    by_cases hlt : (k : Int) < (L : Int)
    · obtain ⟨g, o, a1, c1, rfl, d1, r1⟩ := HH.out k (by omega)
      obtain ⟨g', o', a2, c2, rfl, d2, r2⟩ := HH'.out k (by omega)
      have hx := HL.out k
      generalize xs.getD k [] = x at *
      have q1 : RdB wr (.slice a1 x.length c1) x := by rw [hw0]; exact Rd.drewN r1 m
      have q2 : RdB wr (.slice a2 x.length c2) x := by rw [hw0]; exact Rd.drewN r2 m
      have f1 : wr.cell? ⟨g, o + k, none⟩ = some (.slice a1 x.length c1) := by rw [hw0]; exact d1
      have f2 : wr.cell? ⟨g', o' + k, none⟩ = some (.slice a2 x.length c2) := by rw [hw0]; exact d2
      have SM : Hid (∀ n, Calls Try.prog 7 #[.slice a1 x.length c1, .slice a2 x.length c2] (wr.drewN n) fun e w' => e = .returned (.bool true) ∧ ∃ q, w' = (wr.drewN n).drewN q) := fun n => (same_at x x _ _ (wr.drewN n) (by omega) (Rd.drewN q1 n) (Rd.drewN q2 n)).mono fun e w' ⟨h1, h2⟩ => ⟨by rw [h1, decide_eq_true rfl], h2⟩
      clear r1 r2 q1 q2 d1 d2 hw0
      generalize x.length = X at *
      go_wp2_with fail
      go_quiet ((go_at_call 7; exact Calls.quiet_of (SM.out _)))
      go_wp2_with fail
      go_roundw
      case rel => exact ⟨m + nq, k + 1, by rw [HW.out]; simp, by go_num, by omega⟩
      case measure => simp [intOf]; omega
    · obtain rfl : k = L := by omega
      clear hw0
      go_wp2_with fail
      go_ret
      exact ⟨rfl, m, HW.out⟩
end Go.Proofs.Ytkjnklagjhhhkaa
