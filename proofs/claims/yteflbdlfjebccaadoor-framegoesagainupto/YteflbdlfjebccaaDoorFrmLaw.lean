/-
  Ours: the statements' helpers same, copied, roomy, turned.
-/
import Derived.Test.YteflbdlfjebccaaDoorFrmSum
import Derived.Test.YteflbdlfjebccaaDoorFrmOwn
import Derived.Deep.QuietTactic
import Derived.BigQuiet
namespace Go.Proofs.YteflbdlfjebccaaDoor
open Go.RowKit

set_option maxHeartbeats 2000000 in
theorem same_at (xs ys : List Nat) (va vb : Value) (w : World) (hl : xs.length ≤ 140737488355328) (h : RdB w va xs) (h' : RdB w vb ys) :
    Calls Tryd.prog 7 #[va, vb] w fun e w' => e = .returned (.bool (decide (xs = ys))) ∧ ∃ n, w' = w.drewN n := by
  obtain ⟨ao, cap, rfl, hc, hn, H⟩ := h
  obtain ⟨ao', cap', rfl, hc', hn', H'⟩ := h'
  simp only [List.length_map] at *
  obtain ⟨L, hL⟩ : ∃ L, xs.length = L := ⟨_, rfl⟩
  obtain ⟨L', hL'⟩ : ∃ L, ys.length = L := ⟨_, rfl⟩
  have HH : Hid (∀ i (h : i < L), ∃ g o, ao = some ⟨g, o, none⟩ ∧ w.cell? ⟨g, o + i, none⟩ = some (.int .u8 (xs.getD i 0 : Nat))) := fun i hi => by
    obtain ⟨g, o, e1, _, e2⟩ := H i (by omega)
    refine ⟨g, o, e1, ?_⟩
    rw [e2, List.getElem_map, List.getD_eq_getElem?_getD, List.getElem?_eq_getElem (by omega)]; rfl
  have HH' : Hid (∀ i (h : i < L'), ∃ g o, ao' = some ⟨g, o, none⟩ ∧ w.cell? ⟨g, o + i, none⟩ = some (.int .u8 (ys.getD i 0 : Nat))) := fun i hi => by
    obtain ⟨g, o, e1, _, e2⟩ := H' i (by omega)
    refine ⟨g, o, e1, ?_⟩
    rw [e2, List.getElem_map, List.getD_eq_getElem?_getD, List.getElem?_eq_getElem (by omega)]; rfl
  have HL : Hid (xs.length = L) := hL
  have HL' : Hid (ys.length = L') := hL'
  rw [hL] at hl
  rw [hL, hL']
  clear H H' hL hL' hc hc' hn hn'
  by_cases hne : (L : Int) = (L' : Int)
  · obtain rfl : L = L' := by omega
    have e0 : ((L : Int) != (L : Int)) = false := by simp
    clear hne
    go_enter Tryd.func7, Tryd.ntmps7
    go_wp2_with fail
    go_loopw [5] (fun vk wr => ∃ (m k : Nat), wr = w.drewN m ∧ vk = .int .i64 (k : Int) ∧ k ≤ L ∧ Hid (∀ j, j < k → xs.getD j 0 = ys.getD j 0)) (fun vk _ => L - (intOf vk).toNat)
    case atStart => exact ⟨0, 0, rfl, rfl, by omega, fun j hj => by omega⟩
    case round =>
      obtain ⟨m, k, rfl, rfl, hk, EQ⟩ := hrel
      by_cases hlt : (k : Int) < (L : Int)
      · obtain ⟨g, off, rfl, c0⟩ := HH.out k (by omega)
        obtain ⟨g', off', rfl, d0⟩ := HH'.out k (by omega)
        by_cases ex : ((xs.getD k 0 : Nat) : Int) = ((ys.getD k 0 : Nat) : Int)
        · have EX : Hid (xs.getD k 0 = ys.getD k 0) := Int.ofNat.inj ex
          rw [← ex] at d0
          clear ex
          generalize ((xs.getD k 0 : Nat) : Int) = x at *
          have e1 : (x != x) = false := by simp
          go_wp2_with fail
          go_quiet (fail)
          go_wp2_with fail
          go_roundw
          case rel =>
            refine ⟨m + nq, k + 1, by simp, by go_num, by omega, fun j hj => ?_⟩
            by_cases e : j = k
            · subst e; exact EX.out
            · exact EQ.out j (by omega)
          case measure => simp [intOf]; omega
        · have EX : Hid (¬ xs.getD k 0 = ys.getD k 0) := fun e => ex (by rw [e])
          have e1 : (((xs.getD k 0 : Nat) : Int) != ((ys.getD k 0 : Nat) : Int)) = true := bne_iff_ne.2 ex
          clear ex
          generalize ((xs.getD k 0 : Nat) : Int) = x at *
          generalize ((ys.getD k 0 : Nat) : Int) = y at *
          go_wp2_with fail
          go_quiet (fail)
          go_wp2_with fail
          go_ret
          refine ⟨?_, m + nq, by simp⟩
          rw [decide_eq_false (fun e => EX.out (by rw [e]))]; rfl
      · obtain rfl : k = L := by omega
        go_wp2_with fail
        go_ret
        refine ⟨?_, m, rfl⟩
        rw [decide_eq_true]; rfl
        apply List.ext_getElem (by rw [HL.out, HL'.out])
        intro i h1 h2
        have := EQ.out i (by have := HL.out; omega)
        simpa [List.getD_eq_getElem?_getD, List.getElem?_eq_getElem h1, List.getElem?_eq_getElem h2] using this
  · have e0 : ((L : Int) != (L' : Int)) = true := by simpa using hne
    go_enter Tryd.func7, Tryd.ntmps7
    go_wp2_with fail
    go_ret
    refine ⟨?_, 0, rfl⟩
    rw [decide_eq_false (fun e => hne (by rw [← HL.out, ← HL'.out, e]))]; rfl


set_option maxHeartbeats 2000000 in
theorem copied_at (bs : List Nat) (v : Value) (w : World) (hl : bs.length ≤ 140737488351232) (h : RdB w v bs) : Calls Tryd.prog 5 #[v] w (NewB w bs) := by
  obtain ⟨i0, hi, hz0, hz1, hz2⟩ := info_parts infoB
  obtain ⟨L, hL⟩ : ∃ L, bs.length = L := ⟨_, rfl⟩
  obtain ⟨ao, cap, rfl, hcap, hn, H⟩ := h
  have HH : Hid (∀ i (h : i < L), ∃ g o, ao = some ⟨g, o, none⟩ ∧ g < w.heap.size ∧ w.cell? ⟨g, o + i, none⟩ = some (.int .u8 (bs.getD i 0 : Nat)) ∧ bs.take (i + 1) = bs.take i ++ [bs.getD i 0]) := fun i hi => by
    obtain ⟨g, o, e1, lt, e2⟩ := H i (by rw [List.length_map]; omega)
    refine ⟨g, o, e1, lt, ?_, ?_⟩
    · rw [e2, List.getElem_map, List.getD_eq_getElem?_getD, List.getElem?_eq_getElem (by omega)]; rfl
    · rw [List.take_add_one, List.getD_eq_getElem?_getD, List.getElem?_eq_getElem (by omega)]; rfl
  rw [List.length_map, hL] at hcap ⊢
  have HL : Hid (bs.length = L) := hL
  have HF : Hid (bs.take L = bs) := List.take_of_length_le (by omega)
  have hl' : L ≤ 140737488351232 := by omega
  clear H hL hl
  go_enter Tryd.func5, Tryd.ntmps5
  go_wp2_with fail
  go_loopw [3, 4] (fun v vk wr => ∃ k : Nat, vk = .int .i64 (k : Int) ∧ k ≤ L ∧ RowB 5 w.heap.size wr v (bs.take k) ∧ Below w.heap.size w wr) (fun _ vk _ => L - (intOf vk).toNat)
  case atStart => exact ⟨0, rfl, by omega, RowV.nil _ _ _, Below.refl _ _⟩
  case round =>
    obtain ⟨k, rfl, hk, hown, hnx⟩ := hrel
    have hsz := hnx.size
    have lt : (bs.take k).length = k := by have := HL.out; simp; omega
    have l1 : ((bs.take k).map bv).length + 1 ≤ maxLen := by rw [List.length_map, lt]; unfold maxLen; omega
    have l2 : (((bs.take k).map bv).length + 1) * 1 ≤ 140737488355328 := by rw [List.length_map, lt]; omega
    clear lt
    by_cases hlt : (k : Int) < (L : Int)
    · obtain ⟨g, o, rfl, lt, cc, ct⟩ := HH.out k (by omega)
      have c2 : wr.cell? ⟨g, o + k, none⟩ = some (.int .u8 ((bs.getD k 0 : Nat) : Int)) := (hnx.cell (p := ⟨g, o + k, none⟩) lt).trans cc
      have CT : Hid (bs.take (k + 1) = bs.take k ++ [bs.getD k 0]) := ct
      clear ct cc
      generalize bs.getD k 0 = x at *
      go_wp2_with (at_builtin; refine wpList_pushV rfl (.tmp 11) (.tmp 16) 22 rfl 5 i0 (.int .u8 0) 1 underB hi hz0 hz1 hz2 rfl w.heap.size _ _ _ rfl rfl hown hsz rfl l1 l2 ?_; intro v' w1 hown' hgr)
      have hb : Below w.heap.size w w1 := below_grown hnx hown (Nat.le_refl _) hsz hgr
      go_roundw
      case rel => exact ⟨k + 1, by go_num, by omega, by rw [CT.out]; exact rowB_push hown' rfl, hb⟩
      case measure => simp [intOf]; omega
    · obtain rfl : k = L := by omega
      go_wp2_with fail
      go_ret
      refine ⟨_, rfl, ?_, hnx⟩
      rw [HF.out] at hown; exact hown


def marks5 : List Nat := [201, 202, 203, 204, 205]
def roomL (bs : List Nat) : List Nat := bs ++ marks5
theorem roomL_take (bs : List Nat) : (roomL bs).take bs.length = bs := by unfold roomL; simp
theorem roomL_len (bs : List Nat) : (roomL bs).length = bs.length + 5 := by simp [roomL, marks5]

/-- The byte in the middle is another one. -/
def turnL (rs : List Nat) (n : Nat) : List Nat := if 0 < n then rs.set (n / 2) ((rs.getD (n / 2) 0 + 85) % 256) else rs
theorem turnL_len (rs : List Nat) (n : Nat) : (turnL rs n).length = rs.length := by unfold turnL; split <;> simp
theorem turnL_lt {rs : List Nat} (h : ∀ b ∈ rs, b < 256) (n : Nat) : ∀ b ∈ turnL rs n, b < 256 := by
  intro b hb
  unfold turnL at hb
  split at hb
  · rcases List.mem_or_eq_of_mem_set hb with h1 | h1
    · exact h b h1
    · omega
  · exact h b hb

end Go.Proofs.YteflbdlfjebccaaDoor
