/-
  Ours: the statements' helpers.
-/
import Derived.Test.YtcnhcdlbippjoaaNwFat2
import Derived.Deep.QuietTactic
import Derived.BigQuiet
namespace Go.Proofs.Ytcnhcdlbippjoaa
open Go.RowKit NwM

theorem fate_at (R : Nat) (S B : Nat → Prop) (t : Nt) (s : ByteArray) (w : World) (h : NetAt R S B t w) (hfl : t.fs.length ≤ 4096) :
    Calls Try.prog 9 #[.pointer (some ⟨R, 0, none⟩), .string s] w fun e w' => e = .returned (.int .i64 ((fateC t s : Nat) : Int)) ∧ ∃ S', NPost R S B w (fateT t s) S' B w' := by
  by_cases hc : fateC t s = 0
  · have et : fateT t s = { t with fs := t.fs ++ bytesOf s } := by unfold fateT; rw [if_pos hc]
    rw [et, hc]
    exact fate_ok R S B t s w h hc
  · exact fate_no R S B t s w h hfl hc

set_option maxHeartbeats 2000000 in
theorem same_at (xs ys : List Nat) (va vb : Value) (w : World) (hl : xs.length ≤ 140737488355328) (h : RdB w va xs) (h' : RdB w vb ys) :
    Calls Try.prog 34 #[va, vb] w fun e w' => e = .returned (.bool (decide (xs = ys))) ∧ ∃ n, w' = w.drewN n := by
  obtain ⟨ao, cap, rfl, hc, hn, H⟩ := h
  obtain ⟨ao', cap', rfl, hc', hn', H'⟩ := h'
  simp only [List.length_map] at *
  obtain ⟨L, hL⟩ : ∃ L, xs.length = L := ⟨_, rfl⟩
  obtain ⟨L', hL'⟩ : ∃ L, ys.length = L := ⟨_, rfl⟩
  have HH : Hid (∀ i (h : i < L), ∃ g o, ao = some ⟨g, o, none⟩ ∧ w.cell? ⟨g, o + i, none⟩ = some (.int .u8 (xs.getD i 0 : Nat))) := fun i hi => by
    obtain ⟨g, o, e1, _, e2⟩ := H i (by omega)
    refine ⟨g, o, e1, ?_⟩
    rw [e2, List.getElem_map, List.getD_eq_getElem?_getD, List.getElem?_eq_getElem (by omega)]; rfl
  have HH' : Hid (∀ i (h : i < L'), ∃ g o, ao' = some ⟨g, o, none⟩ ∧ w.cell? ⟨g, o + i, none⟩ = some (.int .u8 (ys.getD i 0 : Nat))) := fun i hi => by
    obtain ⟨g, o, e1, _, e2⟩ := H' i (by omega)
    refine ⟨g, o, e1, ?_⟩
    rw [e2, List.getElem_map, List.getD_eq_getElem?_getD, List.getElem?_eq_getElem (by omega)]; rfl
  have HL : Hid (xs.length = L) := hL
  have HL' : Hid (ys.length = L') := hL'
  rw [hL] at hl
  rw [hL, hL']
  clear H H' hL hL' hc hc' hn hn'
  by_cases hne : (L : Int) = (L' : Int)
  · obtain rfl : L = L' := by omega
    have e0 : ((L : Int) != (L : Int)) = false := by simp
    clear hne
    go_enter Try.func34, Try.ntmps34
    go_wp2_with fail
    go_loopw [5] (fun vk wr => ∃ (m k : Nat), wr = w.drewN m ∧ vk = .int .i64 (k : Int) ∧ k ≤ L ∧ Hid (∀ j, j < k → xs.getD j 0 = ys.getD j 0)) (fun vk _ => L - (intOf vk).toNat)
    case atStart => exact ⟨0, 0, rfl, rfl, by omega, fun j hj => by omega⟩
    case round =>
      obtain ⟨m, k, rfl, rfl, hk, EQ⟩ := hrel
      by_cases hlt : (k : Int) < (L : Int)
      · obtain ⟨g, off, rfl, c0⟩ := HH.out k (by omega)
        obtain ⟨g', off', rfl, d0⟩ := HH'.out k (by omega)
        by_cases ex : ((xs.getD k 0 : Nat) : Int) = ((ys.getD k 0 : Nat) : Int)
        · have EX : Hid (xs.getD k 0 = ys.getD k 0) := Int.ofNat.inj ex
          rw [← ex] at d0
          clear ex
          generalize ((xs.getD k 0 : Nat) : Int) = x at *
          have e1 : (x != x) = false := by simp
          go_wp2_with fail
          go_quiet (fail)
          go_wp2_with fail
          go_roundw
          case rel =>
            refine ⟨m + nq, k + 1, by simp, by go_num, by omega, fun j hj => ?_⟩
            by_cases e : j = k
            · subst e; exact EX.out
            · exact EQ.out j (by omega)
          case measure => simp [intOf]; omega
        · have EX : Hid (¬ xs.getD k 0 = ys.getD k 0) := fun e => ex (by rw [e])
          have e1 : (((xs.getD k 0 : Nat) : Int) != ((ys.getD k 0 : Nat) : Int)) = true := bne_iff_ne.2 ex
          clear ex
          generalize ((xs.getD k 0 : Nat) : Int) = x at *
          generalize ((ys.getD k 0 : Nat) : Int) = y at *
          go_wp2_with fail
          go_quiet (fail)
          go_wp2_with fail
          go_ret
          refine ⟨?_, m + nq, by simp⟩
          rw [decide_eq_false (fun e => EX.out (by rw [e]))]; rfl
      · obtain rfl : k = L := by omega
        go_wp2_with fail
        go_ret
        refine ⟨?_, m, rfl⟩
        rw [decide_eq_true]; rfl
        apply List.ext_getElem (by rw [HL.out, HL'.out])
        intro i h1 h2
        have := EQ.out i (by have := HL.out; omega)
        simpa [List.getD_eq_getElem?_getD, List.getElem?_eq_getElem h1, List.getElem?_eq_getElem h2] using this
  · have e0 : ((L : Int) != (L' : Int)) = true := by simpa using hne
    go_enter Try.func34, Try.ntmps34
    go_wp2_with fail
    go_ret
    refine ⟨?_, 0, rfl⟩
    rw [decide_eq_false (fun e => hne (by rw [← HL.out, ← HL'.out, e]))]; rfl


set_option maxHeartbeats 2000000 in
theorem sameIDs_at (xs ys : List Int) (va vb : Value) (w : World) (hl : xs.length ≤ 140737488355328) (h : Rd w va (xs.map iv)) (h' : Rd w vb (ys.map iv)) :
    Calls Try.prog 21 #[va, vb] w fun e w' => e = .returned (.bool (decide (xs = ys))) ∧ ∃ n, w' = w.drewN n := by
  obtain ⟨ao, cap, rfl, hc, hn, H⟩ := h
  obtain ⟨ao', cap', rfl, hc', hn', H'⟩ := h'
  simp only [List.length_map] at *
  obtain ⟨L, hL⟩ : ∃ L, xs.length = L := ⟨_, rfl⟩
  obtain ⟨L', hL'⟩ : ∃ L, ys.length = L := ⟨_, rfl⟩
  have HH : Hid (∀ i (h : i < L), ∃ g o, ao = some ⟨g, o, none⟩ ∧ w.cell? ⟨g, o + i, none⟩ = some (.int .i64 (xs.getD i 0))) := fun i hi => by
    obtain ⟨g, o, e1, _, e2⟩ := H i (by omega)
    refine ⟨g, o, e1, ?_⟩
    rw [e2, List.getElem_map, List.getD_eq_getElem?_getD, List.getElem?_eq_getElem (by omega)]; rfl
  have HH' : Hid (∀ i (h : i < L'), ∃ g o, ao' = some ⟨g, o, none⟩ ∧ w.cell? ⟨g, o + i, none⟩ = some (.int .i64 (ys.getD i 0))) := fun i hi => by
    obtain ⟨g, o, e1, _, e2⟩ := H' i (by omega)
    refine ⟨g, o, e1, ?_⟩
    rw [e2, List.getElem_map, List.getD_eq_getElem?_getD, List.getElem?_eq_getElem (by omega)]; rfl
  have HL : Hid (xs.length = L) := hL
  have HL' : Hid (ys.length = L') := hL'
  rw [hL] at hl
  rw [hL, hL']
  clear H H' hL hL' hc hc' hn hn'
  by_cases hne : (L : Int) = (L' : Int)
  · obtain rfl : L = L' := by omega
    have e0 : ((L : Int) != (L : Int)) = false := by simp
    clear hne
    go_enter Try.func21, Try.ntmps21
    go_wp2_with fail
    go_loopw [5] (fun vk wr => ∃ (m k : Nat), wr = w.drewN m ∧ vk = .int .i64 (k : Int) ∧ k ≤ L ∧ Hid (∀ j, j < k → xs.getD j 0 = ys.getD j 0)) (fun vk _ => L - (intOf vk).toNat)
    case atStart => exact ⟨0, 0, rfl, rfl, by omega, fun j hj => by omega⟩
    case round =>
      obtain ⟨m, k, rfl, rfl, hk, EQ⟩ := hrel
      by_cases hlt : (k : Int) < (L : Int)
      · obtain ⟨g, off, rfl, c0⟩ := HH.out k (by omega)
        obtain ⟨g', off', rfl, d0⟩ := HH'.out k (by omega)
        by_cases ex : (xs.getD k 0) = (ys.getD k 0)
        · have EX : Hid (xs.getD k 0 = ys.getD k 0) := ex
          rw [← ex] at d0
          clear ex
          obtain ⟨x, hx⟩ : ∃ x, xs.getD k 0 = x := ⟨_, rfl⟩
          rw [hx] at c0 d0
          clear hx
          have e1 : (x != x) = false := by simp
          go_wp2_with fail
          go_quiet (fail)
          go_wp2_with fail
          go_roundw
          case rel =>
            refine ⟨m + nq, k + 1, by simp, by go_num, by omega, fun j hj => ?_⟩
            by_cases e : j = k
            · subst e; exact EX.out
            · exact EQ.out j (by omega)
          case measure => simp [intOf]; omega
        · have EX : Hid (¬ xs.getD k 0 = ys.getD k 0) := fun e => ex (by rw [e])
          have e1 : ((xs.getD k 0) != (ys.getD k 0)) = true := bne_iff_ne.2 ex
          clear ex
          obtain ⟨x, hx⟩ : ∃ x, xs.getD k 0 = x := ⟨_, rfl⟩
          obtain ⟨y, hy⟩ : ∃ y, ys.getD k 0 = y := ⟨_, rfl⟩
          rw [hx] at c0 e1
          rw [hy] at d0 e1
          clear hx hy
          go_wp2_with fail
          go_quiet (fail)
          go_wp2_with fail
          go_ret
          refine ⟨?_, m + nq, by simp⟩
          rw [decide_eq_false (fun e => EX.out (by rw [e]))]; rfl
      · obtain rfl : k = L := by omega
        go_wp2_with fail
        go_ret
        refine ⟨?_, m, rfl⟩
        rw [decide_eq_true]; rfl
        apply List.ext_getElem (by rw [HL.out, HL'.out])
        intro i h1 h2
        have := EQ.out i (by have := HL.out; omega)
        simpa [List.getD_eq_getElem?_getD, List.getElem?_eq_getElem h1, List.getElem?_eq_getElem h2] using this
  · have e0 : ((L : Int) != (L' : Int)) = true := by simpa using hne
    go_enter Try.func21, Try.ntmps21
    go_wp2_with fail
    go_ret
    refine ⟨?_, 0, rfl⟩
    rw [decide_eq_false (fun e => hne (by rw [← HL.out, ← HL'.out, e]))]; rfl


set_option maxHeartbeats 2000000 in
theorem copied_at (bs : List Nat) (v : Value) (w : World) (hl : bs.length ≤ 140737488351232) (h : RdB w v bs) : Calls Try.prog 31 #[v] w (NewS w bs) := by
  obtain ⟨i0, hi, hz0, hz1, hz2⟩ := info_parts infoB
  have one := one_bv bs
  have l1 : ([] : List Value).length + (bs.map bv).length ≤ maxLen := by simp only [List.length_map, List.length_nil]; unfold maxLen; omega
  have l2 : (([] : List Value).length + (bs.map bv).length) * 1 ≤ 140737488355328 := by simp only [List.length_map, List.length_nil]; omega
  have own0 : RowV 5 w.heap.size w (.slice none 0 0) [] := RowV.nil _ _ _
  obtain ⟨us, hus⟩ : ∃ us, bs.map bv = us := ⟨_, rfl⟩
  have HU : Hid (bs.map bv = us) := hus
  have h' : Rd w v us := by rw [← hus]; exact h
  rw [hus] at one l1 l2
  have HR : Hid (Rd w v us) := h'
  obtain ⟨a0, c0, rfl, -, -⟩ := h'.len
  clear h h' hus
  go_enter Try.func31, Try.ntmps31
  go_wp2_with (at_builtin; refine wpList_catV rfl (.tmp 4) (.tmp 5) 31 rfl 5 i0 (.int .u8 0) 1 underB hi hz0 hz1 hz2 rfl w.heap.size _ _ _ _ one rfl own0 (Nat.le_refl _) rfl HR.out l1 l2 ?_; intro v3 w3 r3 g3)
  obtain ⟨a3, c3, rfl, -, -⟩ := (RowV.rd r3).len
  go_ret
  exact ⟨a3, _, c3, rfl, by rw [RowB, HU.out]; simpa using r3, below_none g3⟩

/-- The tick at which a number stands in a list, or 0. -/
def accT (ys : List Ac) (id : Int) : Int := ((ys.find? (fun a => a.id == id)).map (·.tk)).getD 0
theorem find_at : ∀ (ys : List Ac) (k : Nat) (id : Int) (y : Ac), (∀ j x, j < k → ys[j]? = some x → x.id ≠ id) → ys[k]? = some y → y.id = id → ys.find? (fun a => a.id == id) = some y
  | [], k, id, y, _, h, _ => by simp at h
  | x :: ys, 0, id, y, _, h, e => by simp at h; subst h; simp [e]
  | x :: ys, k + 1, id, y, hn, h, e => by
    have h0 := hn 0 x (by omega) rfl
    rw [List.find?_cons, show (x.id == id) = false from by simpa using h0]
    exact find_at ys k id y (fun j z hj hz => hn (j + 1) z (by omega) (by simpa using hz)) (by simpa using h) e
theorem find_no (ys : List Ac) (id : Int) (h : ∀ j x, j < ys.length → ys[j]? = some x → x.id ≠ id) : ys.find? (fun a => a.id == id) = none := by
  rw [List.find?_eq_none]
  intro x hx
  obtain ⟨j, hj, e⟩ := List.getElem_of_mem hx
  have := h j x hj (by rw [List.getElem?_eq_getElem hj, e])
  simpa using this
end Go.Proofs.Ytcnhcdlbippjoaa
