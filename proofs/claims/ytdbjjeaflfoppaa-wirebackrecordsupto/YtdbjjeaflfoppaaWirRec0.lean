/-
  Ours: what records ask besides: Out.count, sameIDs.
-/
import Derived.Test.YtdbjjeaflfoppaaWirOutOp
import Derived.Deep.QuietTactic
import Derived.BigQuiet
namespace Go.Proofs.Ytdbjjeaflfoppaa
open Go.RowKit

abbrev RdI (w : World) (v : Value) (xs : List Int) : Prop := Rd w v (xs.map (Value.int .i64))

set_option maxHeartbeats 2000000 in
theorem sameIDs_at (xs ys : List Int) (va vb : Value) (w : World) (hl : xs.length ≤ 140737488355328) (h : RdI w va xs) (h' : RdI w vb ys) :
    Calls Try.prog 38 #[va, vb] w fun e w' => e = .returned (.bool (decide (xs = ys))) ∧ ∃ n, w' = w.drewN n := by
  obtain ⟨ao, cap, rfl, hc, hn, H⟩ := h
  obtain ⟨ao', cap', rfl, hc', hn', H'⟩ := h'
  simp only [List.length_map] at *
  obtain ⟨L, hL⟩ : ∃ L, xs.length = L := ⟨_, rfl⟩
  obtain ⟨L', hL'⟩ : ∃ L, ys.length = L := ⟨_, rfl⟩
  have HH : Hid (∀ i (h : i < L), ∃ g o, ao = some ⟨g, o, none⟩ ∧ w.cell? ⟨g, o + i, none⟩ = some (.int .i64 (xs.getD i 0))) := fun i hi => by
    obtain ⟨g, o, e1, _, e2⟩ := H i (by omega)
    refine ⟨g, o, e1, ?_⟩
    rw [e2, List.getElem_map, List.getD_eq_getElem?_getD, List.getElem?_eq_getElem (by omega)]; rfl
  have HH' : Hid (∀ i (h : i < L'), ∃ g o, ao' = some ⟨g, o, none⟩ ∧ w.cell? ⟨g, o + i, none⟩ = some (.int .i64 (ys.getD i 0))) := fun i hi => by
    obtain ⟨g, o, e1, _, e2⟩ := H' i (by omega)
    refine ⟨g, o, e1, ?_⟩
    rw [e2, List.getElem_map, List.getD_eq_getElem?_getD, List.getElem?_eq_getElem (by omega)]; rfl
  have HL : Hid (xs.length = L) := hL
  have HL' : Hid (ys.length = L') := hL'
  rw [hL] at hl
  rw [hL, hL']
  clear H H' hL hL' hc hc' hn hn'
  by_cases hne : (L : Int) = (L' : Int)
  · obtain rfl : L = L' := by omega
    have e0 : ((L : Int) != (L : Int)) = false := by simp
    clear hne
    go_enter Try.func38, Try.ntmps38
    go_wp2_with fail
    go_loopw [5] (fun vk wr => ∃ (m k : Nat), wr = w.drewN m ∧ vk = .int .i64 (k : Int) ∧ k ≤ L ∧ Hid (∀ j, j < k → xs.getD j 0 = ys.getD j 0)) (fun vk _ => L - (intOf vk).toNat)
    case atStart => exact ⟨0, 0, rfl, rfl, by omega, fun j hj => by omega⟩
    case round =>
      obtain ⟨m, k, rfl, rfl, hk, EQ⟩ := hrel
      by_cases hlt : (k : Int) < (L : Int)
      · obtain ⟨g, off, rfl, c0⟩ := HH.out k (by omega)
        obtain ⟨g', off', rfl, d0⟩ := HH'.out k (by omega)
        by_cases ex : (xs.getD k 0) = (ys.getD k 0)
        · have EX : Hid (xs.getD k 0 = ys.getD k 0) := ex
          rw [← ex] at d0
          clear ex
          generalize xs.getD k 0 = x at c0 d0
          have e1 : (x != x) = false := by simp
          go_wp2_with fail
          go_quiet (fail)
          go_wp2_with fail
          go_roundw
          case rel =>
            refine ⟨m + nq, k + 1, by simp, by go_num, by omega, fun j hj => ?_⟩
            by_cases e : j = k
            · subst e; exact EX.out
            · exact EQ.out j (by omega)
          case measure => simp [intOf]; omega
        · have EX : Hid (¬ xs.getD k 0 = ys.getD k 0) := ex
          have e1 : ((xs.getD k 0) != (ys.getD k 0)) = true := bne_iff_ne.2 ex
          clear ex
          generalize xs.getD k 0 = x at c0 e1
          generalize ys.getD k 0 = y at d0 e1
          go_wp2_with fail
          go_quiet (fail)
          go_wp2_with fail
          go_ret
          refine ⟨?_, m + nq, by simp⟩
          rw [decide_eq_false (fun e => EX.out (by rw [e]))]; rfl
      · obtain rfl : k = L := by omega
        go_wp2_with fail
        go_ret
        refine ⟨?_, m, rfl⟩
        rw [decide_eq_true]; rfl
        apply List.ext_getElem (by rw [HL.out, HL'.out])
        intro i h1 h2
        have := EQ.out i (by have := HL.out; omega)
        simpa [List.getD_eq_getElem?_getD, List.getElem?_eq_getElem h1, List.getElem?_eq_getElem h2] using this
  · have e0 : ((L : Int) != (L' : Int)) = true := by simpa using hne
    go_enter Try.func38, Try.ntmps38
    go_wp2_with fail
    go_ret
    refine ⟨?_, 0, rfl⟩
    rw [decide_eq_false (fun e => hne (by rw [← HL.out, ← HL'.out, e]))]; rfl


theorem outCount_at (K : Nat → Prop) (R base : Nat) (bs : List Nat) (n : Nat) (hn : n ≤ 1000000000000) (w : World) (h : OutS K R base bs w) (hl : bs.length ≤ 900000000000) :
    Calls Try.prog 87 #[.pointer (some ⟨R, 0, none⟩), .int .i64 (n : Int)] w fun e w' => e = .returned (.tuple #[]) ∧ OutS K R base (bs ++ put n) w' ∧ Fr K base w w' := by
  have P : Hid (Calls Try.prog 113 #[.int .u64 (n : Int)] w (NewB w (put n))) := rputUint_at n (by omega) w
  have ln := put_len10 n (by omega)
  have B : Hid (∀ w1 v1, Below w.heap.size w w1 → RowB 5 w.heap.size w1 v1 (put n) → Calls Try.prog 111 #[.pointer (some ⟨R, 0, none⟩), v1] w1 fun e w' => e = .returned (.tuple #[]) ∧ OutS K R base (bs ++ put n) w' ∧ Fr K base w w') := fun w1 v1 b1 r1 => by
    refine (outBytes_at _ R base bs _ v1 w1 (h.beside b1 r1) (RowV.rd r1) (fun g hg => .inr hg) (by omega)).mono ?_
    rintro e w2 ⟨rfl, o2, f2⟩
    exact ⟨rfl, o2.fewer (fun g hg => .inl hg), (h.fr b1).trans (f2.less fun g hg => .inl hg)⟩
  clear h hl ln
  generalize put n = ts at *
  go_enter Try.func87, Try.ntmps87
  go_wp2_with fail
  refine P.out.mono ?_
  rintro e w1 ⟨v1, rfl, r1, b1⟩
  have R1 : Hid (RowB 5 w.heap.size w1 v1 ts) := r1
  clear r1
  go_wp2_with fail
  refine (B.out w1 v1 b1 R1.out).mono ?_
  rintro e w2 ⟨rfl, o2, f2⟩
  have O2 : Hid (OutS K R base (bs ++ ts) w2) := o2
  clear o2
  go_wp2_with fail
  go_end0
  exact ⟨rfl, O2.out, f2⟩
end Go.Proofs.Ytdbjjeaflfoppaa
