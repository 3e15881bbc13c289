/-
  Ours: the statements' equal and sends.
-/
import Derived.Test.YteppdlaoeoeplaaObPen
import Derived.Deep.QuietTactic
import Derived.BigQuiet
namespace Go.Proofs.Yteppdlaoeoeplaa
open Go.RowKit ObM LedM PolM
set_option linter.unusedSimpArgs false

set_option maxHeartbeats 2000000 in
theorem equal_at (xs ys : List Nat) (va vb : Value) (w : World) (hl : xs.length ≤ 140737488355328) (h : RdB w va xs) (h' : RdB w vb ys) :
    Calls Try.prog 18 #[va, vb] w fun e w' => e = .returned (.bool (decide (xs = ys))) ∧ ∃ n, w' = w.drewN n := by
  obtain ⟨ao, cap, rfl, hc, hn, H⟩ := h
  obtain ⟨ao', cap', rfl, hc', hn', H'⟩ := h'
  simp only [List.length_map] at *
  obtain ⟨L, hL⟩ : ∃ L, xs.length = L := ⟨_, rfl⟩
  obtain ⟨L', hL'⟩ : ∃ L, ys.length = L := ⟨_, rfl⟩
  have HH : Hid (∀ i (h : i < L), ∃ g o, ao = some ⟨g, o, none⟩ ∧ w.cell? ⟨g, o + i, none⟩ = some (.int .u8 (xs.getD i 0 : Nat))) := fun i hi => by
    obtain ⟨g, o, e1, _, e2⟩ := H i (by omega)
    refine ⟨g, o, e1, ?_⟩
    rw [e2, List.getElem_map, List.getD_eq_getElem?_getD, List.getElem?_eq_getElem (by omega)]; rfl
  have HH' : Hid (∀ i (h : i < L'), ∃ g o, ao' = some ⟨g, o, none⟩ ∧ w.cell? ⟨g, o + i, none⟩ = some (.int .u8 (ys.getD i 0 : Nat))) := fun i hi => by
    obtain ⟨g, o, e1, _, e2⟩ := H' i (by omega)
    refine ⟨g, o, e1, ?_⟩
    rw [e2, List.getElem_map, List.getD_eq_getElem?_getD, List.getElem?_eq_getElem (by omega)]; rfl
  have HL : Hid (xs.length = L) := hL
  have HL' : Hid (ys.length = L') := hL'
  rw [hL] at hl
  rw [hL, hL']
  clear H H' hL hL' hc hc' hn hn'
  by_cases hne : (L : Int) = (L' : Int)
  · obtain rfl : L = L' := by omega
    have e0 : ((L : Int) != (L : Int)) = false := by simp
    clear hne
    go_enter Try.func18, Try.ntmps18
    go_wp2_with fail
    go_loopw [5] (fun vk wr => ∃ (m k : Nat), wr = w.drewN m ∧ vk = .int .i64 (k : Int) ∧ k ≤ L ∧ Hid (∀ j, j < k → xs.getD j 0 = ys.getD j 0)) (fun vk _ => L - (intOf vk).toNat)
    case atStart => exact ⟨0, 0, rfl, rfl, by omega, fun j hj => by omega⟩
    case round =>
      obtain ⟨m, k, rfl, rfl, hk, EQ⟩ := hrel
      by_cases hlt : (k : Int) < (L : Int)
      · obtain ⟨g, off, rfl, c0⟩ := HH.out k (by omega)
        obtain ⟨g', off', rfl, d0⟩ := HH'.out k (by omega)
        by_cases ex : ((xs.getD k 0 : Nat) : Int) = ((ys.getD k 0 : Nat) : Int)
        · have EX : Hid (xs.getD k 0 = ys.getD k 0) := Int.ofNat.inj ex
          rw [← ex] at d0
          clear ex
          generalize ((xs.getD k 0 : Nat) : Int) = x at *
          have e1 : (x != x) = false := by simp
          go_wp2_with fail
          go_quiet (fail)
          go_wp2_with fail
          go_roundw
          case rel =>
            refine ⟨m + nq, k + 1, by simp, by go_num, by omega, fun j hj => ?_⟩
            by_cases e : j = k
            · subst e; exact EX.out
            · exact EQ.out j (by omega)
          case measure => simp [intOf]; omega
        · have EX : Hid (¬ xs.getD k 0 = ys.getD k 0) := fun e => ex (by rw [e])
          have e1 : (((xs.getD k 0 : Nat) : Int) != ((ys.getD k 0 : Nat) : Int)) = true := bne_iff_ne.2 ex
          clear ex
          generalize ((xs.getD k 0 : Nat) : Int) = x at *
          generalize ((ys.getD k 0 : Nat) : Int) = y at *
          go_wp2_with fail
          go_quiet (fail)
          go_wp2_with fail
          go_ret
          refine ⟨?_, m + nq, by simp⟩
          rw [decide_eq_false (fun e => EX.out (by rw [e]))]; rfl
      · obtain rfl : k = L := by omega
        go_wp2_with fail
        go_ret
        refine ⟨?_, m, rfl⟩
        rw [decide_eq_true]; rfl
        apply List.ext_getElem (by rw [HL.out, HL'.out])
        intro i h1 h2
        have := EQ.out i (by have := HL.out; omega)
        simpa [List.getD_eq_getElem?_getD, List.getElem?_eq_getElem h1, List.getElem?_eq_getElem h2] using this
  · have e0 : ((L : Int) != (L' : Int)) = true := by simpa using hne
    go_enter Try.func18, Try.ntmps18
    go_wp2_with fail
    go_ret
    refine ⟨?_, 0, rfl⟩
    rw [decide_eq_false (fun e => hne (by rw [← HL.out, ← HL'.out, e]))]; rfl


theorem eq_at (xs ys : List Nat) (va vb : Value) (w : World) (hl : xs.length ≤ 140737488355328) (h : RdB w va xs) (h' : RdB w vb ys) : Calls Try.prog 18 #[va, vb] w fun e w' => e = .returned (.bool (decide (xs = ys))) ∧ Below w.heap.size w w' := by
  refine (equal_at xs ys va vb w hl h h').mono ?_
  rintro e w' ⟨rfl, n, rfl⟩
  exact ⟨rfl, below_drewN (Below.refl _ _) n⟩
/-- Does a list hold such a packet? -/
def Has (ps : List Pk) (id : Int) (bs : List Nat) : Prop := ∃ p ∈ ps, p.id = id ∧ p.bs = bs
theorem row3_at {w : World} {base : Nat} {a : Option Addr} {n c : Nat} {ps : List Pk} (h : OutP base w (.slice a n c) ps) {k : Nat} {p : Pk} (hk : ps[k]? = some p) : ∃ g, a = some ⟨g, 0, none⟩ ∧ g < w.heap.size ∧ w.cell? ⟨g, k * 3, none⟩ = some (.bool false) ∧ w.cell? ⟨g, k * 3 + 1, none⟩ = some (.int .i64 p.id) ∧ w.cell? ⟨g, k * 3 + 2, none⟩ = some p.bv := by
  have hl := (List.getElem?_eq_some_iff.1 hk).1
  obtain ⟨g, cap, e, _, lt, _⟩ := Row3.some (f := pkL) h.row (by omega)
  injection e with e1 e2 e3
  subst e1 e2 e3
  have c := fun j u hu => (Row3.cell (f := pkL) pkL_len h.row hk j u hu).2
  exact ⟨g, rfl, lt, c 0 _ rfl, c 1 _ rfl, c 2 _ rfl⟩
theorem OutP.mem {base : Nat} {w : World} {v : Value} {ps : List Pk} (h : OutP base w v ps) {k : Nat} {p : Pk} (hk : ps[k]? = some p) : RdB w p.bv p.bs := RowV.rd (h.bd p (List.mem_of_getElem? hk))
theorem OutP.n {base : Nat} {w : World} {a : Option Addr} {n c : Nat} {ps : List Pk} (h : OutP base w (.slice a n c) ps) : n = ps.length := by
  obtain ⟨_, _, e, _⟩ := h.len
  injection e

end Go.Proofs.Yteppdlaoeoeplaa
