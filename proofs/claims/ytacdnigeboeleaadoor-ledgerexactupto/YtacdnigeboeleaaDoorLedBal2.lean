/-
  Ours: Balance, the program's and the document's; the walk of LedgerBalances.
-/
import Derived.Test.YtacdnigeboeleaaDoorLedBal
import Derived.Test.YtacdnigeboeleaaDoorLedNet
namespace Go.Proofs.YtacdnigeboeleaaDoor
open Go.RowKit LedM

namespace LedM
def balV (l : List Int) (a : Int) : Int := if isA a then (if isD a then l.getD a.toNat 0 else if l.getD a.toNat 0 = -9223372036854775808 then 0 else -(l.getD a.toNat 0)) else 0
def balE (l : List Int) (a : Int) : Int := if isA a then (if isD a then 0 else if l.getD a.toNat 0 = -9223372036854775808 then 3 else 0) else 80
end LedM

set_option maxHeartbeats 1000000 in
theorem balance_at (l : List Int) (a : Int) (w : World) (hl : BkOk l) (hT : TabD w) : Calls Tryd.prog 25 #[.agg (bkL l).toArray, .int .i64 a] w fun e w' => e = .returned (.tuple #[.int .i64 (balV l a), .int .i64 (balE l a)]) ∧ Below w.heap.size w w' := by
  have BA := below_alloc w (.cells (bkL l).toArray 25)
  have NB := Blk.new 25 (bkL l) w
  have FIN : Hid (Below w.heap.size w (w.alloc (.cells (bkL l).toArray 25))) := BA
  have KN : Hid (∀ w, Calls Tryd.prog 37 #[.int .i64 a] w fun e w' => e = .returned (.bool (isA a)) ∧ w' = w) := fun w => known_at a w
  unfold balV balE
  by_cases hA : isA a = true
  · have hn : 0 ≤ a ∧ a < 12 := by simpa [isA] using hA
    rw [hA] at KN
    rw [if_pos hA, if_pos hA]
    obtain ⟨k, rfl⟩ : ∃ k : Nat, a = (k : Int) := ⟨a.toNat, by omega⟩
    have hk : k < 12 := by omega
    rw [Int.toNat_natCast]
    have c := (hT.later BA) k hk
    have c0 := NB.cell k _ (bkL_at (by rw [hl.1]; exact hk))
    have hb := hl.2 k
    generalize isD (k : Int) = b at *
    generalize l.getD k 0 = x at *
    generalize bkL l = cs at *
    clear hT hn hA BA NB hl
    obtain ⟨b0, b1⟩ := hb
    cases b
    · simp only [Bool.false_eq_true, ↓reduceIte]
      by_cases hx : x = -9223372036854775808
      · subst hx
        simp only [↓reduceIte]
        go_enter Tryd.func25, Tryd.ntmps25
        go_wp2_with fail
        refine (KN.out _).mono ?_
        rintro e w1 ⟨rfl, rfl⟩
        go_wp2_with fail
        go_ret2
        exact ⟨rfl, FIN.out⟩
      · rw [if_neg hx, if_neg hx]
        have e1 : (x == -9223372036854775808) = false := beq_eq_false_iff_ne.2 hx
        have e2 : Hid (wrap64 (-x) = -x) := by show _ = _; unfold wrap64; omega
        clear hx
        go_enter Tryd.func25, Tryd.ntmps25
        go_wp2_with fail
        refine (KN.out _).mono ?_
        rintro e w1 ⟨rfl, rfl⟩
        go_wp2_with fail
        go_ret2
        refine ⟨?_, FIN.out⟩
        show Ending.returned (.tuple #[.int .i64 (wrap64 (-x)), .int .i64 0]) = _
        rw [e2.out]
    · simp only [↓reduceIte]
      go_enter Tryd.func25, Tryd.ntmps25
      go_wp2_with fail
      refine (KN.out _).mono ?_
      rintro e w1 ⟨rfl, rfl⟩
      go_wp2_with fail
      go_ret2
      exact ⟨rfl, FIN.out⟩
  · rw [if_neg hA, if_neg hA]
    have hA' : isA a = false := by simpa using hA
    rw [hA'] at KN
    clear hT BA NB hl hA
    go_enter Tryd.func25, Tryd.ntmps25
    go_wp2_with fail
    refine (KN.out _).mono ?_
    rintro e w1 ⟨rfl, rfl⟩
    go_wp2_with fail
    go_ret2
    exact ⟨rfl, FIN.out⟩

set_option maxHeartbeats 1000000 in
theorem rbalance_at (l : List Int) (a : Int) (w : World) (hl : BkOk l) : Calls Tryd.prog 26 #[.agg (bkL l).toArray, .int .i64 a] w fun e w' => e = .returned (.tuple #[.int .i64 (balV l a), .int .i64 (balE l a)]) ∧ Below w.heap.size w w' := by
  have BA := below_alloc w (.cells (bkL l).toArray 25)
  have NB := Blk.new 25 (bkL l) w
  have FIN : Hid (Below w.heap.size w (w.alloc (.cells (bkL l).toArray 25))) := BA
  have KN : Hid (∀ w, Calls Tryd.prog 41 #[.int .i64 a] w fun e w' => e = .returned (.bool (isA a)) ∧ w' = w) := fun w => ris_at a w
  have DB : Hid (∀ w, Calls Tryd.prog 28 #[.int .i64 a] w fun e w' => e = .returned (.bool (isD a)) ∧ w' = w) := fun w => rdebits_at a w
  unfold balV balE
  by_cases hA : isA a = true
  · have hn : 0 ≤ a ∧ a < 12 := by simpa [isA] using hA
    rw [hA] at KN
    rw [if_pos hA, if_pos hA]
    obtain ⟨k, rfl⟩ : ∃ k : Nat, a = (k : Int) := ⟨a.toNat, by omega⟩
    have hk : k < 12 := by omega
    rw [Int.toNat_natCast]
    have c0 := NB.cell k _ (bkL_at (by rw [hl.1]; exact hk))
    have hb := hl.2 k
    generalize isD (k : Int) = b at *
    generalize l.getD k 0 = x at *
    generalize bkL l = cs at *
    clear hn hA BA NB hl
    obtain ⟨b0, b1⟩ := hb
    cases b
    · simp only [Bool.false_eq_true, ↓reduceIte]
      by_cases hx : x = -9223372036854775808
      · subst hx
        simp only [↓reduceIte]
        go_enter Tryd.func26, Tryd.ntmps26
        go_wp2_with fail
        refine (KN.out _).mono ?_
        rintro e w1 ⟨rfl, rfl⟩
        go_wp2_with fail
        refine (DB.out _).mono ?_
        rintro e w1 ⟨rfl, rfl⟩
        go_wp2_with fail
        go_ret2
        exact ⟨rfl, FIN.out⟩
      · rw [if_neg hx, if_neg hx]
        have e1 : (x == -9223372036854775808) = false := beq_eq_false_iff_ne.2 hx
        have e2 : Hid (wrap64 (-x) = -x) := by show _ = _; unfold wrap64; omega
        clear hx
        go_enter Tryd.func26, Tryd.ntmps26
        go_wp2_with fail
        refine (KN.out _).mono ?_
        rintro e w1 ⟨rfl, rfl⟩
        go_wp2_with fail
        refine (DB.out _).mono ?_
        rintro e w1 ⟨rfl, rfl⟩
        go_wp2_with fail
        go_ret2
        refine ⟨?_, FIN.out⟩
        show Ending.returned (.tuple #[.int .i64 (wrap64 (-x)), .int .i64 0]) = _
        rw [e2.out]
    · simp only [↓reduceIte]
      go_enter Tryd.func26, Tryd.ntmps26
      go_wp2_with fail
      refine (KN.out _).mono ?_
      rintro e w1 ⟨rfl, rfl⟩
      go_wp2_with fail
      refine (DB.out _).mono ?_
      rintro e w1 ⟨rfl, rfl⟩
      go_wp2_with fail
      go_ret2
      exact ⟨rfl, FIN.out⟩
  · rw [if_neg hA, if_neg hA]
    have hA' : isA a = false := by simpa using hA
    rw [hA'] at KN
    clear BA NB hl hA
    go_enter Tryd.func26, Tryd.ntmps26
    go_wp2_with fail
    refine (KN.out _).mono ?_
    rintro e w1 ⟨rfl, rfl⟩
    go_wp2_with fail
    go_ret2
    exact ⟨rfl, FIN.out⟩




set_option maxHeartbeats 1000000 in
theorem balances_any (l : List Int) (a : Int) (w : World) (hl : BkOk l) (hT : TabD w) : Calls Tryd.prog 8 #[.agg (bkL l).toArray, .int .i64 a] w fun e w' => e = .returned (.bool true) ∧ Below w.heap.size w w' := by
  have BB : Hid (Below w.heap.size w (w.alloc (.cells (bkL l).toArray 25))) := below_alloc w (.cells (bkL l).toArray 25)
  have NB : Hid (Blk w.heap.size 25 (bkL l) (w.alloc (.cells (bkL l).toArray 25))) := Blk.new 25 (bkL l) w
  have B1 : Hid (∀ w', Below w.heap.size w w' → Calls Tryd.prog 25 #[.agg (bkL l).toArray, .int .i64 a] w' fun e w2 => e = .returned (.tuple #[.int .i64 (balV l a), .int .i64 (balE l a)]) ∧ Below w'.heap.size w' w2) := fun w' hb => balance_at l a w' hl (hT.later hb)
  have B2 : Hid (∀ w', Calls Tryd.prog 26 #[.agg (bkL l).toArray, .int .i64 a] w' fun e w2 => e = .returned (.tuple #[.int .i64 (balV l a), .int .i64 (balE l a)]) ∧ Below w'.heap.size w' w2) := fun w' => rbalance_at l a w' hl
  have D1 : Hid (∀ w', Below w.heap.size w w' → Calls Tryd.prog 27 #[.int .i64 a] w' fun e w2 => e = .returned (.bool (isD a)) ∧ w2 = w') := fun w' hb => debits_at a w' (hT.later hb)
  have D2 : Hid (∀ w', Calls Tryd.prog 28 #[.int .i64 a] w' fun e w2 => e = .returned (.bool (isD a)) ∧ w2 = w') := fun w' => rdebits_at a w'
  have CI : Hid ((Tryd.prog.info? 25).map (·.size) = some (bkL l).length) := by show _ = _; rw [bkL_len, hl.1]; exact cellsBk
  generalize balV l a = x at *
  generalize balE l a = y at *
  generalize isD a = d at *
  generalize bkL l = cs at *
  clear hl hT
  have e1 : (x == x) = true := beq_self_eq_true x
  have e2 : (y == y) = true := beq_self_eq_true y
  have e3 : (d == d) = true := beq_self_eq_true d
  go_enter Tryd.func8, Tryd.ntmps8
  go_wp2_with (refine step_load rfl 25 _ rfl w.heap.size 0 rfl cs _ NB.out.all Tryd.underlying25 rfl CI.out ?_)
  refine (B1.out _ BB.out).mono ?_
  rintro e w1 ⟨rfl, b1⟩
  have NB1 : Hid (Blk w.heap.size 25 cs w1) := NB.out.below b1
  have BB1 : Hid (Below w.heap.size w w1) := below_trans BB.out b1
  clear BB NB b1
  go_wp2_with (refine step_load rfl 25 _ rfl w.heap.size 0 rfl cs _ NB1.out.all Tryd.underlying25 rfl CI.out ?_)
  refine (B2.out _).mono ?_
  rintro e w2 ⟨rfl, b2⟩
  have BB2 : Hid (Below w.heap.size w w2) := below_trans BB1.out b2
  clear BB1 NB1 b2
  go_wp2_with fail
  refine (D1.out _ BB2.out).mono ?_
  rintro e w3 ⟨rfl, rfl⟩
  go_wp2_with fail
  refine (D2.out _).mono ?_
  rintro e w4 ⟨rfl, rfl⟩
  go_wp2_with fail
  go_ret
  exact ⟨rfl, BB2.out⟩
end Go.Proofs.YtacdnigeboeleaaDoor
