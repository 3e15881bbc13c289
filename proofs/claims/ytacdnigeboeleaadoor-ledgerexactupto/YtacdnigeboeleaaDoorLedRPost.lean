/-
  Ours: the document's refused, OwnSide, moves.
-/
import Derived.Test.YtacdnigeboeleaaDoorLedPure
import Derived.Test.YtacdnigeboeleaaDoorLedCat
import Derived.Test.YtacdnigeboeleaaDoorLedRTrial
namespace Go.Proofs.YtacdnigeboeleaaDoor
open Go.RowKit LedM

set_option maxHeartbeats 1000000 in
theorem refused_at (x : Ent) (w : World) : Calls Tryd.prog 33 #[.agg (entL x).toArray] w fun e w' => e = .returned (.int .i64 (entE x)) ∧ Below w.heap.size w w' := by
  have KN : Hid (∀ (a : Int) (w : World), Calls Tryd.prog 41 #[.int .i64 a] w fun e w' => e = .returned (.bool (isA a)) ∧ w' = w) := fun a w => ris_at a w
  have NB := Blk.new 41 (entL x) w
  have FIN : Hid (Below w.heap.size w (w.alloc (.cells (entL x).toArray 41))) := below_alloc _ _
  obtain ⟨xd, xc, xa⟩ := x
  have c0 := NB.cell 0 _ rfl
  have c1 := NB.cell 1 _ rfl
  have c2 := NB.cell 2 _ rfl
  have EE : Hid (entE ⟨xd, xc, xa⟩ = if !isA xd || !isA xc || xd == xc then 80 else if xa < 1 then 4 else 0) := rfl
  obtain ⟨R, HR⟩ : ∃ R, Hid (entE ⟨xd, xc, xa⟩ = R) := ⟨_, rfl⟩
  rw [HR.out]
  have FE : Hid ((if !isA xd || !isA xc || xd == xc then 80 else if xa < 1 then 4 else 0) = R) := HR.out
  clear NB HR EE
  generalize entL ⟨xd, xc, xa⟩ = cs at *
  go_enter Tryd.func33, Tryd.ntmps33
  go_wp2_with fail
  refine (KN.out _ _).mono ?_
  rintro e w3 ⟨rfl, rfl⟩
  generalize isA xd = ad at *
  cases ad
  · obtain rfl : R = 80 := by have := FE.out; simpa using this.symm
    go_wp2_with fail
    go_ret
    exact ⟨rfl, FIN.out⟩
  · go_wp2_with fail
    refine (KN.out _ _).mono ?_
    rintro e w3 ⟨rfl, rfl⟩
    generalize isA xc = ac at *
    cases ac
    · obtain rfl : R = 80 := by have := FE.out; simpa using this.symm
      go_wp2_with fail
      go_ret
      exact ⟨rfl, FIN.out⟩
    · obtain ⟨q, hq⟩ : ∃ q, (xd == xc) = q := ⟨_, rfl⟩
      cases q
      · by_cases ha : xa < 1
        · obtain rfl : R = 4 := by have := FE.out; rw [hq] at this; simp [ha] at this; exact this.symm
          have d1 : decide (xa < 1) = true := decide_eq_true ha
          go_wp2_with fail
          go_ret
          exact ⟨rfl, FIN.out⟩
        · obtain rfl : R = 0 := by have := FE.out; rw [hq] at this; simp [ha] at this; exact this.symm
          have d1 : decide (xa < 1) = false := decide_eq_false ha
          clear ha
          go_wp2_with fail
          go_ret
          exact ⟨rfl, FIN.out⟩
      · obtain rfl : R = 80 := by have := FE.out; rw [hq] at this; simpa using this.symm
        go_wp2_with fail
        go_ret
        exact ⟨rfl, FIN.out⟩

theorem LedM.ownB_yes {j : Nat} {x : Int} (h : isD (j : Int) = true) : decide (0 ≤ x) = ownB j x := by
  unfold ownB
  rw [h]
  by_cases a : x = 0
  · subst a; rfl
  · rw [beq_eq_false_iff_ne.2 a]
    by_cases b : 0 < x
    · rw [decide_eq_true b, decide_eq_true (show 0 ≤ x by omega)]; rfl
    · rw [decide_eq_false b, decide_eq_false (show ¬ 0 ≤ x by omega)]; rfl
theorem LedM.ownB_no {j : Nat} {x : Int} (h : isD (j : Int) = false) : decide (x ≤ 0) = ownB j x := by
  unfold ownB
  rw [h]
  by_cases a : x = 0
  · subst a; rfl
  · rw [beq_eq_false_iff_ne.2 a]
    by_cases b : 0 < x
    · rw [decide_eq_true b, decide_eq_false (show ¬ x ≤ 0 by omega)]; rfl
    · rw [decide_eq_false b, decide_eq_true (show x ≤ 0 by omega)]; rfl

set_option maxHeartbeats 1000000 in
theorem rown_at (j : Nat) (x : Int) (w : World) : Calls Tryd.prog 36 #[.int .i64 (j : Int), .int .i64 x] w fun e w' => e = .returned (.bool (ownB j x)) ∧ w' = w := by
  have DB : Hid (∀ w, Calls Tryd.prog 28 #[.int .i64 (j : Int)] w fun e w' => e = .returned (.bool (isD (j : Int))) ∧ w' = w) := fun w => rdebits_at _ w
  have OY : Hid (isD (j : Int) = true → decide (0 ≤ x) = ownB j x) := fun h => ownB_yes h
  have ON : Hid (isD (j : Int) = false → decide (x ≤ 0) = ownB j x) := fun h => ownB_no h
  generalize ownB j x = r at *
  generalize isD (j : Int) = b at *
  generalize (j : Int) = a at *
  go_enter Tryd.func36, Tryd.ntmps36
  go_wp2_with fail
  refine (DB.out _).mono ?_
  rintro e w1 ⟨rfl, rfl⟩
  cases b
  · go_wp2_with fail
    go_ret
    refine ⟨?_, rfl⟩
    rw [← ON.out (by first | rfl | trivial)]; rfl
  · go_wp2_with fail
    go_ret
    refine ⟨?_, rfl⟩
    rw [← OY.out (by first | rfl | trivial)]; rfl
end Go.Proofs.YtacdnigeboeleaaDoor
