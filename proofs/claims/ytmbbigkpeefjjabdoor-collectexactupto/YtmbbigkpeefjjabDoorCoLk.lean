/-
  Ours: isDay, over, Open, lookForArrears.
-/
import Derived.Test.YtmbbigkpeefjjabDoorCoSm
namespace Go.Proofs.YtmbbigkpeefjjabDoor
open Go.RowKit LedM PolM CoM

theorem isD_at (t : Int) (w : World) : Calls Tryd.prog 66 #[.int .i64 t] w fun e w' => e = .returned (.bool (isD t)) ∧ w = w' := by
  unfold isD
  by_cases h1 : 1 ≤ t
  · have d1 : decide (1 ≤ t) = true := decide_eq_true h1
    go_enter Tryd.func66, Tryd.ntmps66
    go_wp2_with fail
    go_ret
    exact ⟨by simp [h1], rfl⟩
  · have d1 : decide (1 ≤ t) = false := decide_eq_false h1
    go_enter Tryd.func66, Tryd.ntmps66
    go_wp2_with fail
    go_ret
    exact ⟨by simp, rfl⟩

set_option maxRecDepth 20000 in
theorem open_at (c : Cs) (w : World) : Calls Tryd.prog 5 #[csV c] w fun e w' => e = .returned (.bool (opn c)) ∧ Below w.heap.size w w' := by
  have c0 := (Blk.new 27 (csL c) w).cell 0 _ rfl
  show Calls _ _ #[.agg (csL c).toArray] _ _
  unfold opn
  generalize csL c = cs at *
  generalize c.st = x at *
  by_cases h3 : x = 3
  · have d3 : (x == 3) = true := by simpa using h3
    have hh : decide (x = 3 ∨ x = 4 ∨ x = 5) = true := by simp [h3]
    rw [hh]
    clear h3 hh
    go_enter Tryd.func5, Tryd.ntmps5
    go_wp2_with fail
    go_ret
    exact ⟨rfl, below_alloc _ _⟩
  · have d3 : (x == 3) = false := by simpa using h3
    by_cases h4 : x = 4
    · have d4 : (x == 4) = true := by simpa using h4
      have hh : decide (x = 3 ∨ x = 4 ∨ x = 5) = true := by simp [h4]
      rw [hh]
      clear h3 h4 hh
      go_enter Tryd.func5, Tryd.ntmps5
      go_wp2_with fail
      go_ret
      exact ⟨rfl, below_alloc _ _⟩
    · have d4 : (x == 4) = false := by simpa using h4
      have hh : decide (x = 3 ∨ x = 4 ∨ x = 5) = (x == 5) := by simp [h3, h4]; rfl
      rw [hh]
      clear h3 h4 hh
      go_enter Tryd.func5, Tryd.ntmps5
      go_wp2_with fail
      go_ret
      exact ⟨rfl, below_alloc _ _⟩

section
variable {B M : Nat} {l : List Int} {s : Value} {c : Cs} {ac : List Int} {w : World}
set_option maxRecDepth 20000 in
theorem over_at (h : MAt B M l s (c, ac) w) : Calls Tryd.prog 67 #[mptr M] w fun e w' => e = .returned (.bool (ovr c)) ∧ w = w' := by
  have c18 : w.cell? ⟨M, 18, none⟩ = some (.int .i64 c.st) := h.cs 0 (by decide) _ rfl
  clear h
  unfold ovr
  generalize c.st = x at *
  by_cases h8 : x = 8
  · have d8 : (x == 8) = true := by simpa using h8
    have hh : decide (x = 8 ∨ x = 9) = true := by simp [h8]
    rw [hh]
    clear h8 hh
    go_enter Tryd.func67, Tryd.ntmps67
    go_wp2_with fail
    go_ret
    exact ⟨rfl, rfl⟩
  · have d8 : (x == 8) = false := by simpa using h8
    have hh : decide (x = 8 ∨ x = 9) = (x == 9) := by simp [h8]; rfl
    rw [hh]
    clear h8 hh
    go_enter Tryd.func67, Tryd.ntmps67
    go_wp2_with fail
    go_ret
    exact ⟨rfl, rfl⟩

theorem MAt.alloc (h : MAt B M l s (c, ac) w) (o : Obj) : MAt B M l s (c, ac) (w.alloc o) := h.below (below_alloc w o)

set_option maxRecDepth 20000 in
set_option maxHeartbeats 2000000 in
theorem look_at (e : Ev) (h : MAt B M l s (c, ac) w) (hn : ac.length ≤ 100) : Calls Tryd.prog 70 #[mptr M, evV e] w (Left B M l s (lok (l.getD 1 0) (l.getD 3 0) e (c, ac)) w) := by
  show Calls _ _ #[mptr M, .agg #[.int .i64 e.k, .int .i64 e.t, .int .i64 e.d, .int .i64 e.a]] _ _
  have c1 : w.cell? ⟨M, 1, none⟩ = some (.int .i64 (l.getD 1 0)) := h.pol 1 (by decide)
  have c18 : w.cell? ⟨M, 18, none⟩ = some (.int .i64 c.st) := h.cs 0 (by decide) _ rfl
  have f18 := h.fz 18
  have lt := h.lt
  have OC : Hid (∀ o n, Calls Tryd.prog 82 #[mptr M, .int .i64 e.t] ((w.alloc o).drewN n) (Left B M l s (opC (l.getD 3 0) e.t c, ac ++ [2]) w)) := fun o n =>
    (opC_at e.t ((h.alloc o).drewN n) hn).mono fun e w' k => Left.trans (((Fr.refl _ _ _).new h.size o).drewN n) k
  have ST : Hid (∀ o n z, Left B M l s ({ c with st := z }, ac) w (.returned (.tuple #[])) (((w.alloc o).drewN n).setCell ⟨M, 18, none⟩ (.int .i64 z))) := fun o n z => by
    have h1 := ((h.alloc o).drewN n).put 0 (by decide) (.int .i64 z) { c with st := z } rfl
    exact ⟨rfl, h1, Fr.set (((Fr.refl _ _ _).new h.size o).drewN n) h.ge ((h.alloc o).drewN n).size⟩
  have SA : Hid (∀ o n, Left B M l s (c, ac) w (.returned (.tuple #[])) ((w.alloc o).drewN n)) := fun o n => ⟨rfl, (h.alloc o).drewN n, ((Fr.refl _ _ _).new h.size o).drewN n⟩
  have L : lok (l.getD 1 0) (l.getD 3 0) e (c, ac) = if l.getD 1 0 < e.d then (opC (l.getD 3 0) e.t c, ac ++ [2]) else if 0 < e.d then ({ c with st := 2 }, ac) else if c.st = 2 then ({ c with st := 1 }, ac) else (c, ac) := rfl
  rw [L]
  clear L h
  generalize l.getD 1 0 = gr at *
  generalize opC (l.getD 3 0) e.t c = r at *
  obtain ⟨k, t, d, a⟩ := e
  simp only at OC ⊢
  by_cases h1 : gr < d
  · rw [if_pos h1]
    go_enter Tryd.func70, Tryd.ntmps70
    go_wp2_with fail
    go_quiet (fail)
    go_wp2_with fail
    refine (OC.out _ _).mono ?_
    rintro e w2 ⟨rfl, h2, b2⟩
    go_wp2_with fail
    go_end0
    exact ⟨rfl, h2, b2⟩
  · rw [if_neg h1]
    by_cases h2 : 0 < d
    · rw [if_pos h2]
      have ST2 : Hid (∀ o n, Left B M l s ({ c with st := 2 }, ac) w (.returned (.tuple #[])) (((w.alloc o).drewN n).setCell ⟨M, 18, none⟩ (.int .i64 2))) := fun o n => ST.out o n 2
      generalize c.st = x at *
      go_enter Tryd.func70, Tryd.ntmps70
      go_wp2_with fail
      go_quiet (fail)
      go_wp2_with fail
      go_end0
      exact ST2.out _ _
    · rw [if_neg h2]
      by_cases h3 : c.st = 2
      · rw [if_pos h3]
        rw [h3] at c18
        have ST2 : Hid (∀ o n, Left B M l s ({ c with st := 1 }, ac) w (.returned (.tuple #[])) (((w.alloc o).drewN n).setCell ⟨M, 18, none⟩ (.int .i64 1))) := fun o n => ST.out o n 1
        clear h3
        go_enter Tryd.func70, Tryd.ntmps70
        go_wp2_with fail
        go_quiet (fail)
        go_wp2_with fail
        go_end0
        exact ST2.out _ _
      · rw [if_neg h3]
        have d3 : (c.st == 2) = false := by simpa using h3
        clear h3 ST
        generalize c.st = x at *
        go_enter Tryd.func70, Tryd.ntmps70
        go_wp2_with fail
        go_quiet (fail)
        go_wp2_with fail
        go_end0
        exact SA.out _ _
end
end Go.Proofs.YtmbbigkpeefjjabDoor
