/-
  Ours: a day's date as a function; contracts of calendar.thirties, calendar.Between.
-/
import Derived.Test.YtnelmgjdbheogacDoorCalMon
namespace Go.Proofs.YtnelmgjdbheogacDoor
open Go.RowKit CalM

noncomputable def dateOf (d : Int) : Int × Int × Int := if h : 1 ≤ d ∧ d ≤ 3652059 then
  (Classical.choose (civil_exists d h.1 h.2), Classical.choose (Classical.choose_spec (civil_exists d h.1 h.2)), Classical.choose (Classical.choose_spec (Classical.choose_spec (civil_exists d h.1 h.2)))) else (0, 0, 0)
noncomputable def dY (d : Int) : Int := (dateOf d).1
noncomputable def dM (d : Int) : Int := (dateOf d).2.1
noncomputable def dK (d : Int) : Int := (dateOf d).2.2

theorem date_spec (d : Int) (h1 : 1 ≤ d) (h2 : d ≤ 3652059) : Ok (dY d) (dM d) (dK d) ∧ dA (dY d) (dM d) + dK d = d := by
  unfold dY dM dK dateOf
  rw [dif_pos ⟨h1, h2⟩]
  exact Classical.choose_spec (Classical.choose_spec (Classical.choose_spec (civil_exists d h1 h2)))
theorem date_is {y m k d : Int} (h : Ok y m k) (hd : dA y m + k = d) : dY d = y ∧ dM d = m ∧ dK d = k := by
  have r := day_range h
  rw [hd] at r
  obtain ⟨a, b⟩ := date_spec d r.1 r.2
  exact date_unique a h (b.trans hd.symm)

/-- Days as if each month had 30, by the two dates. -/
def th (y m k y' m' k' : Int) : Int := 360 * (y' - y) + 30 * (m' - m) + (if min k 30 = 30 then min k' 30 else k') - min k 30
noncomputable def thN (f t : Int) : Int := th (dY f) (dM f) (dK f) (dY t) (dM t) (dK t)

set_option maxHeartbeats 2000000 in
theorem thirties_at (f t n : Int) (f1 : 1 ≤ f) (f2 : f ≤ 3652059) (t1 : 1 ≤ t) (t2 : t ≤ 3652059) (hn : thN f t = n) (w : World) (hA : TabA w) :
    Calls Tryd.prog 53 #[.int .i64 f, .int .i64 t] w fun e w' => e = .returned (.int .i64 n) ∧ Up w w' := by
  obtain ⟨okf, ef⟩ := date_spec f f1 f2
  obtain ⟨okt, et⟩ := date_spec t t1 t2
  unfold thN at hn
  generalize dY f = y at *
  generalize dM f = m at *
  generalize dK f = k at *
  generalize dY t = y' at *
  generalize dM t = m' at *
  generalize dK t = k' at *
  have CF : Hid (∀ w : World, TabA w → Calls Tryd.prog 15 #[.int .i64 f] w fun e w' => e = .returned (.tuple #[.agg #[.int .i64 y, .int .i64 m, .int .i64 k], .bool true]) ∧ ∃ o, w' = w.alloc o) := fun w hA => civil_at y m k f okf ef w hA
  have CT : Hid (∀ w : World, TabA w → Calls Tryd.prog 15 #[.int .i64 t] w fun e w' => e = .returned (.tuple #[.agg #[.int .i64 y', .int .i64 m', .int .i64 k'], .bool true]) ∧ ∃ o, w' = w.alloc o) := fun w hA => civil_at y' m' k' t okt et w hA
  have HA : Hid (TabA w) := hA
  have HN : Hid (th y m k y' m' k' = n) := hn
  have l1 := len_high y m
  have l2 := len_high y' m'
  obtain ⟨y1, y2, m1, m2, k1, k2⟩ := okf
  obtain ⟨y3, y4, m3, m4, k3, k4⟩ := okt
  generalize lenI y m = L at *
  generalize lenI y' m' = L' at *
  clear hA hn ef et f1 f2 t1 t2
  by_cases kk : k < 30
  · have nk : ¬ k = 30 := by omega
    go_enter Tryd.func53, Tryd.ntmps53
    go_wp2_with fail
    refine (CF.out _ (by repeat (first | exact HA.out | refine TabA.al ?_ _))).mono ?_
    rintro e w1 ⟨rfl, o1, hw⟩; rw [hw]; clear hw w1
    go_wp2_with fail
    refine (CT.out _ (by repeat (first | exact HA.out | refine TabA.al ?_ _))).mono ?_
    rintro e w1 ⟨rfl, o2, hw⟩; rw [hw]; clear hw w1
    go_wp2_with fail
    obtain ⟨W, hW⟩ : ∃ W, ((((w.alloc o1).alloc (.cells #[.int .i64 y, .int .i64 m, .int .i64 k] 36)).alloc o2).alloc (.cells #[.int .i64 y', .int .i64 m', .int .i64 k'] 36)) = W := ⟨_, rfl⟩
    have UW : Hid (Up w W) := by rw [← hW]; repeat (first | exact Up.refl _ | refine Up.alloc ?_ _)
    obtain ⟨be, hbe⟩ : ∃ be, w.heap.size + 1 + 1 + 1 = be := ⟨_, rfl⟩
    obtain ⟨bd, hbd⟩ : ∃ bd, w.heap.size + 1 = bd := ⟨_, rfl⟩
    have d0 : W.cell? ⟨bd, 0, none⟩ = some (.int .i64 y) := by subst hW hbd; exact Up.cell (w := (w.alloc o1).alloc (.cells #[.int .i64 y, .int .i64 m, .int .i64 k] 36)) (by repeat (first | exact Up.refl _ | refine Up.alloc ?_ _)) (cell_new _ _ _ 0 _ _ rfl (size_al _ _ _ rfl))
    have d1 : W.cell? ⟨bd, 1, none⟩ = some (.int .i64 m) := by subst hW hbd; exact Up.cell (w := (w.alloc o1).alloc (.cells #[.int .i64 y, .int .i64 m, .int .i64 k] 36)) (by repeat (first | exact Up.refl _ | refine Up.alloc ?_ _)) (cell_new _ _ _ 1 _ _ rfl (size_al _ _ _ rfl))
    have d2 : W.cell? ⟨bd, 2, none⟩ = some (.int .i64 k) := by subst hW hbd; exact Up.cell (w := (w.alloc o1).alloc (.cells #[.int .i64 y, .int .i64 m, .int .i64 k] 36)) (by repeat (first | exact Up.refl _ | refine Up.alloc ?_ _)) (cell_new _ _ _ 2 _ _ rfl (size_al _ _ _ rfl))
    have f0 : W.cell? ⟨be, 0, none⟩ = some (.int .i64 y') := by subst hW hbe; exact cell_new _ _ _ 0 _ _ rfl (by repeat (first | exact rfl | refine size_al _ _ _ ?_))
    have f1 : W.cell? ⟨be, 1, none⟩ = some (.int .i64 m') := by subst hW hbe; exact cell_new _ _ _ 1 _ _ rfl (by repeat (first | exact rfl | refine size_al _ _ _ ?_))
    have f2 : W.cell? ⟨be, 2, none⟩ = some (.int .i64 k') := by subst hW hbe; exact cell_new _ _ _ 2 _ _ rfl (by repeat (first | exact rfl | refine size_al _ _ _ ?_))
    rw [hW, hbe, hbd]
    clear hW hbe hbd CF CT HA
    go_quiet (fail)
    go_wp2_with fail
    all_goals
      go_ret
      exact ⟨ret_int (by have := HN.out; unfold th at this; omega), up_drewN UW.out _⟩
  by_cases k3 : k = 30
  · subst k3
    go_enter Tryd.func53, Tryd.ntmps53
    go_wp2_with fail
    refine (CF.out _ (by repeat (first | exact HA.out | refine TabA.al ?_ _))).mono ?_
    rintro e w1 ⟨rfl, o1, hw⟩; rw [hw]; clear hw w1
    go_wp2_with fail
    refine (CT.out _ (by repeat (first | exact HA.out | refine TabA.al ?_ _))).mono ?_
    rintro e w1 ⟨rfl, o2, hw⟩; rw [hw]; clear hw w1
    go_wp2_with fail
    obtain ⟨W, hW⟩ : ∃ W, ((((w.alloc o1).alloc (.cells #[.int .i64 y, .int .i64 m, .int .i64 30] 36)).alloc o2).alloc (.cells #[.int .i64 y', .int .i64 m', .int .i64 k'] 36)) = W := ⟨_, rfl⟩
    have UW : Hid (Up w W) := by rw [← hW]; repeat (first | exact Up.refl _ | refine Up.alloc ?_ _)
    obtain ⟨be, hbe⟩ : ∃ be, w.heap.size + 1 + 1 + 1 = be := ⟨_, rfl⟩
    obtain ⟨bd, hbd⟩ : ∃ bd, w.heap.size + 1 = bd := ⟨_, rfl⟩
    have d0 : W.cell? ⟨bd, 0, none⟩ = some (.int .i64 y) := by subst hW hbd; exact Up.cell (w := (w.alloc o1).alloc (.cells #[.int .i64 y, .int .i64 m, .int .i64 30] 36)) (by repeat (first | exact Up.refl _ | refine Up.alloc ?_ _)) (cell_new _ _ _ 0 _ _ rfl (size_al _ _ _ rfl))
    have d1 : W.cell? ⟨bd, 1, none⟩ = some (.int .i64 m) := by subst hW hbd; exact Up.cell (w := (w.alloc o1).alloc (.cells #[.int .i64 y, .int .i64 m, .int .i64 30] 36)) (by repeat (first | exact Up.refl _ | refine Up.alloc ?_ _)) (cell_new _ _ _ 1 _ _ rfl (size_al _ _ _ rfl))
    have d2 : W.cell? ⟨bd, 2, none⟩ = some (.int .i64 30) := by subst hW hbd; exact Up.cell (w := (w.alloc o1).alloc (.cells #[.int .i64 y, .int .i64 m, .int .i64 30] 36)) (by repeat (first | exact Up.refl _ | refine Up.alloc ?_ _)) (cell_new _ _ _ 2 _ _ rfl (size_al _ _ _ rfl))
    have f0 : W.cell? ⟨be, 0, none⟩ = some (.int .i64 y') := by subst hW hbe; exact cell_new _ _ _ 0 _ _ rfl (by repeat (first | exact rfl | refine size_al _ _ _ ?_))
    have f1 : W.cell? ⟨be, 1, none⟩ = some (.int .i64 m') := by subst hW hbe; exact cell_new _ _ _ 1 _ _ rfl (by repeat (first | exact rfl | refine size_al _ _ _ ?_))
    have f2 : W.cell? ⟨be, 2, none⟩ = some (.int .i64 k') := by subst hW hbe; exact cell_new _ _ _ 2 _ _ rfl (by repeat (first | exact rfl | refine size_al _ _ _ ?_))
    rw [hW, hbe, hbd]
    clear hW hbe hbd CF CT HA
    go_quiet (fail)
    go_wp2_with fail
    all_goals
      go_ret
      exact ⟨ret_int (by have := HN.out; unfold th at this; omega), up_drewN UW.out _⟩
  · have ko : 30 < k := by omega
    go_enter Tryd.func53, Tryd.ntmps53
    go_wp2_with fail
    refine (CF.out _ (by repeat (first | exact HA.out | refine TabA.al ?_ _))).mono ?_
    rintro e w1 ⟨rfl, o1, hw⟩; rw [hw]; clear hw w1
    go_wp2_with fail
    refine (CT.out _ (by repeat (first | exact HA.out | refine TabA.al ?_ _))).mono ?_
    rintro e w1 ⟨rfl, o2, hw⟩; rw [hw]; clear hw w1
    go_wp2_with fail
    obtain ⟨W, hW⟩ : ∃ W, ((((w.alloc o1).alloc (.cells #[.int .i64 y, .int .i64 m, .int .i64 k] 36)).alloc o2).alloc (.cells #[.int .i64 y', .int .i64 m', .int .i64 k'] 36)) = W := ⟨_, rfl⟩
    have UW : Hid (Up w W) := by rw [← hW]; repeat (first | exact Up.refl _ | refine Up.alloc ?_ _)
    obtain ⟨be, hbe⟩ : ∃ be, w.heap.size + 1 + 1 + 1 = be := ⟨_, rfl⟩
    obtain ⟨bd, hbd⟩ : ∃ bd, w.heap.size + 1 = bd := ⟨_, rfl⟩
    have d0 : W.cell? ⟨bd, 0, none⟩ = some (.int .i64 y) := by subst hW hbd; exact Up.cell (w := (w.alloc o1).alloc (.cells #[.int .i64 y, .int .i64 m, .int .i64 k] 36)) (by repeat (first | exact Up.refl _ | refine Up.alloc ?_ _)) (cell_new _ _ _ 0 _ _ rfl (size_al _ _ _ rfl))
    have d1 : W.cell? ⟨bd, 1, none⟩ = some (.int .i64 m) := by subst hW hbd; exact Up.cell (w := (w.alloc o1).alloc (.cells #[.int .i64 y, .int .i64 m, .int .i64 k] 36)) (by repeat (first | exact Up.refl _ | refine Up.alloc ?_ _)) (cell_new _ _ _ 1 _ _ rfl (size_al _ _ _ rfl))
    have d2 : W.cell? ⟨bd, 2, none⟩ = some (.int .i64 k) := by subst hW hbd; exact Up.cell (w := (w.alloc o1).alloc (.cells #[.int .i64 y, .int .i64 m, .int .i64 k] 36)) (by repeat (first | exact Up.refl _ | refine Up.alloc ?_ _)) (cell_new _ _ _ 2 _ _ rfl (size_al _ _ _ rfl))
    have f0 : W.cell? ⟨be, 0, none⟩ = some (.int .i64 y') := by subst hW hbe; exact cell_new _ _ _ 0 _ _ rfl (by repeat (first | exact rfl | refine size_al _ _ _ ?_))
    have f1 : W.cell? ⟨be, 1, none⟩ = some (.int .i64 m') := by subst hW hbe; exact cell_new _ _ _ 1 _ _ rfl (by repeat (first | exact rfl | refine size_al _ _ _ ?_))
    have f2 : W.cell? ⟨be, 2, none⟩ = some (.int .i64 k') := by subst hW hbe; exact cell_new _ _ _ 2 _ _ rfl (by repeat (first | exact rfl | refine size_al _ _ _ ?_))
    rw [hW, hbe, hbd]
    clear hW hbe hbd CF CT HA
    go_quiet (fail)
    go_wp2_with fail
    all_goals
      go_ret
      exact ⟨ret_int (by have := HN.out; unfold th at this; omega), up_drewN UW.out _⟩

/-- What Between answers. -/
def betB (f t b : Int) : Bool := decide ((1 ≤ f ∧ f ≤ 3652059) ∧ (1 ≤ t ∧ t ≤ 3652059) ∧ (b = 0 ∨ b = 1))
noncomputable def betN (f t b : Int) : Int := if betB f t b then (if b = 0 then t - f else if f > t then -thN t f else thN f t) else 0

theorem th_bound {f t : Int} (f1 : 1 ≤ f) (f2 : f ≤ 3652059) (t1 : 1 ≤ t) (t2 : t ≤ 3652059) : -10000000 ≤ thN f t ∧ thN f t ≤ 10000000 := by
  obtain ⟨okf, _⟩ := date_spec f f1 f2
  obtain ⟨okt, _⟩ := date_spec t t1 t2
  unfold thN th
  have l1 := len_high (dY f) (dM f)
  have l2 := len_high (dY t) (dM t)
  obtain ⟨y1, y2, m1, m2, k1, k2⟩ := okf
  obtain ⟨y3, y4, m3, m4, k3, k4⟩ := okt
  generalize dY f = y at *
  generalize dM f = m at *
  generalize dK f = k at *
  generalize dY t = y' at *
  generalize dM t = m' at *
  generalize dK t = k' at *
  omega

set_option maxHeartbeats 2000000 in
theorem between_up (f t b n : Int) (g : Bool) (hn : betN f t b = n) (hg : betB f t b = g) (w : World) (hA : TabA w) :
    Calls Tryd.prog 44 #[.int .i64 f, .int .i64 t, .int .i64 b] w fun e w' => e = .returned (.tuple #[.int .i64 n, .bool g]) ∧ Up w w' := by
  by_cases hf : 1 ≤ f ∧ f ≤ 3652059
  · have DF : Hid (∀ w, Calls Tryd.prog 30 #[.int .i64 f] w fun e w' => e = .returned (.bool true) ∧ w' = w) := fun w => isDay_at f true (decide_eq_true hf) w
    by_cases ht : 1 ≤ t ∧ t ≤ 3652059
    · have DT : Hid (∀ w, Calls Tryd.prog 30 #[.int .i64 t] w fun e w' => e = .returned (.bool true) ∧ w' = w) := fun w => isDay_at t true (decide_eq_true ht) w
      have TF : Hid (∀ w, TabA w → Calls Tryd.prog 53 #[.int .i64 f, .int .i64 t] w fun e w' => e = .returned (.int .i64 (thN f t)) ∧ Up w w') := fun w hA => thirties_at f t _ hf.1 hf.2 ht.1 ht.2 rfl w hA
      have TT : Hid (∀ w, TabA w → Calls Tryd.prog 53 #[.int .i64 t, .int .i64 f] w fun e w' => e = .returned (.int .i64 (thN t f)) ∧ Up w w') := fun w hA => thirties_at t f _ ht.1 ht.2 hf.1 hf.2 rfl w hA
      have HA : Hid (TabA w) := hA
      have b1 := th_bound hf.1 hf.2 ht.1 ht.2
      have b2 := th_bound ht.1 ht.2 hf.1 hf.2
      obtain ⟨f1, f2⟩ := hf
      obtain ⟨t1, t2⟩ := ht
      by_cases c0 : b = 0
      · subst c0
        have e1 : betB f t 0 = true := decide_eq_true ⟨⟨f1, f2⟩, ⟨t1, t2⟩, Or.inl rfl⟩
        have e2 : betN f t 0 = t - f := by unfold betN; rw [e1]; simp
        rw [e1] at hg
        rw [e2] at hn
        subst hg hn
        clear e1 e2 hA TF TT b1 b2
        go_enter Tryd.func44, Tryd.ntmps44
        go_wp2_with fail
        refine (DF.out _).mono ?_
        rintro e w1 ⟨rfl, hw⟩; rw [hw]; clear hw w1
        go_wp2_with fail
        refine (DT.out _).mono ?_
        rintro e w1 ⟨rfl, hw⟩; rw [hw]; clear hw w1
        go_wp2_with fail
        go_ret2
        exact ⟨rfl, Up.refl _⟩
      · by_cases c1 : b = 1
        · subst c1
          have e1 : betB f t 1 = true := decide_eq_true ⟨⟨f1, f2⟩, ⟨t1, t2⟩, Or.inr rfl⟩
          have e2 : betN f t 1 = if f > t then -thN t f else thN f t := by unfold betN; rw [e1]; simp
          rw [e1] at hg
          rw [e2] at hn
          subst hg
          have HN : Hid ((if f > t then -thN t f else thN f t) = n) := hn
          clear e1 e2 hA hn c0
          generalize thN t f = y1 at *
          generalize thN f t = y2 at *
          by_cases c : f > t
          · go_enter Tryd.func44, Tryd.ntmps44
            go_wp2_with fail
            refine (DF.out _).mono ?_
            rintro e w1 ⟨rfl, hw⟩; rw [hw]; clear hw w1
            go_wp2_with fail
            refine (DT.out _).mono ?_
            rintro e w1 ⟨rfl, hw⟩; rw [hw]; clear hw w1
            go_wp2_with fail
            refine (TT.out _ HA.out).mono ?_
            rintro e w1 ⟨rfl, U1⟩
            go_wp2_with fail
            go_ret2
            exact ⟨ret_ib (by have := HN.out; rw [if_pos (by omega)] at this; omega) rfl, U1⟩
          · go_enter Tryd.func44, Tryd.ntmps44
            go_wp2_with fail
            refine (DF.out _).mono ?_
            rintro e w1 ⟨rfl, hw⟩; rw [hw]; clear hw w1
            go_wp2_with fail
            refine (DT.out _).mono ?_
            rintro e w1 ⟨rfl, hw⟩; rw [hw]; clear hw w1
            go_wp2_with fail
            refine (TF.out _ HA.out).mono ?_
            rintro e w1 ⟨rfl, U1⟩
            go_wp2_with fail
            go_ret2
            exact ⟨ret_ib (by have := HN.out; rw [if_neg (by omega)] at this; omega) rfl, U1⟩
        · have e1 : betB f t b = false := decide_eq_false (fun h => by rcases h.2.2 with h | h <;> contradiction)
          have e2 : betN f t b = 0 := by unfold betN; rw [e1]; simp
          rw [e1] at hg
          rw [e2] at hn
          subst hg hn
          clear e1 e2 hA TF TT b1 b2
          go_enter Tryd.func44, Tryd.ntmps44
          go_wp2_with fail
          refine (DF.out _).mono ?_
          rintro e w1 ⟨rfl, hw⟩; rw [hw]; clear hw w1
          go_wp2_with fail
          refine (DT.out _).mono ?_
          rintro e w1 ⟨rfl, hw⟩; rw [hw]; clear hw w1
          go_wp2_with fail
          go_ret2
          exact ⟨rfl, Up.refl _⟩
    · have DT : Hid (∀ w, Calls Tryd.prog 30 #[.int .i64 t] w fun e w' => e = .returned (.bool false) ∧ w' = w) := fun w => isDay_at t false (decide_eq_false ht) w
      have e1 : betB f t b = false := decide_eq_false (fun h => ht h.2.1)
      have e2 : betN f t b = 0 := by unfold betN; rw [e1]; simp
      rw [e1] at hg
      rw [e2] at hn
      subst hg hn
      clear e1 e2 hA hf ht
      go_enter Tryd.func44, Tryd.ntmps44
      go_wp2_with fail
      refine (DF.out _).mono ?_
      rintro e w1 ⟨rfl, hw⟩; rw [hw]; clear hw w1
      go_wp2_with fail
      refine (DT.out _).mono ?_
      rintro e w1 ⟨rfl, hw⟩; rw [hw]; clear hw w1
      go_wp2_with fail
      go_ret2
      exact ⟨rfl, Up.refl _⟩
  · have DF : Hid (∀ w, Calls Tryd.prog 30 #[.int .i64 f] w fun e w' => e = .returned (.bool false) ∧ w' = w) := fun w => isDay_at f false (decide_eq_false hf) w
    have e1 : betB f t b = false := decide_eq_false (fun h => hf h.1)
    have e2 : betN f t b = 0 := by unfold betN; rw [e1]; simp
    rw [e1] at hg
    rw [e2] at hn
    subst hg hn
    clear e1 e2 hA hf
    go_enter Tryd.func44, Tryd.ntmps44
    go_wp2_with fail
    refine (DF.out _).mono ?_
    rintro e w1 ⟨rfl, hw⟩; rw [hw]; clear hw w1
    go_wp2_with fail
    go_ret2
    exact ⟨rfl, Up.refl _⟩
end Go.Proofs.YtnelmgjdbheogacDoor
