/-
  Ours: the statements' helpers turn, timely and share.
-/
import Derived.Test.YtkabfdajpilomabDoorIntAmort2
import Derived.Test.YtkabfdajpilomabDoorIntAlike
import Derived.Test.YtkabfdajpilomabDoorIntLend
import Derived.Test.YtkabfdajpilomabDoorCalBus
import Derived.Deep.QuietTactic
import Derived.BigQuiet
namespace Go.Proofs.YtkabfdajpilomabDoor
open Go.RowKit IntM CalM

theorem turn_at (kind P r start rule first : Int) (n k : Nat) (k1 : k ≤ 120) (w : World) :
    Calls Tryd.prog 16 #[termsV kind P r n start rule, .int .i64 first, .int .i64 (k : Int)] w fun e w' => e = .returned (.int .i64 ((if kind = 2 ∧ first = 0 then n else k + 1 : Nat) : Int)) ∧ Up w w' := by
  unfold termsV
  by_cases h : kind = 2 ∧ first = 0
  · rw [if_pos h]
    obtain ⟨rfl, rfl⟩ := h
    go_enter Tryd.func16, Tryd.ntmps16
    go_wp2_with fail
    go_ret
    exact ⟨rfl, (Up.refl w).alloc _⟩
  · rw [if_neg h]
    have hc : ¬ kind = 2 ∨ (kind = 2 ∧ ¬ first = 0) := by omega
    clear h
    rcases hc with h | ⟨rfl, h⟩
    all_goals
      go_enter Tryd.func16, Tryd.ntmps16
      go_wp2_with fail
      go_ret
      exact ⟨ret_int (by omega), (Up.refl w).alloc _⟩

set_option maxHeartbeats 1000000 in
theorem timely_at (kind P r n start rule : Int) (s1 : 1 ≤ start) (s2 : start ≤ 3640000) (xs : List Int) (a : Option Addr) (cap : Nat) (k : Nat) (due : Int)
    (h1 : stepB (q0N start + k) = true) (h2 : stepN (q0N start + k) (dK start) - 10 ≤ due) (h3 : due ≤ stepN (q0N start + k) (dK start) + 10) (h4 : rule = 0 → due = stepN (q0N start + k) (dK start)) (h5 : rule ≠ 0 → workB due xs = true)
    (h6 : 1 ≤ stepN (q0N start + k) (dK start)) (h7 : stepN (q0N start + k) (dK start) ≤ 3652059) (w : World) (hA : TabA w) (hL : TabL w) (hS : SlOk w a xs) :
    Calls Tryd.prog 15 #[termsV kind P r n start rule, .slice a xs.length cap, .int .i64 (dK start), .int .i64 due, .int .i64 (k : Int)] w fun e w' => e = .returned (.bool true) ∧ Up w w' := by
  unfold termsV
  obtain ⟨ok, hd⟩ := date_spec start s1 (by omega)
  obtain ⟨_, _, a2, a3, _⟩ := start_facts start s1 s2
  have AM : Hid (∀ w, TabA w → TabL w → Calls Tryd.prog 31 #[.int .i64 start, .int .i64 (k : Int), .int .i64 (dK start)] w fun e w' => e = .returned (.tuple #[.int .i64 (stepN (q0N start + k) (dK start)), .bool true]) ∧ Up w w') := fun w hA hL => by
    have := addMonths_up (dY start) (dM start) (dK start) start k (dK start) (q0N start + k) ok hd a2 a3 rfl w hA hL
    rw [h1] at this
    exact this
  have HA : Hid (TabA w) := hA
  have HL : Hid (TabL w) := hL
  have HS : Hid (SlOk w a xs) := hS
  clear ok hd h1 hA hL hS
  generalize stepN (q0N start + k) (dK start) = st at *
  generalize dK start = dk at *
  by_cases hr : rule = 0
  · obtain rfl := h4 hr
    subst hr
    clear h4 h5
    generalize xs.length = L at *
    go_enter Tryd.func15, Tryd.ntmps15
    go_wp2_with fail
    refine (AM.out _ (HA.out.al _) (HL.out.al _)).mono ?_
    rintro e w1 ⟨rfl, U1⟩
    have c5 : w1.cell? ⟨w.heap.size, 5, none⟩ = some (.int .i64 0) := cell_in U1 5 _ rfl
    have UU := ((Up.refl w).alloc (.cells #[.int .i64 kind, .int .i64 P, .int .i64 r, .int .i64 n, .int .i64 start, .int .i64 0] 23)).trans U1
    clear U1
    go_wp2_with fail
    go_ret
    exact ⟨rfl, UU⟩
  · have BU : Hid (∀ w, SlOk w a xs → Calls Tryd.prog 32 #[.int .i64 due, .slice a xs.length cap] w fun e w' => e = .returned (.bool true) ∧ w' = w) := fun w h => business_at a cap xs due w h true (h5 hr)
    clear h4 h5
    generalize xs.length = L at *
    go_enter Tryd.func15, Tryd.ntmps15
    go_wp2_with fail
    refine (AM.out _ (HA.out.al _) (HL.out.al _)).mono ?_
    rintro e w1 ⟨rfl, U1⟩
    have c5 : w1.cell? ⟨w.heap.size, 5, none⟩ = some (.int .i64 rule) := cell_in U1 5 _ rfl
    have UU := ((Up.refl w).alloc (.cells #[.int .i64 kind, .int .i64 P, .int .i64 r, .int .i64 n, .int .i64 start, .int .i64 rule] 23)).trans U1
    clear U1
    go_wp2_with fail
    refine (BU.out _ (HS.out.up UU)).mono ?_
    rintro e w2 ⟨rfl, hw⟩; rw [hw]; clear hw w2
    go_wp2_with fail
    go_ret
    exact ⟨rfl, UU⟩

set_option maxHeartbeats 2000000 in
theorem share0 (P r n start rule pay : Int) (a : Option Addr) (cap L : Nat) (rs : List R3) (hL : rs.length = L) (l1 : L ≤ 120) (j : Nat) (hj : j < L) (w : World) (hI : InstOk w a rs)
    (h1 : 1 ≤ (rs.getD j (0, 0, 0)).2.2) (i0 : 0 ≤ (rs.getD j (0, 0, 0)).2.1) (i1 : (rs.getD j (0, 0, 0)).2.1 ≤ 10000000000000) (p1 : (rs.getD j (0, 0, 0)).2.2 ≤ 10000000000000)
    (h2 : j + 1 = L → (rs.getD j (0, 0, 0)).2.1 + (rs.getD j (0, 0, 0)).2.2 ≤ pay) (h3 : j + 1 ≠ L → (rs.getD j (0, 0, 0)).2.1 + (rs.getD j (0, 0, 0)).2.2 = pay) :
    Calls Tryd.prog 14 #[termsV 0 P r n start rule, .slice a L cap, .int .i64 (j : Int), .int .i64 pay] w fun e w' => e = .returned (.bool true) ∧ Up w w' := by
  unfold termsV
  obtain ⟨g, off, rfl, c0, c1, c2, c3⟩ := hI.at (k := j) (by omega)
  clear hI
  generalize rs.getD j (0, 0, 0) = x at *
  obtain ⟨xd, xi, xp⟩ := x
  have hjL : (j : Int) < (L : Int) := by omega
  have hblk := World.block_lt_of_cell? w _ c0
  by_cases hl : j + 1 = L
  · have hs := h2 hl
    clear h2 h3
    subst hl
    go_enter Tryd.func14, Tryd.ntmps14
    go_wp2_with fail
    go_ret
    exact ⟨ret_bool (decide_eq_true (by unfold wrap64; omega)), ((Up.refl w).alloc _).alloc _⟩
  · have hs := h3 hl
    clear h2 h3
    have hne : ¬ (j : Int) = (L : Int) - 1 := by omega
    subst hs
    go_enter Tryd.func14, Tryd.ntmps14
    go_wp2_with fail
    go_ret
    have ew : wrap64 (xi + xp) = xi + xp := by unfold wrap64; omega
    exact ⟨ret_bool (by rw [ew]; simp), ((Up.refl w).alloc _).alloc _⟩

set_option maxHeartbeats 2000000 in
theorem share2 (P r n start rule pay : Int) (a : Option Addr) (cap L : Nat) (rs : List R3) (hL : rs.length = L) (l1 : L ≤ 120) (j : Nat) (hj : j < L) (w : World) (hI : InstOk w a rs)
    (h1 : j + 1 = L ∨ (rs.getD j (0, 0, 0)).2.2 = 0) :
    Calls Tryd.prog 14 #[termsV 2 P r n start rule, .slice a L cap, .int .i64 (j : Int), .int .i64 pay] w fun e w' => e = .returned (.bool true) ∧ Up w w' := by
  unfold termsV
  obtain ⟨g, off, rfl, c0, c1, c2, c3⟩ := hI.at (k := j) (by omega)
  clear hI
  generalize rs.getD j (0, 0, 0) = x at *
  obtain ⟨xd, xi, xp⟩ := x
  have hjL : (j : Int) < (L : Int) := by omega
  have hblk := World.block_lt_of_cell? w _ c0
  by_cases hl : j + 1 = L
  · clear h1
    subst hl
    go_enter Tryd.func14, Tryd.ntmps14
    go_wp2_with fail
    go_ret
    exact ⟨rfl, ((Up.refl w).alloc _).alloc _⟩
  · have hs : xp = 0 := h1.resolve_left hl
    clear h1
    have hne : ¬ (j : Int) = (L : Int) - 1 := by omega
    subst hs
    go_enter Tryd.func14, Tryd.ntmps14
    go_wp2_with fail
    go_ret
    exact ⟨rfl, ((Up.refl w).alloc _).alloc _⟩

set_option maxHeartbeats 4000000 in
theorem share1 (P r n start rule pay : Int) (a : Option Addr) (cap L : Nat) (rs : List R3) (hL : rs.length = L) (l1 : L ≤ 120) (j : Nat) (hj : j < L) (w : World) (hI : InstOk w a rs)
    (h1 : 1 ≤ (rs.getD j (0, 0, 0)).2.2) (h2 : (rs.getD j (0, 0, 0)).2.2 ≤ (rs.getD 0 (0, 0, 0)).2.2) (h3 : (rs.getD 0 (0, 0, 0)).2.2 - 1 ≤ (rs.getD j (0, 0, 0)).2.2) (h4 : j = 0 ∨ (rs.getD j (0, 0, 0)).2.2 ≤ (rs.getD (j - 1) (0, 0, 0)).2.2) (p1 : (rs.getD 0 (0, 0, 0)).2.2 ≤ 10000000000000) :
    Calls Tryd.prog 14 #[termsV 1 P r n start rule, .slice a L cap, .int .i64 (j : Int), .int .i64 pay] w fun e w' => e = .returned (.bool true) ∧ Up w w' := by
  unfold termsV
  obtain ⟨g, off, rfl, c0, c1, c2, c3⟩ := hI.at (k := j) (by omega)
  obtain ⟨g', off', e', b0, b1, b2, b3⟩ := hI.at (k := 0) (by omega)
  obtain ⟨rfl, rfl⟩ : g = g' ∧ off = off' := by simpa using e'
  have hjL : (j : Int) < (L : Int) := by omega
  have hL0 : (0 : Int) < (L : Int) := by omega
  have hblk := World.block_lt_of_cell? w _ c0
  have hI0 : Hid (InstOk w (some ⟨g, off, none⟩) rs) := hI
  clear e' hI
  cases j with
  | zero =>
    clear h4 hI0
    generalize rs.getD 0 (0, 0, 0) = x at *
    obtain ⟨xd, xi, xp⟩ := x
    simp only [Nat.zero_mul, Nat.add_zero] at c0 c1 c2 c3
    clear b0 b1 b2 b3 h2 h3 hjL
    change 1 ≤ xp at h1
    show Calls Tryd.prog 14 #[.agg #[.int .i64 1, .int .i64 P, .int .i64 r, .int .i64 n, .int .i64 start, .int .i64 rule], .slice (some ⟨g, off, none⟩) L cap, .int .i64 0, .int .i64 pay] w _
    go_enter Tryd.func14, Tryd.ntmps14
    go_wp2_with fail
    have UW : Hid (Up w ((w.alloc (.cells #[.int .i64 1, .int .i64 P, .int .i64 r, .int .i64 n, .int .i64 start, .int .i64 rule] 23)).alloc (.cells #[.int .i64 xd, .int .i64 xi, .int .i64 xp, .bool false] 30))) := ((Up.refl w).alloc _).alloc _
    have r2 : ((w.alloc (.cells #[.int .i64 1, .int .i64 P, .int .i64 r, .int .i64 n, .int .i64 start, .int .i64 rule] 23)).alloc (.cells #[.int .i64 xd, .int .i64 xi, .int .i64 xp, .bool false] 30)).cell? ⟨w.heap.size + 1, 2, none⟩ = some (.int .i64 xp) := cell_new _ _ _ 2 _ _ rfl (by simp)
    have l2 := UW.out.cell c2
    generalize (w.alloc (.cells #[.int .i64 1, .int .i64 P, .int .i64 r, .int .i64 n, .int .i64 start, .int .i64 rule] 23)).alloc (.cells #[.int .i64 xd, .int .i64 xi, .int .i64 xp, .bool false] 30) = W at *
    clear c0 c1 c2 c3 hblk
    have q1 : xp - 1 ≤ xp := by omega
    go_quiet (fail)
    go_wp2_with fail
    go_ret
    exact ⟨rfl, up_drewN UW.out _⟩
  | succ i =>
    have h4' : (rs.getD (i + 1) (0, 0, 0)).2.2 ≤ (rs.getD i (0, 0, 0)).2.2 := by
      rcases h4 with h | h
      · omega
      · simpa using h
    clear h4
    obtain ⟨g', off', e', f0, f1, f2, f3⟩ := hI0.out.at (k := i) (by omega)
    obtain ⟨rfl, rfl⟩ : g = g' ∧ off = off' := by simpa using e'
    clear e' hI0 f0 f1 f3 b0 b1 b3
    generalize rs.getD (i + 1) (0, 0, 0) = x at *
    obtain ⟨xd, xi, xp⟩ := x
    generalize (rs.getD 0 (0, 0, 0)).2.2 = zp at *
    generalize (rs.getD i (0, 0, 0)).2.2 = yp at *
    simp only [Nat.zero_mul, Nat.add_zero] at b2
    change 1 ≤ xp at h1
    change xp ≤ zp at h2
    change zp - 1 ≤ xp at h3
    change xp ≤ yp at h4'
    have hi1 : ((i + 1 : Nat) : Int) - 1 = (i : Int) := by omega
    have hiL : (i : Int) < (L : Int) := by omega
    have hi0 : ((i : Int) + 1 == 0) = false := by rw [beq_eq_false_iff_ne]; omega
    have hi2 : (i : Int) + 1 - 1 = (i : Int) := by omega
    have e1 : decide (xp ≤ zp) = true := decide_eq_true h2
    have e2 : decide (zp - 1 ≤ xp) = true := decide_eq_true h3
    have z1 : -9223372036854775808 ≤ zp - 1 := by omega
    go_enter Tryd.func14, Tryd.ntmps14
    go_wp2_with fail
    have UW : Hid (Up w ((w.alloc (.cells #[.int .i64 1, .int .i64 P, .int .i64 r, .int .i64 n, .int .i64 start, .int .i64 rule] 23)).alloc (.cells #[.int .i64 xd, .int .i64 xi, .int .i64 xp, .bool false] 30))) := ((Up.refl w).alloc _).alloc _
    have r2 : ((w.alloc (.cells #[.int .i64 1, .int .i64 P, .int .i64 r, .int .i64 n, .int .i64 start, .int .i64 rule] 23)).alloc (.cells #[.int .i64 xd, .int .i64 xi, .int .i64 xp, .bool false] 30)).cell? ⟨w.heap.size + 1, 2, none⟩ = some (.int .i64 xp) := cell_new _ _ _ 2 _ _ rfl (by simp)
    have l2 := UW.out.cell b2
    have m2 := UW.out.cell f2
    generalize (w.alloc (.cells #[.int .i64 1, .int .i64 P, .int .i64 r, .int .i64 n, .int .i64 start, .int .i64 rule] 23)).alloc (.cells #[.int .i64 xd, .int .i64 xi, .int .i64 xp, .bool false] 30) = W at *
    clear c0 c1 c2 c3 b2 f2 hblk
    go_quiet (fail)
    go_wp2_with fail
    go_ret
    exact ⟨rfl, up_drewN UW.out _⟩
end Go.Proofs.YtkabfdajpilomabDoor
