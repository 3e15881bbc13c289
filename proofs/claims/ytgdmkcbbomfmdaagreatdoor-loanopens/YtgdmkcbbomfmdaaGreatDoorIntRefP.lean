/-
  Ours: the reference's Valid, Due and part.
-/
import Derived.Test.YtgdmkcbbomfmdaaGreatDoorIntPays
import Derived.Test.YtgdmkcbbomfmdaaGreatDoorIntDue
import Derived.Test.YtgdmkcbbomfmdaaGreatDoorIntPlanM
namespace Go.Proofs.YtgdmkcbbomfmdaaGreatDoor
open Go.RowKit IntM

theorem refRate_at (x : Int) (b : Bool) (h : rateB x = b) (w : World) :
    Calls Tryz.prog 50 #[.int .i64 x] w fun e w' => e = .returned (.bool b) ∧ w' = w := by
  subst h
  unfold rateB
  go_enter Tryz.func50, Tryz.ntmps50
  go_wp2_with fail
  all_goals
    go_ret
    refine ⟨ret_boolI ?_, rfl⟩
    rw [Bool.eq_iff_iff]
    simp
    try omega

theorem small_prod {x r : Int} {X : Int} (x0 : 0 ≤ x) (x1 : x ≤ X) (r0 : 0 ≤ r) (r1 : r ≤ 100000) : 0 ≤ x * r ∧ x * r ≤ X * 100000 :=
  ⟨Int.mul_nonneg x0 r0, Int.mul_le_mul x1 r1 r0 (by omega)⟩

theorem rd_spec (n : Int) : ((120000 < 2 * (n % 120000) ∨ (2 * (n % 120000) = 120000 ∧ n / 120000 % 2 = 1)) ∧ rd n = n / 120000 + 1) ∨ (¬ (120000 < 2 * (n % 120000) ∨ (2 * (n % 120000) = 120000 ∧ n / 120000 % 2 = 1)) ∧ rd n = n / 120000) := by
  unfold rd; split
  · left; exact ⟨by assumption, rfl⟩
  · right; exact ⟨by assumption, rfl⟩

set_option maxHeartbeats 400000 in
theorem refmonth_at (b r : Int) (b0 : 0 ≤ b) (b1 : b ≤ 9223372036854775807) (r0 : 0 ≤ r) (r1 : r ≤ 100000) (w : World) :
    Calls Tryz.prog 37 #[.int .i64 b, .int .i64 r] w fun e w' => e = .returned (.int .i64 (mon b r)) ∧ w' = w := by
  have hp := mon_parts b r
  have hm := mon_le (r := r) b0 r1
  obtain ⟨x0, x1⟩ := small_prod (x := b / 120000) (X := 76861433640456) (by omega) (by omega) r0 r1
  obtain ⟨y0, y1⟩ := small_prod (x := b % 120000) (X := 119999) (by omega) (by omega) r0 r1
  have hs := rd_spec (b * r)
  unfold mon at *
  generalize rd (b * r) = M at *
  rw [hp] at hs
  clear hp
  go_enter Tryz.func37, Tryz.ntmps37
  generalize hX : b / 120000 * r = X at *
  generalize hY : b % 120000 * r = Y at *
  go_wp2_with fail
  all_goals
    go_ret
    refine ⟨ret_int ?_, rfl⟩
    try simp only [beq_iff_eq, beq_eq_false_iff_ne] at *
    omega

end Go.Proofs.YtgdmkcbbomfmdaaGreatDoor

namespace Go.Proofs.YtgdmkcbbomfmdaaGreatDoor
open Go.RowKit IntM CalM

set_option maxHeartbeats 1000000 in
theorem refValid_k0 (kind P r n start rule : Int) (k0 : ¬ 0 ≤ kind) (w : World) :
    Calls Tryz.prog 35 #[termsV kind P r n start rule] w fun e w' => e = .returned (.bool false) ∧ Up w w' := by
  unfold termsV
  go_enter Tryz.func35, Tryz.ntmps35
  go_wp2_with fail
  go_ret
  exact ⟨rfl, (Up.refl w).alloc _⟩

set_option maxHeartbeats 1000000 in
theorem refValid_k1 (kind P r n start rule : Int) (k0 : 0 ≤ kind) (k1 : ¬ kind ≤ 2) (w : World) :
    Calls Tryz.prog 35 #[termsV kind P r n start rule] w fun e w' => e = .returned (.bool false) ∧ Up w w' := by
  unfold termsV
  go_enter Tryz.func35, Tryz.ntmps35
  go_wp2_with fail
  go_ret
  exact ⟨rfl, (Up.refl w).alloc _⟩

set_option maxHeartbeats 1000000 in
theorem refValid_p0 (kind P r n start rule : Int) (k0 : 0 ≤ kind) (k1 : kind ≤ 2) (p0 : ¬ 1 ≤ P) (w : World) :
    Calls Tryz.prog 35 #[termsV kind P r n start rule] w fun e w' => e = .returned (.bool false) ∧ Up w w' := by
  unfold termsV
  go_enter Tryz.func35, Tryz.ntmps35
  go_wp2_with fail
  go_ret
  exact ⟨rfl, (Up.refl w).alloc _⟩

set_option maxHeartbeats 1000000 in
theorem refValid_p1 (kind P r n start rule : Int) (k0 : 0 ≤ kind) (k1 : kind ≤ 2) (p0 : 1 ≤ P) (p1 : ¬ P ≤ 10000000000000) (w : World) :
    Calls Tryz.prog 35 #[termsV kind P r n start rule] w fun e w' => e = .returned (.bool false) ∧ Up w w' := by
  unfold termsV
  go_enter Tryz.func35, Tryz.ntmps35
  go_wp2_with fail
  go_ret
  exact ⟨rfl, (Up.refl w).alloc _⟩

set_option maxHeartbeats 1000000 in
theorem refValid_R (kind P r n start rule : Int) (k0 : 0 ≤ kind) (k1 : kind ≤ 2) (p0 : 1 ≤ P) (p1 : P ≤ 10000000000000) (hR : rateB r = false) (w : World) :
    Calls Tryz.prog 35 #[termsV kind P r n start rule] w fun e w' => e = .returned (.bool false) ∧ Up w w' := by
  unfold termsV
  have IR : Hid (∀ w, Calls Tryz.prog 50 #[.int .i64 r] w fun e w' => e = .returned (.bool false) ∧ w' = w) := fun w => refRate_at r false hR w
  clear hR
  go_enter Tryz.func35, Tryz.ntmps35
  go_wp2_with fail
  refine (IR.out _).mono ?_
  rintro e w1 ⟨rfl, hw⟩; rw [hw]; clear hw w1
  go_wp2_with fail
  go_ret
  exact ⟨rfl, (Up.refl w).alloc _⟩

set_option maxHeartbeats 1000000 in
theorem refValid_n0 (kind P r n start rule : Int) (k0 : 0 ≤ kind) (k1 : kind ≤ 2) (p0 : 1 ≤ P) (p1 : P ≤ 10000000000000) (hR : rateB r = true) (n0 : ¬ 1 ≤ n) (w : World) :
    Calls Tryz.prog 35 #[termsV kind P r n start rule] w fun e w' => e = .returned (.bool false) ∧ Up w w' := by
  unfold termsV
  have IR : Hid (∀ w, Calls Tryz.prog 50 #[.int .i64 r] w fun e w' => e = .returned (.bool true) ∧ w' = w) := fun w => refRate_at r true hR w
  clear hR
  go_enter Tryz.func35, Tryz.ntmps35
  go_wp2_with fail
  refine (IR.out _).mono ?_
  rintro e w1 ⟨rfl, hw⟩; rw [hw]; clear hw w1
  go_wp2_with fail
  go_ret
  exact ⟨rfl, (Up.refl w).alloc _⟩

set_option maxHeartbeats 1000000 in
theorem refValid_n1 (kind P r n start rule : Int) (k0 : 0 ≤ kind) (k1 : kind ≤ 2) (p0 : 1 ≤ P) (p1 : P ≤ 10000000000000) (hR : rateB r = true) (n0 : 1 ≤ n) (n1 : ¬ n ≤ 120) (w : World) :
    Calls Tryz.prog 35 #[termsV kind P r n start rule] w fun e w' => e = .returned (.bool false) ∧ Up w w' := by
  unfold termsV
  have IR : Hid (∀ w, Calls Tryz.prog 50 #[.int .i64 r] w fun e w' => e = .returned (.bool true) ∧ w' = w) := fun w => refRate_at r true hR w
  clear hR
  go_enter Tryz.func35, Tryz.ntmps35
  go_wp2_with fail
  refine (IR.out _).mono ?_
  rintro e w1 ⟨rfl, hw⟩; rw [hw]; clear hw w1
  go_wp2_with fail
  go_ret
  exact ⟨rfl, (Up.refl w).alloc _⟩

set_option maxHeartbeats 1000000 in
theorem refValid_s0 (kind P r n start rule : Int) (k0 : 0 ≤ kind) (k1 : kind ≤ 2) (p0 : 1 ≤ P) (p1 : P ≤ 10000000000000) (hR : rateB r = true) (n0 : 1 ≤ n) (n1 : n ≤ 120) (s0 : ¬ 1 ≤ start) (w : World) :
    Calls Tryz.prog 35 #[termsV kind P r n start rule] w fun e w' => e = .returned (.bool false) ∧ Up w w' := by
  unfold termsV
  have IR : Hid (∀ w, Calls Tryz.prog 50 #[.int .i64 r] w fun e w' => e = .returned (.bool true) ∧ w' = w) := fun w => refRate_at r true hR w
  clear hR
  go_enter Tryz.func35, Tryz.ntmps35
  go_wp2_with fail
  refine (IR.out _).mono ?_
  rintro e w1 ⟨rfl, hw⟩; rw [hw]; clear hw w1
  go_wp2_with fail
  go_ret
  exact ⟨rfl, (Up.refl w).alloc _⟩

set_option maxHeartbeats 1000000 in
theorem refValid_s1 (kind P r n start rule : Int) (k0 : 0 ≤ kind) (k1 : kind ≤ 2) (p0 : 1 ≤ P) (p1 : P ≤ 10000000000000) (hR : rateB r = true) (n0 : 1 ≤ n) (n1 : n ≤ 120) (s0 : 1 ≤ start) (s1 : ¬ start ≤ 3652059) (w : World) :
    Calls Tryz.prog 35 #[termsV kind P r n start rule] w fun e w' => e = .returned (.bool false) ∧ Up w w' := by
  unfold termsV
  have IR : Hid (∀ w, Calls Tryz.prog 50 #[.int .i64 r] w fun e w' => e = .returned (.bool true) ∧ w' = w) := fun w => refRate_at r true hR w
  clear hR
  go_enter Tryz.func35, Tryz.ntmps35
  go_wp2_with fail
  refine (IR.out _).mono ?_
  rintro e w1 ⟨rfl, hw⟩; rw [hw]; clear hw w1
  go_wp2_with fail
  go_ret
  exact ⟨rfl, (Up.refl w).alloc _⟩

set_option maxHeartbeats 1000000 in
theorem refValid_u0 (kind P r n start rule : Int) (k0 : 0 ≤ kind) (k1 : kind ≤ 2) (p0 : 1 ≤ P) (p1 : P ≤ 10000000000000) (hR : rateB r = true) (n0 : 1 ≤ n) (n1 : n ≤ 120) (s0 : 1 ≤ start) (s1 : start ≤ 3652059) (u0 : ¬ 0 ≤ rule) (w : World) :
    Calls Tryz.prog 35 #[termsV kind P r n start rule] w fun e w' => e = .returned (.bool false) ∧ Up w w' := by
  unfold termsV
  have IR : Hid (∀ w, Calls Tryz.prog 50 #[.int .i64 r] w fun e w' => e = .returned (.bool true) ∧ w' = w) := fun w => refRate_at r true hR w
  clear hR
  go_enter Tryz.func35, Tryz.ntmps35
  go_wp2_with fail
  refine (IR.out _).mono ?_
  rintro e w1 ⟨rfl, hw⟩; rw [hw]; clear hw w1
  go_wp2_with fail
  go_ret
  exact ⟨rfl, (Up.refl w).alloc _⟩

set_option maxHeartbeats 1000000 in
theorem refValid_u1 (kind P r n start rule : Int) (k0 : 0 ≤ kind) (k1 : kind ≤ 2) (p0 : 1 ≤ P) (p1 : P ≤ 10000000000000) (hR : rateB r = true) (n0 : 1 ≤ n) (n1 : n ≤ 120) (s0 : 1 ≤ start) (s1 : start ≤ 3652059) (u0 : 0 ≤ rule) (u1 : ¬ rule ≤ 3) (w : World) :
    Calls Tryz.prog 35 #[termsV kind P r n start rule] w fun e w' => e = .returned (.bool false) ∧ Up w w' := by
  unfold termsV
  have IR : Hid (∀ w, Calls Tryz.prog 50 #[.int .i64 r] w fun e w' => e = .returned (.bool true) ∧ w' = w) := fun w => refRate_at r true hR w
  clear hR
  go_enter Tryz.func35, Tryz.ntmps35
  go_wp2_with fail
  refine (IR.out _).mono ?_
  rintro e w1 ⟨rfl, hw⟩; rw [hw]; clear hw w1
  go_wp2_with fail
  go_ret
  exact ⟨ret_bool (decide_eq_false (by omega)), (Up.refl w).alloc _⟩

set_option maxHeartbeats 1000000 in
theorem refValid_yes (kind P r n start rule : Int) (k0 : 0 ≤ kind) (k1 : kind ≤ 2) (p0 : 1 ≤ P) (p1 : P ≤ 10000000000000) (hR : rateB r = true) (n0 : 1 ≤ n) (n1 : n ≤ 120) (s0 : 1 ≤ start) (s1 : start ≤ 3652059) (u0 : 0 ≤ rule) (u1 : rule ≤ 3) (w : World) :
    Calls Tryz.prog 35 #[termsV kind P r n start rule] w fun e w' => e = .returned (.bool true) ∧ Up w w' := by
  unfold termsV
  have IR : Hid (∀ w, Calls Tryz.prog 50 #[.int .i64 r] w fun e w' => e = .returned (.bool true) ∧ w' = w) := fun w => refRate_at r true hR w
  clear hR
  go_enter Tryz.func35, Tryz.ntmps35
  go_wp2_with fail
  refine (IR.out _).mono ?_
  rintro e w1 ⟨rfl, hw⟩; rw [hw]; clear hw w1
  go_wp2_with fail
  go_ret
  exact ⟨rfl, (Up.refl w).alloc _⟩

theorem refValid_at (kind P r n start rule : Int) (w : World) :
    Calls Tryz.prog 35 #[termsV kind P r n start rule] w fun e w' => e = .returned (.bool (validB kind P r n start rule)) ∧ Up w w' := by
  have no : ¬ ((1 ≤ start ∧ start ≤ 3652059) ∧ (0 ≤ kind ∧ kind ≤ 2) ∧ (1 ≤ P ∧ P ≤ 10000000000000) ∧ (0 ≤ r ∧ r ≤ 100000) ∧ (1 ≤ n ∧ n ≤ 120) ∧ (0 ≤ rule ∧ rule ≤ 3)) → validB kind P r n start rule = false := fun h => decide_eq_false h
  by_cases k0 : 0 ≤ kind
  case neg => rw [no (by omega)]; exact refValid_k0 kind P r n start rule k0 w
  by_cases k1 : kind ≤ 2
  case neg => rw [no (by omega)]; exact refValid_k1 kind P r n start rule k0 k1 w
  by_cases p0 : 1 ≤ P
  case neg => rw [no (by omega)]; exact refValid_p0 kind P r n start rule k0 k1 p0 w
  by_cases p1 : P ≤ 10000000000000
  case neg => rw [no (by omega)]; exact refValid_p1 kind P r n start rule k0 k1 p0 p1 w
  cases hR : rateB r with
  | false => rw [no (by have := of_decide_eq_false hR; omega)]; exact refValid_R kind P r n start rule k0 k1 p0 p1 hR w
  | true =>
    by_cases n0 : 1 ≤ n
    case neg => rw [no (by omega)]; exact refValid_n0 kind P r n start rule k0 k1 p0 p1 hR n0 w
    by_cases n1 : n ≤ 120
    case neg => rw [no (by omega)]; exact refValid_n1 kind P r n start rule k0 k1 p0 p1 hR n0 n1 w
    by_cases s0 : 1 ≤ start
    case neg => rw [no (by omega)]; exact refValid_s0 kind P r n start rule k0 k1 p0 p1 hR n0 n1 s0 w
    by_cases s1 : start ≤ 3652059
    case neg => rw [no (by omega)]; exact refValid_s1 kind P r n start rule k0 k1 p0 p1 hR n0 n1 s0 s1 w
    by_cases u0 : 0 ≤ rule
    case neg => rw [no (by omega)]; exact refValid_u0 kind P r n start rule k0 k1 p0 p1 hR n0 n1 s0 s1 u0 w
    by_cases u1 : rule ≤ 3
    case neg => rw [no (by omega)]; exact refValid_u1 kind P r n start rule k0 k1 p0 p1 hR n0 n1 s0 s1 u0 u1 w
    have : validB kind P r n start rule = true := decide_eq_true (by have := of_decide_eq_true hR; omega)
    rw [this]; exact refValid_yes kind P r n start rule k0 k1 p0 p1 hR n0 n1 s0 s1 u0 u1 w

set_option maxHeartbeats 2000000 in
theorem refDue_at (kind P r n start rule : Int) (y m k : Int) (hk : Ok y m k) (hd : dA y m + k = start) (mth q : Int) (m1 : -119987 ≤ mth) (m2 : mth ≤ 119987) (hq : (y - 1) * 12 + m - 1 + mth = q) (a : Option Addr) (cap : Nat) (xs : List Int) (o : Option Int) (ho : dueO q k xs rule = o) (w : World) (hS : SlOk w a xs) :
    Calls Tryz.prog 39 #[termsV kind P r n start rule, .slice a xs.length cap, .int .i64 mth] w fun e w' => e = .returned (.tuple #[.int .i64 (optN o), .bool o.isSome]) ∧ Up w w' := by
  unfold termsV
  have k1 : 1 ≤ k ∧ k ≤ 31 := by
    have := len_high y m
    obtain ⟨_, _, _, _, h1, h2⟩ := hk
    omega
  have CA : Hid (∀ w, Calls Tryz.prog 52 #[.int .i64 start] w fun e w' => e = .returned (.tuple #[.agg #[.int .i64 y, .int .i64 m, .int .i64 k], .bool true]) ∧ ∃ o, w' = w.alloc o) := fun w => refCivil_at y m k start hk hd w
  have AM : Hid (∀ w, Calls Tryz.prog 53 #[.int .i64 start, .int .i64 mth, .int .i64 k] w fun e w' => e = .returned (.tuple #[.int .i64 (stepN q k), .bool (stepB q)]) ∧ Up w w') := fun w => refAdd_in y m k start mth k q hk hd k1.1 k1.2 m1 m2 hq w
  have HS : Hid (SlOk w a xs) := hS
  unfold dueO at ho
  cases hb : stepB q with
  | true =>
    rw [hb, if_pos rfl] at ho
    rw [hb] at AM
    have AJ : Hid (∀ w, SlOk w a xs → Calls Tryz.prog 54 #[.int .i64 (stepN q k), .slice a xs.length cap, .int .i64 rule] w fun e w' => e = .returned (.tuple #[.int .i64 (optN o), .bool o.isSome]) ∧ Up w w') := fun w h => refAdjust_at a cap xs (stepN q k) rule o ho w h
    clear hS hk hd ho hb
    generalize stepN q k = dd at *
    generalize optN o = ov at *
    generalize o.isSome = ob at *
    go_enter Tryz.func39, Tryz.ntmps39
    go_wp2_with fail
    refine (CA.out _).mono ?_
    rintro e w1 ⟨rfl, o1, hw⟩; rw [hw]; clear hw w1
    go_wp2_with fail
    have U0 : Up (w.alloc (.cells #[.int .i64 kind, .int .i64 P, .int .i64 r, .int .i64 n, .int .i64 start, .int .i64 rule] 26)) (((w.alloc (.cells #[.int .i64 kind, .int .i64 P, .int .i64 r, .int .i64 n, .int .i64 start, .int .i64 rule] 26)).alloc o1).alloc (.cells #[.int .i64 y, .int .i64 m, .int .i64 k] 108)) := ((Up.refl _).alloc _).alloc _
    have U00 := (Up.refl w).alloc (.cells #[.int .i64 kind, .int .i64 P, .int .i64 r, .int .i64 n, .int .i64 start, .int .i64 rule] 26)
    refine (AM.out _).mono ?_
    rintro e w1 ⟨rfl, U1⟩
    have c5 : w1.cell? ⟨w.heap.size, 5, none⟩ = some (.int .i64 rule) := cell_in (U0.trans U1) 5 _ rfl
    have U2 := U00.trans (U0.trans U1)
    clear U0 U1 U00
    go_wp2_with fail
    refine (AJ.out _ (HS.out.up U2)).mono ?_
    rintro e w2 ⟨rfl, U3⟩
    go_wp2_with fail
    go_ret2
    exact ⟨rfl, U2.trans U3⟩
  | false =>
    rw [hb, if_neg (by decide)] at ho
    rw [hb] at AM
    subst ho
    clear hS hk hd hb
    generalize stepN q k = dd at *
    go_enter Tryz.func39, Tryz.ntmps39
    go_wp2_with fail
    refine (CA.out _).mono ?_
    rintro e w1 ⟨rfl, o1, hw⟩; rw [hw]; clear hw w1
    go_wp2_with fail
    have U0 : Up w (((w.alloc (.cells #[.int .i64 kind, .int .i64 P, .int .i64 r, .int .i64 n, .int .i64 start, .int .i64 rule] 26)).alloc o1).alloc (.cells #[.int .i64 y, .int .i64 m, .int .i64 k] 108)) := ((Up.refl _).alloc _).alloc _ |>.alloc _
    refine (AM.out _).mono ?_
    rintro e w1 ⟨rfl, U1⟩
    have U2 := U0.trans U1
    clear U0 U1
    go_wp2_with fail
    go_ret2
    exact ⟨rfl, U2⟩

set_option maxHeartbeats 2000000 in
theorem refPart_at (kind P r start rule pay : Int) (n k : Nat) (b i : Int) (hk : kind = 0 ∨ kind = 1 ∨ kind = 2) (P0 : 1 ≤ P) (P1 : P ≤ 10000000000000) (n0 : 1 ≤ n) (n1 : n ≤ 120) (y0 : 0 ≤ pay) (y1 : pay ≤ 9223372036854775807) (i0 : 0 ≤ i) (i1 : i ≤ 10000000000000) (w : World) :
    Calls Tryz.prog 38 #[termsV kind P r n start rule, .int .i64 pay, .int .i64 (k : Int), .int .i64 b, .int .i64 i] w fun e w' => e = .returned (.int .i64 (partI kind P n pay k b i)) ∧ Up w w' := by
  unfold termsV
  rcases hk with rfl | rfl | rfl
  · have e : partI 0 P n pay k b i = min (pay - i) b := by simp [partI]
    rw [e]
    go_enter Tryz.func38, Tryz.ntmps38
    go_wp2_with fail
    all_goals
      go_ret
      exact ⟨ret_int (by omega), (Up.refl w).alloc _⟩
  · have e : partI 1 P n pay k b i = if (k : Int) ≤ P % (n : Int) then P / (n : Int) + 1 else P / (n : Int) := by simp [partI]
    rw [e]
    have d0 : 0 ≤ P / (n : Int) := Int.ediv_nonneg (by omega) (by omega)
    have d1 : P / (n : Int) ≤ 10000000000000 := Int.le_trans (Int.ediv_le_self _ (by omega)) P1
    have m0 : 0 ≤ P % (n : Int) := Int.emod_nonneg _ (by omega)
    have m1 : P % (n : Int) < (n : Int) := Int.emod_lt_of_pos _ (by omega)
    have nn : (1 : Int) ≤ (n : Int) := by omega
    have hc0 : ¬ (n : Int) = 0 := by omega
    have em := Int.mul_ediv_add_emod P (n : Int)
    rw [Int.mul_comm] at em
    generalize (n : Int) = c at *
    have tq : P.tdiv c = P / c := Int.tdiv_eq_ediv_of_nonneg (by omega)
    generalize P % c = v at *
    generalize P / c = q at *
    have q0 : 0 ≤ q * c := Int.mul_nonneg d0 (by omega)
    generalize hqc : q * c = z at *
    by_cases hkk : (k : Int) ≤ v
    · rw [if_pos hkk]
      have hkz : (k : Int) ≤ P - z := by omega
      go_enter Tryz.func38, Tryz.ntmps38
      go_wp2_with fail
      all_goals first
        | (exfalso; omega)
        | (go_ret
           exact ⟨ret_int (by omega), (Up.refl w).alloc _⟩)
    · rw [if_neg hkk]
      have hkz : ¬ (k : Int) ≤ P - z := by omega
      go_enter Tryz.func38, Tryz.ntmps38
      go_wp2_with fail
      all_goals first
        | (exfalso; omega)
        | (go_ret
           exact ⟨ret_int (by omega), (Up.refl w).alloc _⟩)
  · have e : partI 2 P n pay k b i = if k < n then 0 else b := by simp [partI]
    rw [e]
    by_cases hkk : k < n
    · rw [if_pos hkk]
      have hk' : (k : Int) < (n : Int) := by omega
      go_enter Tryz.func38, Tryz.ntmps38
      go_wp2_with fail
      go_ret
      exact ⟨rfl, (Up.refl w).alloc _⟩
    · rw [if_neg hkk]
      have hk' : ¬ (k : Int) < (n : Int) := by omega
      go_enter Tryz.func38, Tryz.ntmps38
      go_wp2_with fail
      go_ret
      exact ⟨rfl, (Up.refl w).alloc _⟩
end Go.Proofs.YtgdmkcbbomfmdaaGreatDoor
