/-
  Ours: the walk of InterestAmortizes, one of three cases.
-/
import Derived.Test.YtkabfdajpilomabDoorIntAmz0
namespace Go.Proofs.YtkabfdajpilomabDoor
open Go.RowKit IntM CalM

set_option maxRecDepth 100000 in
set_option maxHeartbeats 30000000 in
theorem amz_inC (kind P r start rule : Int) (n : Nat) (kc : kind = 2 ∧ ¬ mon P r = 0) (hv : validB kind P r n start rule = true) (s2 : start ≤ 3640000) (a : Option Addr) (cap : Nat) (xs : List Int) (hx : xs.length ≤ 4) (w : World) (hA : TabA w) (hL : TabL w) (hS : SlOk w a xs) :
    Calls Tryd.prog 4 #[termsV kind P r n start rule, .slice a xs.length cap] w fun e w' => e = .returned (.bool true) ∧ Up w w' := by
  obtain ⟨⟨s1, _⟩, hk, ⟨P0, P1⟩, ⟨r0, r1⟩, ⟨n0, n1⟩, ⟨u0, u1⟩, hp⟩ := valid_parts hv
  obtain ⟨rs, hpl, am⟩ := amort hv hx s2
  rw [Int.toNat_natCast] at am hp
  obtain ⟨L, hLL⟩ : ∃ L, xs.length = L := ⟨_, rfl⟩
  obtain ⟨N, hN⟩ : ∃ N, rs.length = N := ⟨_, rfl⟩
  have EA : Hid (∀ w, Calls Tryd.prog 7 #[.int .i64 P, .int .i64 r, .int .i64 (n : Int)] w fun e w' => e = .returned (.bool true) ∧ w' = w) := fun w => lending_at P r n true (decide_eq_true (by omega)) w
  have CP : Hid (∀ (w : World), SlOk w a xs → Calls Tryd.prog 10 #[.slice a L cap] w fun e w' => ∃ g capg, e = .returned (.slice (some ⟨g, 0, none⟩) (L + 3) capg) ∧ L + 3 ≤ capg ∧ capg ≤ maxLen ∧ SlOk w' (some ⟨g, 0, none⟩) xs ∧ Up w w') := fun w h => by
    have := copied_at a cap xs w h (by omega)
    rw [hLL] at this
    refine this.mono ?_
    rintro e w1 ⟨v, rfl, hrow, U1⟩
    obtain ⟨g, capg, hv, hg, hc1, hc2, ic⟩ := Row.ic hrow (by simp)
    have l3 : (xs ++ [-7, -8, -9]).length = L + 3 := by simp [hLL]
    rw [l3] at hv hc1 ic
    refine ⟨g, capg, by rw [hv], hc1, hc2, slOk_ic ic (by rw [hLL]; omega) (by rw [hLL]; omega) (fun i hi => ?_), U1⟩
    show (xs ++ [-7, -8, -9]).getD i 0 = _
    rw [List.getD_eq_getElem?_getD, List.getElem?_append_left hi, ← List.getD_eq_getElem?_getD]
  have PL : Hid (∀ (s : Option Addr) (c : Nat) (w : World), TabA w → TabL w → SlOk w s xs → Calls Tryd.prog 6 #[termsV kind P r n start rule, .slice s L c] w fun e w' => ∃ t q, e = .returned (.tuple #[.slice t N q, .bool true]) ∧ InstOk w' t rs ∧ Up w w') := fun s c w hA hL h => by
    have := plan_at kind P r n start rule xs s c w hA hL h
    rw [hLL, hpl] at this
    refine this.mono ?_
    rintro e w1 ⟨U, v, rfl, hans⟩
    obtain ⟨t, q, hv, hI⟩ := RowI.form2 (show RowI w.heap.size w1 v rs from hans)
    exact ⟨t, q, by rw [hv, hN]; rfl, hI, U⟩
  have LV : Hid (∀ w, Calls Tryd.prog 11 #[.int .i64 P, .int .i64 r, .int .i64 (n : Int)] w fun e w' => e = .returned (.tuple #[.int .i64 (payN P r n), .bool true]) ∧ Up w w') := fun w => (level_at P r (payN P r n) n P0 (by omega) r0 r1 (by omega) (by omega) hp w).mono fun e w' ⟨he, m, hw⟩ => ⟨he, by rw [hw]; exact up_boxed _ _ _ _ _⟩
  obtain ⟨dok, hd⟩ := date_spec start s1 (by omega)
  have CA : Hid (∀ w, TabA w → Calls Tryd.prog 12 #[.int .i64 start] w fun e w' => e = .returned (.tuple #[.agg #[.int .i64 (dY start), .int .i64 (dM start), .int .i64 (dK start)], .bool true]) ∧ ∃ o, w' = w.alloc o) := fun w hA => civil_at (dY start) (dM start) (dK start) start dok hd w hA
  have MO : Hid (∀ (b : Int) (w : World), 0 ≤ b → b ≤ 10000000000000 → Calls Tryd.prog 13 #[.int .i64 b, .int .i64 r] w fun e w' => e = .returned (.tuple #[.int .i64 (mon b r), .bool true]) ∧ Up w w') := fun b w h0 h1 => (month_at b r h0 (by omega) r0 r1 w).mono fun e w' ⟨he, m, hw⟩ => ⟨he, by rw [hw]; exact up_drewN (Up.refl w) m⟩
  have SH : Hid (∀ (t : Option Addr) (q j : Nat) (w : World), j < N → InstOk w t rs → Calls Tryd.prog 14 #[termsV kind P r n start rule, .slice t N q, .int .i64 (j : Int), .int .i64 (payN P r n)] w fun e w' => e = .returned (.bool true) ∧ Up w w') := fun t q j w hj hI => share_at kind P r start rule (payN P r n) n _ rs _ _ am hk P1 r0 r1 (by omega) t q N hN j hj w hI
  have TN : Hid (∀ (j : Nat) (w : World), j < N → Calls Tryd.prog 16 #[termsV kind P r n start rule, .int .i64 (mon P r), .int .i64 (j : Int)] w fun e w' => e = .returned (.int .i64 (turnN kind P r n j : Int)) ∧ Up w w') := fun j w hj => turn_at kind P r start rule (mon P r) n j (by have := am.len1; omega) w
  have TM : Hid (∀ (j : Nat) (w : World), j < N → TabA w → TabL w → SlOk w a xs → Calls Tryd.prog 15 #[termsV kind P r n start rule, .slice a L cap, .int .i64 (dK start), .int .i64 (rs.getD j (0, 0, 0)).1, .int .i64 (turnN kind P r n j : Int)] w fun e w' => e = .returned (.bool true) ∧ Up w w') := fun j w hj hA hL hS => by
    obtain ⟨_, q1, q2, q3, q4, q5, q6, q7⟩ := row_facts am (by omega) hx u0 u1 s1 s2 j (by omega)
    have := timely_at kind P r n start rule s1 s2 xs a cap (turnN kind P r n j) (rs.getD j (0, 0, 0)).1 q1 q2 q3 q4 q5 q6 q7 w hA hL hS
    rw [hLL] at this
    exact this
  have RF : Hid (∀ j, j < N → befF start rs j < (rs.getD j (0, 0, 0)).1) := fun j hj => (row_facts am (by omega) hx u0 u1 s1 s2 j (by omega)).1
  have AMR : Hid (∀ j, j < N → 0 < balF rs P j ∧ balF rs P j ≤ P ∧ (rs.getD j (0, 0, 0)).2.1 = mon (balF rs P j) r ∧ 0 ≤ (rs.getD j (0, 0, 0)).2.2 ∧ (rs.getD j (0, 0, 0)).2.2 ≤ balF rs P j ∧ balF rs P (j + 1) = balF rs P j - (rs.getD j (0, 0, 0)).2.2) := fun j hj => by
    obtain ⟨h1, h2, h3, h4, h5, h6, _⟩ := am.row j (by omega)
    exact ⟨h1, h2, h3, h4, h5, h6⟩
  have B0 : Hid (balF rs P 0 = P) := am.start
  have BN : Hid (balF rs P N = 0) := by rw [← hN]; exact am.fin
  have N0 : 1 ≤ (N : Int) := by have := am.len0; omega
  have N1 : (N : Int) ≤ (n : Int) := by have := am.len1; omega
  have nz0 : ¬ (N : Int) = 0 := by omega
  have nz1 : ((N : Int) == 0) = false := by rw [beq_eq_false_iff_ne]; exact nz0
  have ON : Hid (kind = 2 → mon P r = 0 → N = 1) := fun h h' => by rw [← hN]; exact am.one h h'
  have HA : Hid (TabA w) := hA
  have HT : Hid (TabL w) := hL
  have HS : Hid (SlOk w a xs) := hS
  have HLx : Hid (xs.length = L) := hLL
  have lx : (L : Int) ≤ 4 := by omega
  have HN : Hid (rs.length = N) := hN
  rw [hLL]
  have KC : Hid (kind = 2 ∧ ¬ mon P r = 0) := kc
  clear hA hL hS hLL hN am hv hpl hp dok hd hx kc
  unfold termsV at *
  go_enter Tryd.func4, Tryd.ntmps4
  go_wp2_with fail
  refine (EA.out _).mono ?_
  rintro e w1 ⟨rfl, hw⟩; rw [hw]; clear hw w1
  have kd0 : 0 ≤ kind := by omega
  have kd1 : kind ≤ 2 := by omega
  go_wp2_with fail
  have U0 := (Up.refl w).alloc (.cells #[.int .i64 kind, .int .i64 P, .int .i64 r, .int .i64 (n : Int), .int .i64 start, .int .i64 rule] 23)
  have TA0 : Hid (TermsAt kind P r n start rule w.heap.size (w.alloc (.cells #[.int .i64 kind, .int .i64 P, .int .i64 r, .int .i64 (n : Int), .int .i64 start, .int .i64 rule] 23))) := ⟨cell_new _ _ _ 0 _ _ rfl rfl, cell_new _ _ _ 1 _ _ rfl rfl, cell_new _ _ _ 2 _ _ rfl rfl, cell_new _ _ _ 3 _ _ rfl rfl, cell_new _ _ _ 4 _ _ rfl rfl, cell_new _ _ _ 5 _ _ rfl rfl⟩
  have UU0 : Hid (Up w (w.alloc (.cells #[.int .i64 kind, .int .i64 P, .int .i64 r, .int .i64 (n : Int), .int .i64 start, .int .i64 rule] 23))) := U0
  clear U0
  generalize hbb : w.heap.size = bb at *
  have HB : Hid (w.heap.size = bb) := hbb
  clear hbb
  generalize w.alloc (.cells #[.int .i64 kind, .int .i64 P, .int .i64 r, .int .i64 (n : Int), .int .i64 start, .int .i64 rule] 23) = W0 at *
  obtain ⟨c0, c1, c2, c3, c4, c5⟩ := TA0.out
  have UD : Hid (Up w (W0.drewN 1)) := up_drewN UU0.out 1
  go_region_with (first | (go_at_call 10; refine (CP.out _ (HS.out.up UD.out)).mono ?_; rintro e w1 ⟨g, capg, rfl, hc1, hc2, SG, U1⟩; obtain ⟨f0, f1, f2, f3, f4, f5⟩ := (TA0.out.up (up_drewN (Up.refl W0) 1)).up U1; have lc : (L : Int) ≤ (capg : Int) := (by omega)) | (go_at_call 6; refine (PL.out _ _ _ (HA.out.up (UD.out.trans U1)) (HT.out.up (UD.out.trans U1)) SG).mono ?_; rintro e w2 ⟨t1, q1, rfl, hI, U2⟩))
  all_goals
    have TA2 : Hid (TermsAt kind P r n start rule bb w2) := TA0.out.up (((up_drewN (Up.refl W0) 1).trans U1).trans U2)
    have UU2 : Hid (Up w w2) := (UD.out.trans U1).trans U2
    have HI2 : Hid (InstOk w2 t1 rs) := hI
    clear f0 f1 f2 f3 f4 f5 hc1 hc2 SG U1 U2 UD TA0 UU0 hI lc c0 c1 c2 c3 c4 c5
    obtain ⟨c0, c1, c2, c3, c4, c5⟩ := TA2.out
    go_wp2_with fail
    refine (LV.out _).mono ?_
    rintro e w3 ⟨rfl, U3⟩
    have TA3 : Hid (TermsAt kind P r n start rule bb w3) := TA2.out.up U3
    have UU3 : Hid (Up w w3) := UU2.out.trans U3
    have HI3 : Hid (InstOk w3 t1 rs) := HI2.out.up U3
    clear c0 c1 c2 c3 c4 c5 U3 TA2 UU2 HI2
    obtain ⟨c0, c1, c2, c3, c4, c5⟩ := TA3.out
    go_wp2_with fail
    refine (CA.out _ (HA.out.up UU3.out)).mono ?_
    rintro e w4 ⟨rfl, o4, hw⟩; rw [hw]; clear hw w4
    have hb3 : bb < w3.heap.size := World.block_lt_of_cell? w3 _ c0
    have hb4 : bb < w3.heap.size + 1 := by omega
    go_wp2_with fail
    refine (MO.out P _ (by omega) P1).mono ?_
    rintro e W ⟨rfl, UW⟩
    have US : Up w3 ((w3.alloc o4).alloc (.cells #[.int .i64 (dY start), .int .i64 (dM start), .int .i64 (dK start)] 38)) := ((Up.refl w3).alloc _).alloc _
    have TAW : Hid (TermsAt kind P r n start rule bb W) := TA3.out.up (US.trans UW)
    have UUW : Hid (Up w W) := UU3.out.trans (US.trans UW)
    have HIW : Hid (InstOk W t1 rs) := HI3.out.up (US.trans UW)
    have DW : Hid (W.cell? ⟨w3.heap.size + 1, 2, none⟩ = some (.int .i64 (dK start))) := UW.cell (cell_new _ _ _ 2 _ _ rfl (by simp))
    clear c0 c1 c2 c3 c4 c5 hb3 hb4 UW US TA3 UU3 HI3
    generalize w3.heap.size + 1 = bd at *
    obtain ⟨c0, c1, c2, c3, c4, c5⟩ := TAW.out
    have hone' : ((kind == 2) = true ∧ (mon P r == 0) = false) := ⟨by simp [KC.out.1], by simp [KC.out.2]⟩
    clear KC ON LV CA
    generalize mon P r = fi at *
    generalize payN P r n = pay at *
    obtain ⟨hk2, hm1⟩ := hone'
    go_wp2_with fail
    go_loopw [13, 14, 15] (fun vb vf vk wr => ∃ j : Nat, j ≤ N ∧ vb = .int .i64 (balF rs P j) ∧ vf = .int .i64 (befF start rs j) ∧ vk = .int .i64 (j : Int) ∧ Up W wr) (fun _ _ vk _ => N - (intOf vk).toNat)
    case atStart => exact ⟨0, by omega, by rw [B0.out], rfl, rfl, Up.refl W⟩
    case round =>
      obtain ⟨j, hj, rfl, rfl, rfl, UR⟩ := hrel
      by_cases hlt : (j : Int) < (N : Int)
      · obtain ⟨b0, b1, ei, p0, p1, eb⟩ := AMR.out j (by omega)
        have rf := RF.out j (by omega)
        obtain ⟨g, off, rfl, l0, l1, l2, l3⟩ := (HIW.out.up UR).at (k := j) (by rw [HN.out]; omega)
        have d2 := UR.cell DW.out
        clear c0 c1 c2 c3 c4 c5
        obtain ⟨c0, c1, c2, c3, c4, c5⟩ := TAW.out.up UR
        have MB : Hid (∀ w, Calls Tryd.prog 13 #[.int .i64 (balF rs P j), .int .i64 r] w fun e w' => e = .returned (.tuple #[.int .i64 (rs.getD j (0, 0, 0)).2.1, .bool true]) ∧ Up w w') := fun w => by
          rw [ei]; exact MO.out (balF rs P j) w (by omega) (by omega)
        clear ei
        obtain ⟨xd, hxd⟩ : ∃ xd, (rs.getD j (0, 0, 0)).1 = xd := ⟨_, rfl⟩
        obtain ⟨xi, hxi⟩ : ∃ xi, (rs.getD j (0, 0, 0)).2.1 = xi := ⟨_, rfl⟩
        obtain ⟨xp, hxp⟩ : ∃ xp, (rs.getD j (0, 0, 0)).2.2 = xp := ⟨_, rfl⟩
        have hjN : j < N := by omega
        have SH' : Hid (∀ w', (Up W w' ∧ w'.cell? ⟨bb, 0, none⟩ = some (.int .i64 kind) ∧ w'.cell? ⟨bb, 1, none⟩ = some (.int .i64 P) ∧ w'.cell? ⟨bb, 2, none⟩ = some (.int .i64 r) ∧ w'.cell? ⟨bb, 3, none⟩ = some (.int .i64 (n : Int)) ∧ w'.cell? ⟨bb, 4, none⟩ = some (.int .i64 start) ∧ w'.cell? ⟨bb, 5, none⟩ = some (.int .i64 rule) ∧ w'.cell? ⟨bd, 2, none⟩ = some (.int .i64 (dK start)) ∧ w'.cell? ⟨g, off + j * 4, none⟩ = some (.int .i64 xd)) → Calls Tryd.prog 14 #[.agg #[.int .i64 kind, .int .i64 P, .int .i64 r, .int .i64 (n : Int), .int .i64 start, .int .i64 rule], .slice (some ⟨g, off, none⟩) N q1, .int .i64 (j : Int), .int .i64 pay] w' fun e w'' => e = .returned (.bool true) ∧ Up w' w'') := fun w' h => SH.out _ _ j w' hjN (HIW.out.up h.1)
        have TN' : Hid (∀ w', (Up W w' ∧ w'.cell? ⟨bb, 0, none⟩ = some (.int .i64 kind) ∧ w'.cell? ⟨bb, 1, none⟩ = some (.int .i64 P) ∧ w'.cell? ⟨bb, 2, none⟩ = some (.int .i64 r) ∧ w'.cell? ⟨bb, 3, none⟩ = some (.int .i64 (n : Int)) ∧ w'.cell? ⟨bb, 4, none⟩ = some (.int .i64 start) ∧ w'.cell? ⟨bb, 5, none⟩ = some (.int .i64 rule) ∧ w'.cell? ⟨bd, 2, none⟩ = some (.int .i64 (dK start)) ∧ w'.cell? ⟨g, off + j * 4, none⟩ = some (.int .i64 xd)) → Calls Tryd.prog 16 #[.agg #[.int .i64 kind, .int .i64 P, .int .i64 r, .int .i64 (n : Int), .int .i64 start, .int .i64 rule], .int .i64 fi, .int .i64 (j : Int)] w' fun e w'' => e = .returned (.int .i64 (turnN kind P r n j : Int)) ∧ Up w' w'') := fun w' h => TN.out j w' hjN
        have TM' : Hid (∀ w', (Up W w' ∧ w'.cell? ⟨bb, 0, none⟩ = some (.int .i64 kind) ∧ w'.cell? ⟨bb, 1, none⟩ = some (.int .i64 P) ∧ w'.cell? ⟨bb, 2, none⟩ = some (.int .i64 r) ∧ w'.cell? ⟨bb, 3, none⟩ = some (.int .i64 (n : Int)) ∧ w'.cell? ⟨bb, 4, none⟩ = some (.int .i64 start) ∧ w'.cell? ⟨bb, 5, none⟩ = some (.int .i64 rule) ∧ w'.cell? ⟨bd, 2, none⟩ = some (.int .i64 (dK start)) ∧ w'.cell? ⟨g, off + j * 4, none⟩ = some (.int .i64 xd)) → Calls Tryd.prog 15 #[.agg #[.int .i64 kind, .int .i64 P, .int .i64 r, .int .i64 (n : Int), .int .i64 start, .int .i64 rule], .slice a L cap, .int .i64 (dK start), .int .i64 xd, .int .i64 (turnN kind P r n j : Int)] w' fun e w'' => e = .returned (.bool true) ∧ Up w' w'') := fun w' h => by rw [← hxd]; exact TM.out j w' hjN (HA.out.up (UUW.out.trans h.1)) (HT.out.up (UUW.out.trans h.1)) (HS.out.up (UUW.out.trans h.1))
        have NB : Hid (balF rs P (j + 1) = balF rs P j - xp) := by rw [← hxp]; exact eb
        have NF : Hid (befF start rs (j + 1) = xd) := by rw [← hxd]; rfl
        clear eb SH TN TM
        rw [hxi] at MB l1
        rw [hxd] at rf l0
        rw [hxp] at p0 p1 l2
        have HXD : Hid ((rs.getD j (0, 0, 0)).1 = xd) := hxd
        have HXP : Hid ((rs.getD j (0, 0, 0)).2.2 = xp) := hxp
        clear hxd hxi hxp
        generalize balF rs P j = b at *
        generalize befF start rs j = bf at *
        generalize turnN kind P r n j = tj at *
        generalize dK start = dk at *
        have e1 : (xi != xi) = false := by simp
        go_wp2_with fail
        refine (MB.out _).mono ?_
        rintro e w5 ⟨rfl, U5⟩
        have UR5 := UR.trans U5
        have m0 := U5.cell l0
        have m1 := U5.cell l1
        have m2 := U5.cell l2
        have m3 := U5.cell l3
        have n2 := U5.cell d2
        have k0 := U5.cell c0
        have k1 := U5.cell c1
        have k2 := U5.cell c2
        have k3 := U5.cell c3
        have k4 := U5.cell c4
        have k5 := U5.cell c5
        clear l0 l1 l2 l3 c0 c1 c2 c3 c4 c5 d2 U5
        go_wp2_with fail
        go_region_held (fun w' => Up W w' ∧ w'.cell? ⟨bb, 0, none⟩ = some (.int .i64 kind) ∧ w'.cell? ⟨bb, 1, none⟩ = some (.int .i64 P) ∧ w'.cell? ⟨bb, 2, none⟩ = some (.int .i64 r) ∧ w'.cell? ⟨bb, 3, none⟩ = some (.int .i64 (n : Int)) ∧ w'.cell? ⟨bb, 4, none⟩ = some (.int .i64 start) ∧ w'.cell? ⟨bb, 5, none⟩ = some (.int .i64 rule) ∧ w'.cell? ⟨bd, 2, none⟩ = some (.int .i64 dk) ∧ w'.cell? ⟨g, off + j * 4, none⟩ = some (.int .i64 xd)) (first | exact ⟨up_drewN UR5 1, k0, k1, k2, k3, k4, k5, n2, m0⟩ | exact held8 hU (by assumption)) (first | (go_at_call 14; refine (SH'.out _ (by assumption)).mono ?_; rintro e w6 ⟨rfl, hU⟩) | (go_at_call 16; refine (TN'.out _ (by assumption)).mono ?_; rintro e w6 ⟨rfl, hU⟩) | (go_at_call 15; refine (TM'.out _ (by assumption)).mono ?_; rintro e w6 ⟨rfl, hU⟩))
        all_goals
          have h6 : Up W w6 ∧ w6.cell? ⟨bb, 0, none⟩ = some (.int .i64 kind) ∧ w6.cell? ⟨bb, 1, none⟩ = some (.int .i64 P) ∧ w6.cell? ⟨bb, 2, none⟩ = some (.int .i64 r) ∧ w6.cell? ⟨bb, 3, none⟩ = some (.int .i64 (n : Int)) ∧ w6.cell? ⟨bb, 4, none⟩ = some (.int .i64 start) ∧ w6.cell? ⟨bb, 5, none⟩ = some (.int .i64 rule) ∧ w6.cell? ⟨bd, 2, none⟩ = some (.int .i64 dk) ∧ w6.cell? ⟨g, off + j * 4, none⟩ = some (.int .i64 xd) := by assumption
          obtain ⟨g', off', e', l0, l1, l2, l3⟩ := (HIW.out.up h6.1).at (k := j) (by rw [HN.out]; omega)
          obtain ⟨rfl, rfl⟩ : g = g' ∧ off = off' := by simpa using e'
          rw [HXD.out] at l0
          rw [HXP.out] at l2
          have U6 : Hid (Up W w6) := h6.1
          clear e' h6 l1 l3
          go_wp2_with fail
          go_roundw
          case rel => exact ⟨j + 1, by omega, by rw [NB.out], by rw [NF.out], by go_num, U6.out⟩
          case measure => simp [intOf]; omega
      · obtain rfl : j = N := by omega
        have e0 : balF rs P j = 0 := BN.out
        rw [e0]
        generalize befF start rs j = bf at *
        have UF : Hid (Up w wr) := UUW.out.trans UR
        clear e0
        go_wp2_with fail
        go_ret
        exact ⟨rfl, UF.out⟩
end Go.Proofs.YtkabfdajpilomabDoor
