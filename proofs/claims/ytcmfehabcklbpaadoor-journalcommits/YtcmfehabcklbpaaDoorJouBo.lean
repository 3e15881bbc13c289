/-
  Ours: the statement's opened (gen_jouop.py: THE SEAT's OWN NUMBERS).
-/
import Derived.Test.YtcmfehabcklbpaaDoorJouBk
namespace Go.Proofs.YtcmfehabcklbpaaDoor
open Go.RowKit JM

set_option maxRecDepth 100000 in
set_option maxHeartbeats 4000000 in
theorem opened_0A (w0 : World) (R B : Nat) (S : Nat → Prop) (f : Nat) (o tail : List Nat) (q : List (Int × Int)) (wr : Int) (jv : Value) (al mb : Bool) (s s' : Stt) (v : Bv) (w : World) (i M : Nat) (h : BI w0 R B S (D3 f (s.f ++ tail) o q wr false) jv al mb s s' v w) (x : JX3 f s o tail) (k : SOk s i M) (k' : mb = true → SOk s' i M) (hi : i ≤ 5000) (hw : 0 ≤ wr ∧ wr < 100000000) (hT : ∀ w', Below w0.heap.size w0 w' → TabS w') :
    Calls Tryd.prog 23 #[.pointer (some ⟨B, 0, none⟩)] w fun e w' => e = .returned (.bool true) ∧ ((∃ q' wr', LV w0 R B i M [] q' wr' w' ∧ (q = [] → q' = []) ∧ (wr ≤ wr' ∧ wr' ≤ wr + 2)) ∨ (q ≠ [] ∧ ∃ t', DD w0 R B i M t' w' ∧ t'.dn = true ∧ (wr ≤ t'.wr ∧ t'.wr ≤ wr + 2))) := by
  have H0 : Hid (BI w0 R B S (D3 f (s.f ++ tail) o q wr false) jv al mb s s' v w) := h
  have DN : Hid (Calls Tryd.prog 27 #[.pointer (some ⟨R, 0, none⟩)] w fun e w' => e = .returned (.bool false) ∧ w = w') := (down_at R S _ w h.d).mono fun e w' ⟨h1, h2⟩ => ⟨by rw [h1, D3_dn], h2.symm⟩
  have TT : Hid (∀ w', Below w0.heap.size w0 w' → TabS w') := hT
  have KK : Hid (SOk s i M ∧ (mb = true → SOk s' i M) ∧ SOk s i M ∧ i ≤ 5000 ∧ 0 ≤ wr ∧ wr < 100000000 ∧ JX3 f s o tail) := ⟨k, k', k, hi, hw.1, hw.2, x⟩
  have OP : Hid (∀ S1 w1, DkAt R S1 (D3 f (s.f ++ tail) o q wr false) w1 → Below w0.heap.size w0 w1 → Calls Tryd.prog 12 #[.pointer (some ⟨R, 0, none⟩)] w1 (OpA R S1 s q wr (decide (o = [] ∧ tail = [])) w1)) := fun S1 w1 d1 b1 => open_any R S1 f s o tail q wr w1 x k hi ⟨hw.1, by omega⟩ d1 (hT w1 b1)
  have c0 := h.b.cell 0 _ rfl
  clear h x k k' hi hw hT
  go_enter Tryd.func23, Tryd.ntmps23
  go_wp2_with fail
  refine DN.out.mono ?_
  rintro e w' ⟨rfl, rfl⟩
  obtain ⟨w1, hw1⟩ : ∃ w1, w = w1 := ⟨_, rfl⟩
  obtain ⟨S1, hS1⟩ : ∃ S1, S = S1 := ⟨_, rfl⟩
  rw [hw1, hS1] at H0
  rw [hw1] at c0 ⊢
  have H1 : Hid (BI w0 R B S1 (D3 f (s.f ++ tail) o q wr false) jv al mb s s' v w1) := H0
  clear H0 DN c0 hw1 hS1
  have y2 := H1.out.b.cell 2 _ rfl
  have z2 := H1.out.b.fz 2
  have H2 : Hid (BI w0 R B S1 (D3 f (s.f ++ tail) o q wr false) jv false mb s s' v (w1.setCell ⟨B, 2, none⟩ (.bool false))) := H1.out.put 2 _ rfl id
  go_upto_region 4 with fail
  generalize w1.setCell ⟨B, 2, none⟩ (.bool false) = w2 at *
  have y0 := H2.out.b.cell 0 _ rfl
  have O2 : Hid (Calls Tryd.prog 12 #[.pointer (some ⟨R, 0, none⟩)] w2 (OpA R S1 s q wr (decide (o = [] ∧ tail = [])) w2)) := OP.out S1 w2 H2.out.d H2.out.bl
  clear H1 y2 z2 OP
  go_wp2_with fail
  refine O2.out.mono ?_
  clear O2
  rintro e w3 (⟨G, a1, d1, a2, d2, S3, f3, ct, q3, wr3, rfl, ja, g3, k3, lG, rb, rr, hwr, hq3, -⟩ | ⟨rfl, hq, t3, ⟨S3, d3, g3, k3⟩, hdn, hh, hwr⟩)
  · have H3 : Hid (BI w0 R B S3 (D3 f3 s.f [] q3 wr3 false) jv false mb s s' v w3) := H2.out.disk ja.d g3 k3 (fun g hg => .inl hg)
    have LG : Hid (w0.heap.size ≤ G) := Nat.le_trans H2.out.bl.size lG
    have JA3 : Hid (JA w0 R G S3 f3 s [] q3 wr3 w3) := ⟨ja.d, ja.j, ja.n, ja.x⟩
    have RB : Hid (RdB w3 (.slice a1 s.sn.length d1) s.sn ∧ RdR w3 (.slice a2 s.rs.length d2) s.rs) := ⟨rb, rr⟩
    have WQ : Hid ((q = [] → q3 = []) ∧ (wr ≤ wr3 ∧ wr3 ≤ wr + 2)) := ⟨hq3, hwr⟩
    clear ja g3 k3 lG rb rr hwr hq3 H2 y0
    go_upto_region 5 with ((with_reducible refine at_store ?_); refine step_store rfl 34 _ _ rfl w3.heap.size 0 34 rcZ [.int .i64 (s.ep : Int), .slice a1 s.sn.length d1, .slice a2 s.rs.length d2, .int .i64 (ct : Int)] rfl rfl (Blk.new 34 rcZ w3) (Nat.le_refl _) rfl (rcL_one _ _ _ _ _ _ _ _) ?_; intro w4 nb g4; have N4 : Hid (Blk w3.heap.size 34 [.int .i64 (s.ep : Int), .slice a1 s.sn.length d1, .slice a2 s.rs.length d2, .int .i64 (ct : Int)] w4 ∧ Below w3.heap.size w3 w4) := ⟨blk_put (Nat.le_refl _) nb, below_row (below_alloc _ _) g4 (Nat.le_refl _)⟩; clear nb g4)
    have H4 : Hid (BI w0 R B S3 (D3 f3 s.f [] q3 wr3 false) jv false mb s s' v w4) := H3.out.later N4.out.2
    have J4 : Hid (JA w0 R G S3 f3 s [] q3 wr3 w4) := ⟨JA3.out.d.below N4.out.2, JA3.out.j.below N4.out.2, JA3.out.n, JA3.out.x⟩
    have P4 : Hid (Blk w3.heap.size 34 [.int .i64 (s.ep : Int), .slice a1 s.sn.length d1, .slice a2 s.rs.length d2, .int .i64 (ct : Int)] w4) := N4.out.1
    have RB4 : Hid (RdB w4 (.slice a1 s.sn.length d1) s.sn ∧ RdR w4 (.slice a2 s.rs.length d2) s.rs) := ⟨Rd.later RB.out.1 N4.out.2, RB.out.2.later N4.out.2⟩
    have DN4 : Hid (Calls Tryd.prog 27 #[.pointer (some ⟨R, 0, none⟩)] w4 fun e w' => e = .returned (.bool false) ∧ w4 = w') := (down_at R S3 _ w4 H4.out.d).mono fun e w' ⟨h1, h2⟩ => ⟨by rw [h1, D3_dn], h2.symm⟩
    have y0 := H4.out.b.cell 0 _ rfl
    obtain ⟨P, hP⟩ : ∃ P, w3.heap.size = P := ⟨_, rfl⟩
    rw [hP] at P4 ⊢
    clear hP H3 JA3 RB N4
    go_wp2_with fail
    refine DN4.out.mono ?_
    rintro e w' ⟨rfl, rfl⟩
    clear DN4 y0
    have HO : Hid (∀ w', Below w4.heap.size w4 w' → Calls Tryd.prog 22 #[.agg #[.int .i64 (s.ep : Int), .slice v.a1 v.n1 v.c1, .slice v.a2 v.n2 v.c2], .agg #[.int .i64 (s.ep : Int), .slice a1 s.sn.length d1, .slice a2 s.rs.length d2, .int .i64 (ct : Int)]] w' fun e w'' => e = .returned (.bool true) ∧ Below w'.heap.size w' w'') := fun w' hb => by
      have bw := below_trans H4.out.bl hb
      have := holds_at (s.ep : Int) (s.ep : Int) (ct : Int) s.sn s.sn s.rs s.rs v.a1 v.a2 a1 a2 v.n1 v.n2 s.sn.length s.rs.length v.c1 v.c2 d1 d2 w' (H4.out.i1.2 w' bw) ((H4.out.l1.later hb).rd bw) (Rd.later RB4.out.1 hb) (RB4.out.2.later hb) (by have := KK.out.2.2.1.sl; omega) (by have := KK.out.2.2.1.rn; have := KK.out.2.2.2.1; omega) (fun r hr => by have := KK.out.2.2.1.rl r hr; omega)
      rw [decide_eq_true ⟨rfl, rfl, rfl⟩] at this
      exact this
    go_upto_region 11 with fail
    refine wp_region_held_drew (S := fun w' => Blk B 56 (bkC R (jv) false (s.ep : Int) mb v) w' ∧ Blk P 34 [.int .i64 (s.ep : Int), .slice a1 s.sn.length d1, .slice a2 s.rs.length d2, .int .i64 (ct : Int)] w') (by kernel_rfl) (⟨H4.out.b.below (Below.drew (Below.refl _ _)), P4.out.below (Below.drew (Below.refl _ _))⟩) (fun hH => ?_)
    refine wpAnyH_take (i := 0) (oi := { dst := some 52, op := Op.move (Operand.tmp 0), type := 54, pos := "outright.go:86", after := #[], guard := none }) (v := .pointer (some ⟨B, 0, none⟩)) rfl (by kernel_rfl) (by kernel_rfl) (by kernel_rfl) (fun _ _ _ h => h) (Or.inl ⟨by rfl, fun w' hs => by go_simp⟩) hH ?_
    try simp only [Act.put, List.setIfInBounds_toArray, List.set_cons_zero, List.set_cons_succ]
    refine wpAnyH_take (i := 1) (oi := { dst := some 53, op := Op.nilCheck (Operand.tmp 52), type := 0, pos := "outright.go:86", after := #[{ on := 0, ground := Ground.data }], guard := none }) (v := .pointer (some ⟨B, 0, none⟩)) rfl (by kernel_rfl) (by kernel_rfl) (by kernel_rfl) (fun _ _ _ h => h) (Or.inl ⟨by rfl, fun w' hs => by go_simp⟩) hH ?_
    try simp only [Act.put, List.setIfInBounds_toArray, List.set_cons_zero, List.set_cons_succ]
    refine wpAnyH_take (i := 2) (oi := { dst := some 54, op := Op.fieldAddr 56 (Operand.tmp 53) 3, type := 0, pos := "outright.go:86", after := #[{ on := 1, ground := Ground.data }], guard := none }) (v := .pointer (some ⟨B, 3, none⟩)) rfl (by kernel_rfl) (by kernel_rfl) (by kernel_rfl) (fun _ _ _ h => h) (Or.inl ⟨by rfl, fun w' hs => by go_simp⟩) hH ?_
    try simp only [Act.put, List.setIfInBounds_toArray, List.set_cons_zero, List.set_cons_succ]
    refine wpAnyH_take (i := 3) (oi := { dst := some 55, op := Op.load 49 (Operand.tmp 54), type := 49, pos := "outright.go:86", after := #[{ on := 2, ground := Ground.data }], guard := none }) (v := .agg ([.int .i64 (s.ep : Int), .slice v.a1 v.n1 v.c1, .slice v.a2 v.n2 v.c2] : List Value).toArray) rfl (by kernel_rfl) (by kernel_rfl) (by kernel_rfl) (fun _ _ _ h => h) (yieldsIf_load_mid (by rfl) _ _ rfl _ 3 rfl ([.int .i64 (s.ep : Int), .slice v.a1 v.n1 v.c1, .slice v.a2 v.n2 v.c2]) _ (fun w' h => blk_range h.1 3 rfl) Tryd.underlying49 rfl rfl) hH ?_
    try simp only [Act.put, List.setIfInBounds_toArray, List.set_cons_zero, List.set_cons_succ]
    refine wpAnyH_take (i := 4) (oi := { dst := some 56, op := Op.load 34 (Operand.tmp 4), type := 34, pos := "outright.go:86", after := #[], guard := none }) (v := .agg ([.int .i64 (s.ep : Int), .slice a1 s.sn.length d1, .slice a2 s.rs.length d2, .int .i64 (ct : Int)] : List Value).toArray) rfl (by kernel_rfl) (by kernel_rfl) (by kernel_rfl) (fun _ _ _ h => h) (yieldsIf_load_mid (by rfl) _ _ rfl _ 0 rfl ([.int .i64 (s.ep : Int), .slice a1 s.sn.length d1, .slice a2 s.rs.length d2, .int .i64 (ct : Int)]) _ (fun w' h => h.2.all) Tryd.underlying34 rfl rfl) hH ?_
    try simp only [Act.put, List.setIfInBounds_toArray, List.set_cons_zero, List.set_cons_succ]
    refine wpAnyH_ready (rs := [5]) (by kernel_rfl) (by simp) ?_
    refine AllReadyH.cons (o := { dst := some 57, op := Op.call { callee := Callee.value (Operand.func 22), args := #[Operand.tmp 55, Operand.tmp 56], argTypes := #[49, 34] }, type := 4, pos := "outright.go:86", after := #[{ on := 3, ground := Ground.data }, { on := 4, ground := Ground.data }], guard := none }) rfl (fun K hK => ?_) AllReadyH.nil
    go_simp
    refine (HO.out _ (Below.drew (Below.refl _ _))).mono ?_
    rintro e w5 ⟨rfl, b5⟩
    have B5 : Hid (Below w4.heap.size w4 w5) := below_trans (Below.drew (Below.refl _ _)) b5
    clear b5
    refine hK.out _ _ ⟨H4.out.b.below B5.out, P4.out.below B5.out⟩ (fun hH => ?_)
    refine wpAnyH_take (i := 6) (oi := { dst := some 51, op := Op.assign (Operand.tmp 57), type := 4, pos := "outright.go:86", after := #[{ on := 5, ground := Ground.data }, { on := 5, ground := Ground.chain }], guard := none }) (v := .bool true) rfl (by kernel_rfl) (by kernel_rfl) (by kernel_rfl) (fun _ _ _ h => h) (Or.inl ⟨by rfl, fun w' hs => by go_simp⟩) hH ?_
    try simp only [Act.put, List.setIfInBounds_toArray, List.set_cons_zero, List.set_cons_succ]
    refine wpAnyH_done (by kernel_rfl) ?_ _
    clear hH hK
    have H5 : Hid (BI w0 R B S3 (D3 f3 s.f [] q3 wr3 false) jv false mb s s' v w5) := H4.out.later B5.out
    have J5 : Hid (JA w0 R G S3 f3 s [] q3 wr3 w5) := ⟨J4.out.d.below B5.out, J4.out.j.below B5.out, J4.out.n, J4.out.x⟩
    have P5 : Hid (Blk P 34 [.int .i64 (s.ep : Int), .slice a1 s.sn.length d1, .slice a2 s.rs.length d2, .int .i64 (ct : Int)] w5) := P4.out.below B5.out
    clear H4 J4 P4 B5 HO RB4
    obtain ⟨w7, hw7⟩ : ∃ w7, w5 = w7 := ⟨_, rfl⟩
    rw [hw7] at H5 J5 ⊢
    clear hw7 P5
    have H7 : Hid (BI w0 R B S3 (D3 f3 s.f [] q3 wr3 false) jv false mb s s' v w7) := H5
    have J7 : Hid (JA w0 R G S3 f3 s [] q3 wr3 w7) := J5
    clear H5 J5
    have y1 := H7.out.b.cell 1 _ rfl
    have z1 := H7.out.b.fz 1
    have y2 := H7.out.b.cell 2 _ rfl
    have z2 := H7.out.b.fz 2
    have y6 := H7.out.b.cell 6 _ rfl
    have z6 := H7.out.b.fz 6
    have NJB : Hid (G ≠ B) := fun e => by
      have h1 : w7.heap[G]? = _ := J7.out.j
      have h2 : w7.heap[B]? = _ := H7.out.b
      rw [e, h2] at h1
      injection h1 with h1
      injection h1 with _ h1
      exact absurd h1 (by decide)
    have H8 : Hid (BI w0 R B S3 (D3 f3 s.f [] q3 wr3 false) (.pointer (some ⟨G, 0, none⟩)) true false s s' v (((w7.setCell ⟨B, 1, none⟩ (.pointer (some ⟨G, 0, none⟩))).setCell ⟨B, 2, none⟩ (.bool true)).setCell ⟨B, 6, none⟩ (.bool false))) := ((H7.out.put 1 _ rfl id).put 2 _ rfl id).put 6 _ rfl (fun e => by cases e)
    have J8 : Hid (Blk G 72 (jnL R (f3 : Int) (s.ep : Int) (s.rs.length : Int) false) (((w7.setCell ⟨B, 1, none⟩ (.pointer (some ⟨G, 0, none⟩))).setCell ⟨B, 2, none⟩ (.bool true)).setCell ⟨B, 6, none⟩ (.bool false))) := ((J7.out.j.kp (setCell_kp w7 B 1 _) NJB.out).kp (setCell_kp _ B 2 _) NJB.out).kp (setCell_kp _ B 6 _) NJB.out
    go_upto_region 17 with fail
    generalize ((w7.setCell ⟨B, 1, none⟩ (.pointer (some ⟨G, 0, none⟩))).setCell ⟨B, 2, none⟩ (.bool true)).setCell ⟨B, 6, none⟩ (.bool false) = w8 at *
    have LN : Hid (v.n2 = s.rs.length) := by
      obtain ⟨a, c, e, -⟩ := H8.out.l1.len
      injection e with _ e _
    have EP8 : Hid (∀ w', Blk G 72 (jnL R (f3 : Int) (s.ep : Int) (s.rs.length : Int) false) w' → Calls Tryd.prog 29 #[.pointer (some ⟨G, 0, none⟩)] w' fun e w'' => e = .returned (.int .i64 (s.ep : Int)) ∧ w' = w'') := fun w' hb => (epoch_at R G _ _ _ _ w' hb).mono fun e w'' ⟨h1, h2⟩ => ⟨h1, h2.symm⟩
    have CT8 : Hid (∀ w', Blk G 72 (jnL R (f3 : Int) (s.ep : Int) (s.rs.length : Int) false) w' → Calls Tryd.prog 30 #[.pointer (some ⟨G, 0, none⟩)] w' fun e w'' => e = .returned (.int .i64 (v.n2 : Int)) ∧ w' = w'') := fun w' hb => (count_at R G _ _ _ _ w' hb).mono fun e w'' ⟨h1, h2⟩ => ⟨by rw [h1, LN.out], h2.symm⟩
    have J7N : Hid (¬ S3 G) := J7.out.n
    have J7X : Hid (JX3 f3 s [] []) := J7.out.x
    clear H7 J7 y1 z1 y2 z2 y6 z6
    refine wp_region_held_drew (S := fun w' => Blk B 56 (bkC R (.pointer (some ⟨G, 0, none⟩)) true (s.ep : Int) false v) w' ∧ Blk G 72 (jnL R (f3 : Int) (s.ep : Int) (s.rs.length : Int) false) w') (by kernel_rfl) (⟨H8.out.b.below (Below.drew (Below.refl _ _)), J8.out.below (Below.drew (Below.refl _ _))⟩) (fun hH => ?_)
    refine wpAnyH_take (i := 0) (oi := { dst := some 88, op := Op.move (Operand.tmp 3), type := 31, pos := "outright.go:95", after := #[], guard := none }) (v := .pointer (some ⟨G, 0, none⟩)) rfl (by kernel_rfl) (by kernel_rfl) (by kernel_rfl) (fun _ _ _ h => h) (Or.inl ⟨by rfl, fun w' hs => by go_simp⟩) hH ?_
    try simp only [Act.put, List.setIfInBounds_toArray, List.set_cons_zero, List.set_cons_succ]
    refine wpAnyH_take (i := 2) (oi := { dst := some 90, op := Op.move (Operand.tmp 0), type := 54, pos := "outright.go:95", after := #[], guard := none }) (v := .pointer (some ⟨B, 0, none⟩)) rfl (by kernel_rfl) (by kernel_rfl) (by kernel_rfl) (fun _ _ _ h => h) (Or.inl ⟨by rfl, fun w' hs => by go_simp⟩) hH ?_
    try simp only [Act.put, List.setIfInBounds_toArray, List.set_cons_zero, List.set_cons_succ]
    refine wpAnyH_take (i := 3) (oi := { dst := some 91, op := Op.nilCheck (Operand.tmp 90), type := 0, pos := "outright.go:95", after := #[{ on := 2, ground := Ground.data }], guard := none }) (v := .pointer (some ⟨B, 0, none⟩)) rfl (by kernel_rfl) (by kernel_rfl) (by kernel_rfl) (fun _ _ _ h => h) (Or.inl ⟨by rfl, fun w' hs => by go_simp⟩) hH ?_
    try simp only [Act.put, List.setIfInBounds_toArray, List.set_cons_zero, List.set_cons_succ]
    refine wpAnyH_take (i := 4) (oi := { dst := some 92, op := Op.fieldAddr 56 (Operand.tmp 91) 3, type := 0, pos := "outright.go:95", after := #[{ on := 3, ground := Ground.data }], guard := none }) (v := .pointer (some ⟨B, 3, none⟩)) rfl (by kernel_rfl) (by kernel_rfl) (by kernel_rfl) (fun _ _ _ h => h) (Or.inl ⟨by rfl, fun w' hs => by go_simp⟩) hH ?_
    try simp only [Act.put, List.setIfInBounds_toArray, List.set_cons_zero, List.set_cons_succ]
    refine wpAnyH_take (i := 5) (oi := { dst := some 93, op := Op.fieldAddr 49 (Operand.tmp 92) 0, type := 0, pos := "outright.go:95", after := #[{ on := 4, ground := Ground.data }], guard := none }) (v := .pointer (some ⟨B, 3, none⟩)) rfl (by kernel_rfl) (by kernel_rfl) (by kernel_rfl) (fun _ _ _ h => h) (Or.inl ⟨by rfl, fun w' hs => by go_simp⟩) hH ?_
    try simp only [Act.put, List.setIfInBounds_toArray, List.set_cons_zero, List.set_cons_succ]
    refine wpAnyH_take (i := 6) (oi := { dst := some 94, op := Op.load 3 (Operand.tmp 93), type := 3, pos := "outright.go:95", after := #[{ on := 5, ground := Ground.data }], guard := none }) (v := .int .i64 (s.ep : Int)) rfl (by kernel_rfl) (by kernel_rfl) (by kernel_rfl) (fun _ _ _ h => h) (Or.inl ⟨by rfl, fun w' hs => by have c := hs.1.cell 3 _ rfl; go_simp⟩) hH ?_
    try simp only [Act.put, List.setIfInBounds_toArray, List.set_cons_zero, List.set_cons_succ]
    refine wpAnyH_ready (rs := [1]) (by kernel_rfl) (by simp) ?_
    refine AllReadyH.cons (o := { dst := some 89, op := Op.call { callee := Callee.value (Operand.func 29), args := #[Operand.tmp 88], argTypes := #[31] }, type := 3, pos := "outright.go:95", after := #[{ on := 0, ground := Ground.data }], guard := none }) rfl (fun K hK => ?_) AllReadyH.nil
    go_simp
    refine (EP8.out _ hH.2).mono ?_
    rintro e w9 ⟨rfl, rfl⟩
    refine hK.out _ _ hH (fun hH => ?_)
    try simp only [Act.put, List.setIfInBounds_toArray, List.set_cons_zero, List.set_cons_succ]
    refine wpAnyH_take (i := 7) (oi := { dst := some 95, op := Op.binOp BinOp.eql 3 (Operand.tmp 89) (Operand.tmp 94) 3, type := 4, pos := "outright.go:95", after := #[{ on := 1, ground := Ground.data }, { on := 6, ground := Ground.data }], guard := none }) (v := .bool true) rfl (by kernel_rfl) (by kernel_rfl) (by kernel_rfl) (fun _ _ _ h => h) (Or.inl ⟨by rfl, fun w' hs => by go_simp⟩) hH ?_
    try simp only [Act.put, List.setIfInBounds_toArray, List.set_cons_zero, List.set_cons_succ]
    refine wpAnyH_take (i := 8) (oi := { dst := some 96, op := Op.move (Operand.tmp 95), type := 4, pos := "outright.go:95", after := #[{ on := 7, ground := Ground.data }, { on := 1, ground := Ground.chain }], guard := none }) (v := .bool true) rfl (by kernel_rfl) (by kernel_rfl) (by kernel_rfl) (fun _ _ _ h => h) (Or.inl ⟨by rfl, fun w' hs => by go_simp⟩) hH ?_
    try simp only [Act.put, List.setIfInBounds_toArray, List.set_cons_zero, List.set_cons_succ]
    refine wpAnyH_take (i := 9) (oi := { dst := some 97, op := Op.move (Operand.tmp 3), type := 31, pos := "outright.go:95", after := #[{ on := 8, ground := Ground.guard }], guard := some (8, true) }) (v := .pointer (some ⟨G, 0, none⟩)) rfl (by kernel_rfl) (by kernel_rfl) (by kernel_rfl) (fun _ _ _ h => h) (Or.inl ⟨by rfl, fun w' hs => by go_simp⟩) hH ?_
    try simp only [Act.put, List.setIfInBounds_toArray, List.set_cons_zero, List.set_cons_succ]
    refine wpAnyH_take (i := 11) (oi := { dst := some 99, op := Op.move (Operand.tmp 0), type := 54, pos := "outright.go:95", after := #[{ on := 8, ground := Ground.guard }], guard := some (8, true) }) (v := .pointer (some ⟨B, 0, none⟩)) rfl (by kernel_rfl) (by kernel_rfl) (by kernel_rfl) (fun _ _ _ h => h) (Or.inl ⟨by rfl, fun w' hs => by go_simp⟩) hH ?_
    try simp only [Act.put, List.setIfInBounds_toArray, List.set_cons_zero, List.set_cons_succ]
    refine wpAnyH_take (i := 12) (oi := { dst := some 100, op := Op.nilCheck (Operand.tmp 99), type := 0, pos := "outright.go:95", after := #[{ on := 11, ground := Ground.data }, { on := 8, ground := Ground.guard }], guard := some (8, true) }) (v := .pointer (some ⟨B, 0, none⟩)) rfl (by kernel_rfl) (by kernel_rfl) (by kernel_rfl) (fun _ _ _ h => h) (Or.inl ⟨by rfl, fun w' hs => by go_simp⟩) hH ?_
    try simp only [Act.put, List.setIfInBounds_toArray, List.set_cons_zero, List.set_cons_succ]
    refine wpAnyH_take (i := 13) (oi := { dst := some 101, op := Op.fieldAddr 56 (Operand.tmp 100) 3, type := 0, pos := "outright.go:95", after := #[{ on := 12, ground := Ground.data }, { on := 8, ground := Ground.guard }], guard := some (8, true) }) (v := .pointer (some ⟨B, 3, none⟩)) rfl (by kernel_rfl) (by kernel_rfl) (by kernel_rfl) (fun _ _ _ h => h) (Or.inl ⟨by rfl, fun w' hs => by go_simp⟩) hH ?_
    try simp only [Act.put, List.setIfInBounds_toArray, List.set_cons_zero, List.set_cons_succ]
    refine wpAnyH_take (i := 14) (oi := { dst := some 102, op := Op.fieldAddr 49 (Operand.tmp 101) 2, type := 0, pos := "outright.go:95", after := #[{ on := 13, ground := Ground.data }, { on := 8, ground := Ground.guard }], guard := some (8, true) }) (v := .pointer (some ⟨B, 5, none⟩)) rfl (by kernel_rfl) (by kernel_rfl) (by kernel_rfl) (fun _ _ _ h => h) (Or.inl ⟨by rfl, fun w' hs => by go_simp⟩) hH ?_
    try simp only [Act.put, List.setIfInBounds_toArray, List.set_cons_zero, List.set_cons_succ]
    refine wpAnyH_take (i := 15) (oi := { dst := some 103, op := Op.load 32 (Operand.tmp 102), type := 32, pos := "outright.go:95", after := #[{ on := 14, ground := Ground.data }, { on := 8, ground := Ground.guard }], guard := some (8, true) }) (v := .slice v.a2 v.n2 v.c2) rfl (by kernel_rfl) (by kernel_rfl) (by kernel_rfl) (fun _ _ _ h => h) (Or.inl ⟨by rfl, fun w' hs => by have c := hs.1.cell 5 _ rfl; go_simp⟩) hH ?_
    try simp only [Act.put, List.setIfInBounds_toArray, List.set_cons_zero, List.set_cons_succ]
    refine wpAnyH_take (i := 16) (oi := { dst := some 104, op := Op.call { callee := Callee.builtin Builtin.len, args := #[Operand.tmp 103], argTypes := #[32] }, type := 3, pos := "outright.go:95", after := #[{ on := 15, ground := Ground.data }, { on := 8, ground := Ground.guard }], guard := some (8, true) }) (v := .int .i64 (v.n2 : Int)) rfl (by kernel_rfl) (by kernel_rfl) (by kernel_rfl) (fun _ _ _ h => h) (Or.inl ⟨by rfl, fun w' hs => by go_simp⟩) hH ?_
    try simp only [Act.put, List.setIfInBounds_toArray, List.set_cons_zero, List.set_cons_succ]
    refine wpAnyH_ready (rs := [10]) (by kernel_rfl) (by simp) ?_
    refine AllReadyH.cons (o := { dst := some 98, op := Op.call { callee := Callee.value (Operand.func 30), args := #[Operand.tmp 97], argTypes := #[31] }, type := 3, pos := "outright.go:95", after := #[{ on := 9, ground := Ground.data }, { on := 8, ground := Ground.chain }, { on := 8, ground := Ground.guard }], guard := some (8, true) }) rfl (fun K hK => ?_) AllReadyH.nil
    go_simp
    refine (CT8.out _ hH.2).mono ?_
    rintro e w10 ⟨rfl, rfl⟩
    refine hK.out _ _ hH (fun hH => ?_)
    try simp only [Act.put, List.setIfInBounds_toArray, List.set_cons_zero, List.set_cons_succ]
    refine wpAnyH_take (i := 17) (oi := { dst := some 105, op := Op.binOp BinOp.eql 3 (Operand.tmp 98) (Operand.tmp 104) 3, type := 4, pos := "outright.go:95", after := #[{ on := 10, ground := Ground.data }, { on := 16, ground := Ground.data }, { on := 8, ground := Ground.guard }], guard := some (8, true) }) (v := .bool true) rfl (by kernel_rfl) (by kernel_rfl) (by kernel_rfl) (fun _ _ _ h => h) (Or.inl ⟨by rfl, fun w' hs => by go_simp⟩) hH ?_
    try simp only [Act.put, List.setIfInBounds_toArray, List.set_cons_zero, List.set_cons_succ]
    refine wpAnyH_take (i := 18) (oi := { dst := some 106, op := Op.pick (Operand.tmp 96) (Operand.tmp 105) (Operand.const (Value.bool false)), type := 4, pos := "outright.go:95", after := #[{ on := 8, ground := Ground.data }, { on := 17, ground := Ground.data }], guard := none }) (v := .bool true) rfl (by kernel_rfl) (by kernel_rfl) (by kernel_rfl) (fun _ _ _ h => h) (Or.inl ⟨by rfl, fun w' hs => by go_simp⟩) hH ?_
    try simp only [Act.put, List.setIfInBounds_toArray, List.set_cons_zero, List.set_cons_succ]
    refine wpAnyH_take (i := 19) (oi := { dst := some 2, op := Op.assign (Operand.tmp 106), type := 4, pos := "outright.go:95", after := #[{ on := 18, ground := Ground.data }, { on := 10, ground := Ground.chain }, { on := 0, ground := Ground.phase }, { on := 1, ground := Ground.phase }, { on := 2, ground := Ground.phase }, { on := 3, ground := Ground.phase }, { on := 4, ground := Ground.phase }, { on := 5, ground := Ground.phase }, { on := 6, ground := Ground.phase }, { on := 7, ground := Ground.phase }, { on := 8, ground := Ground.phase }, { on := 9, ground := Ground.phase }, { on := 10, ground := Ground.phase }, { on := 11, ground := Ground.phase }, { on := 12, ground := Ground.phase }, { on := 13, ground := Ground.phase }, { on := 14, ground := Ground.phase }, { on := 15, ground := Ground.phase }, { on := 16, ground := Ground.phase }, { on := 17, ground := Ground.phase }, { on := 18, ground := Ground.phase }], guard := none }) (v := .bool true) rfl (by kernel_rfl) (by kernel_rfl) (by kernel_rfl) (fun _ _ _ h => h) (Or.inl ⟨by rfl, fun w' hs => by go_simp⟩) hH ?_
    try simp only [Act.put, List.setIfInBounds_toArray, List.set_cons_zero, List.set_cons_succ]
    refine wpAnyH_done (by kernel_rfl) ?_ _
    clear hH hK
    go_wp2_with fail
    go_ret
    have bdr : Below w8.heap.size w8 w8.drew := Below.drew (Below.refl _ _)
    have H9 := H8.out.later bdr
    exact ⟨rfl, .inl ⟨q3, wr3, ⟨S3, G, f3, s, s', v, H9, ⟨H9.d, J8.out.below bdr, J7N.out, J7X.out⟩, LG.out, KK.out.1⟩, WQ.out.1, WQ.out.2⟩⟩
  · have H3 : Hid (BI w0 R B S3 t3 jv false mb s s' v w3) := H2.out.disk d3 g3 k3 (fun g hg => .inl hg)
    have FL : Hid (q ≠ [] ∧ t3.dn = true ∧ Hd3 t3 s ∧ (wr ≤ t3.wr ∧ t3.wr ≤ wr + 2)) := ⟨hq, hdn, hh, hwr⟩
    clear d3 g3 k3 hq hdn hh hwr H2 y0
    go_upto_region 5 with ((with_reducible refine at_store ?_); refine step_store rfl 34 _ _ rfl w3.heap.size 0 34 rcZ rcZ rfl rfl (Blk.new 34 rcZ w3) (Nat.le_refl _) rfl rcZ_one ?_; intro w4 nb g4; have N4 : Hid (Below w3.heap.size w3 w4) := below_row (below_alloc _ _) g4 (Nat.le_refl _); clear nb g4)
    have H4 : Hid (BI w0 R B S3 t3 jv false mb s s' v w4) := H3.out.later N4.out
    have y1 := H4.out.b.cell 1 _ rfl
    have z1 := H4.out.b.fz 1
    have H5 : Hid (BI w0 R B S3 t3 (.pointer none) false mb s s' v (w4.setCell ⟨B, 1, none⟩ (.pointer none))) := H4.out.put 1 _ rfl id
    clear H3 N4 H4
    go_upto_region 7 with fail
    generalize w4.setCell ⟨B, 1, none⟩ (.pointer none) = w5 at *
    have DN5 : Hid (Calls Tryd.prog 27 #[.pointer (some ⟨R, 0, none⟩)] w5 fun e w' => e = .returned (.bool true) ∧ w5 = w') := (down_at R S3 _ w5 H5.out.d).mono fun e w' ⟨h1, h2⟩ => ⟨by rw [h1, FL.out.2.1], h2.symm⟩
    have y0 := H5.out.b.cell 0 _ rfl
    clear y1 z1
    go_wp2_with fail
    refine DN5.out.mono ?_
    rintro e w' ⟨rfl, rfl⟩
    go_wp2_with fail
    go_ret
    exact ⟨rfl, .inr ⟨FL.out.1, t3, ⟨S3, _, mb, s, s', v, H5.out, .inl FL.out.2.2.1, KK.out.1, KK.out.2.1, .inl rfl⟩, FL.out.2.1, FL.out.2.2.2⟩⟩

set_option maxRecDepth 100000 in
set_option maxHeartbeats 4000000 in
theorem opened_0B (w0 : World) (R B : Nat) (S : Nat → Prop) (f : Nat) (o tail : List Nat) (q : List (Int × Int)) (wr : Int) (jv : Value) (al : Bool) (s s' : Stt) (v : Bv) (w : World) (i M : Nat) (h : BI w0 R B S (D3 f (s'.f ++ tail) o q wr false) jv al true s s' v w) (x : JX3 f s' o tail) (k : SOk s i M) (k' : true = true → SOk s' i M) (hne : s ≠ s') (hi : i ≤ 5000) (hw : 0 ≤ wr ∧ wr < 100000000) (hT : ∀ w', Below w0.heap.size w0 w' → TabS w') :
    Calls Tryd.prog 23 #[.pointer (some ⟨B, 0, none⟩)] w fun e w' => e = .returned (.bool true) ∧ ((∃ q' wr', LV w0 R B i M [] q' wr' w' ∧ (q = [] → q' = []) ∧ (wr ≤ wr' ∧ wr' ≤ wr + 2)) ∨ (q ≠ [] ∧ ∃ t', DD w0 R B i M t' w' ∧ t'.dn = true ∧ (wr ≤ t'.wr ∧ t'.wr ≤ wr + 2))) := by
  have H0 : Hid (BI w0 R B S (D3 f (s'.f ++ tail) o q wr false) jv al true s s' v w) := h
  have DN : Hid (Calls Tryd.prog 27 #[.pointer (some ⟨R, 0, none⟩)] w fun e w' => e = .returned (.bool false) ∧ w = w') := (down_at R S _ w h.d).mono fun e w' ⟨h1, h2⟩ => ⟨by rw [h1, D3_dn], h2.symm⟩
  have TT : Hid (∀ w', Below w0.heap.size w0 w' → TabS w') := hT
  have KK : Hid (SOk s i M ∧ (true = true → SOk s' i M) ∧ SOk s' i M ∧ i ≤ 5000 ∧ 0 ≤ wr ∧ wr < 100000000 ∧ JX3 f s' o tail) := ⟨k, k', k' rfl, hi, hw.1, hw.2, x⟩
  have NE : Hid (s ≠ s') := hne
  clear hne
  have OP : Hid (∀ S1 w1, DkAt R S1 (D3 f (s'.f ++ tail) o q wr false) w1 → Below w0.heap.size w0 w1 → Calls Tryd.prog 12 #[.pointer (some ⟨R, 0, none⟩)] w1 (OpA R S1 s' q wr (decide (o = [] ∧ tail = [])) w1)) := fun S1 w1 d1 b1 => open_any R S1 f s' o tail q wr w1 x (k' rfl) hi ⟨hw.1, by omega⟩ d1 (hT w1 b1)
  have c0 := h.b.cell 0 _ rfl
  clear h x k k' hi hw hT
  go_enter Tryd.func23, Tryd.ntmps23
  go_wp2_with fail
  refine DN.out.mono ?_
  rintro e w' ⟨rfl, rfl⟩
  obtain ⟨w1, hw1⟩ : ∃ w1, w = w1 := ⟨_, rfl⟩
  obtain ⟨S1, hS1⟩ : ∃ S1, S = S1 := ⟨_, rfl⟩
  rw [hw1, hS1] at H0
  rw [hw1] at c0 ⊢
  have H1 : Hid (BI w0 R B S1 (D3 f (s'.f ++ tail) o q wr false) jv al true s s' v w1) := H0
  clear H0 DN c0 hw1 hS1
  have y2 := H1.out.b.cell 2 _ rfl
  have z2 := H1.out.b.fz 2
  have H2 : Hid (BI w0 R B S1 (D3 f (s'.f ++ tail) o q wr false) jv false true s s' v (w1.setCell ⟨B, 2, none⟩ (.bool false))) := H1.out.put 2 _ rfl id
  go_upto_region 4 with fail
  generalize w1.setCell ⟨B, 2, none⟩ (.bool false) = w2 at *
  have y0 := H2.out.b.cell 0 _ rfl
  have O2 : Hid (Calls Tryd.prog 12 #[.pointer (some ⟨R, 0, none⟩)] w2 (OpA R S1 s' q wr (decide (o = [] ∧ tail = [])) w2)) := OP.out S1 w2 H2.out.d H2.out.bl
  clear H1 y2 z2 OP
  go_wp2_with fail
  refine O2.out.mono ?_
  clear O2
  rintro e w3 (⟨G, a1, d1, a2, d2, S3, f3, ct, q3, wr3, rfl, ja, g3, k3, lG, rb, rr, hwr, hq3, -⟩ | ⟨rfl, hq, t3, ⟨S3, d3, g3, k3⟩, hdn, hh, hwr⟩)
  · have H3 : Hid (BI w0 R B S3 (D3 f3 s'.f [] q3 wr3 false) jv false true s s' v w3) := H2.out.disk ja.d g3 k3 (fun g hg => .inl hg)
    have LG : Hid (w0.heap.size ≤ G) := Nat.le_trans H2.out.bl.size lG
    have JA3 : Hid (JA w0 R G S3 f3 s' [] q3 wr3 w3) := ⟨ja.d, ja.j, ja.n, ja.x⟩
    have RB : Hid (RdB w3 (.slice a1 s'.sn.length d1) s'.sn ∧ RdR w3 (.slice a2 s'.rs.length d2) s'.rs) := ⟨rb, rr⟩
    have WQ : Hid ((q = [] → q3 = []) ∧ (wr ≤ wr3 ∧ wr3 ≤ wr + 2)) := ⟨hq3, hwr⟩
    clear ja g3 k3 lG rb rr hwr hq3 H2 y0
    go_upto_region 5 with ((with_reducible refine at_store ?_); refine step_store rfl 34 _ _ rfl w3.heap.size 0 34 rcZ [.int .i64 (s'.ep : Int), .slice a1 s'.sn.length d1, .slice a2 s'.rs.length d2, .int .i64 (ct : Int)] rfl rfl (Blk.new 34 rcZ w3) (Nat.le_refl _) rfl (rcL_one _ _ _ _ _ _ _ _) ?_; intro w4 nb g4; have N4 : Hid (Blk w3.heap.size 34 [.int .i64 (s'.ep : Int), .slice a1 s'.sn.length d1, .slice a2 s'.rs.length d2, .int .i64 (ct : Int)] w4 ∧ Below w3.heap.size w3 w4) := ⟨blk_put (Nat.le_refl _) nb, below_row (below_alloc _ _) g4 (Nat.le_refl _)⟩; clear nb g4)
    have H4 : Hid (BI w0 R B S3 (D3 f3 s'.f [] q3 wr3 false) jv false true s s' v w4) := H3.out.later N4.out.2
    have J4 : Hid (JA w0 R G S3 f3 s' [] q3 wr3 w4) := ⟨JA3.out.d.below N4.out.2, JA3.out.j.below N4.out.2, JA3.out.n, JA3.out.x⟩
    have P4 : Hid (Blk w3.heap.size 34 [.int .i64 (s'.ep : Int), .slice a1 s'.sn.length d1, .slice a2 s'.rs.length d2, .int .i64 (ct : Int)] w4) := N4.out.1
    have RB4 : Hid (RdB w4 (.slice a1 s'.sn.length d1) s'.sn ∧ RdR w4 (.slice a2 s'.rs.length d2) s'.rs) := ⟨Rd.later RB.out.1 N4.out.2, RB.out.2.later N4.out.2⟩
    have DN4 : Hid (Calls Tryd.prog 27 #[.pointer (some ⟨R, 0, none⟩)] w4 fun e w' => e = .returned (.bool false) ∧ w4 = w') := (down_at R S3 _ w4 H4.out.d).mono fun e w' ⟨h1, h2⟩ => ⟨by rw [h1, D3_dn], h2.symm⟩
    have y0 := H4.out.b.cell 0 _ rfl
    obtain ⟨P, hP⟩ : ∃ P, w3.heap.size = P := ⟨_, rfl⟩
    rw [hP] at P4 ⊢
    clear hP H3 JA3 RB N4
    go_wp2_with fail
    refine DN4.out.mono ?_
    rintro e w' ⟨rfl, rfl⟩
    clear DN4 y0
    have HO : Hid (∀ w', Below w4.heap.size w4 w' → Calls Tryd.prog 22 #[.agg #[.int .i64 (s.ep : Int), .slice v.a1 v.n1 v.c1, .slice v.a2 v.n2 v.c2], .agg #[.int .i64 (s'.ep : Int), .slice a1 s'.sn.length d1, .slice a2 s'.rs.length d2, .int .i64 (ct : Int)]] w' fun e w'' => e = .returned (.bool false) ∧ Below w'.heap.size w' w'') := fun w' hb => by
      have bw := below_trans H4.out.bl hb
      have := holds_at (s.ep : Int) (s'.ep : Int) (ct : Int) s.sn s'.sn s.rs s'.rs v.a1 v.a2 a1 a2 v.n1 v.n2 s'.sn.length s'.rs.length v.c1 v.c2 d1 d2 w' (H4.out.i1.2 w' bw) ((H4.out.l1.later hb).rd bw) (Rd.later RB4.out.1 hb) (RB4.out.2.later hb) (by have := KK.out.2.2.1.sl; omega) (by have := KK.out.2.2.1.rn; have := KK.out.2.2.2.1; omega) (fun r hr => by have := KK.out.2.2.1.rl r hr; omega)
      rw [decide_eq_false (fun e => NE.out (by have e1 := Int.ofNat.inj e.1; have e2 := e.2.1; have e3 := e.2.2; cases s; cases s'; simp_all))] at this
      exact this
    go_upto_region 11 with fail
    refine wp_region_held_drew (S := fun w' => Blk B 56 (bkC R (jv) false (s.ep : Int) true v) w' ∧ Blk P 34 [.int .i64 (s'.ep : Int), .slice a1 s'.sn.length d1, .slice a2 s'.rs.length d2, .int .i64 (ct : Int)] w') (by kernel_rfl) (⟨H4.out.b.below (Below.drew (Below.refl _ _)), P4.out.below (Below.drew (Below.refl _ _))⟩) (fun hH => ?_)
    refine wpAnyH_take (i := 0) (oi := { dst := some 52, op := Op.move (Operand.tmp 0), type := 54, pos := "outright.go:86", after := #[], guard := none }) (v := .pointer (some ⟨B, 0, none⟩)) rfl (by kernel_rfl) (by kernel_rfl) (by kernel_rfl) (fun _ _ _ h => h) (Or.inl ⟨by rfl, fun w' hs => by go_simp⟩) hH ?_
    try simp only [Act.put, List.setIfInBounds_toArray, List.set_cons_zero, List.set_cons_succ]
    refine wpAnyH_take (i := 1) (oi := { dst := some 53, op := Op.nilCheck (Operand.tmp 52), type := 0, pos := "outright.go:86", after := #[{ on := 0, ground := Ground.data }], guard := none }) (v := .pointer (some ⟨B, 0, none⟩)) rfl (by kernel_rfl) (by kernel_rfl) (by kernel_rfl) (fun _ _ _ h => h) (Or.inl ⟨by rfl, fun w' hs => by go_simp⟩) hH ?_
    try simp only [Act.put, List.setIfInBounds_toArray, List.set_cons_zero, List.set_cons_succ]
    refine wpAnyH_take (i := 2) (oi := { dst := some 54, op := Op.fieldAddr 56 (Operand.tmp 53) 3, type := 0, pos := "outright.go:86", after := #[{ on := 1, ground := Ground.data }], guard := none }) (v := .pointer (some ⟨B, 3, none⟩)) rfl (by kernel_rfl) (by kernel_rfl) (by kernel_rfl) (fun _ _ _ h => h) (Or.inl ⟨by rfl, fun w' hs => by go_simp⟩) hH ?_
    try simp only [Act.put, List.setIfInBounds_toArray, List.set_cons_zero, List.set_cons_succ]
    refine wpAnyH_take (i := 3) (oi := { dst := some 55, op := Op.load 49 (Operand.tmp 54), type := 49, pos := "outright.go:86", after := #[{ on := 2, ground := Ground.data }], guard := none }) (v := .agg ([.int .i64 (s.ep : Int), .slice v.a1 v.n1 v.c1, .slice v.a2 v.n2 v.c2] : List Value).toArray) rfl (by kernel_rfl) (by kernel_rfl) (by kernel_rfl) (fun _ _ _ h => h) (yieldsIf_load_mid (by rfl) _ _ rfl _ 3 rfl ([.int .i64 (s.ep : Int), .slice v.a1 v.n1 v.c1, .slice v.a2 v.n2 v.c2]) _ (fun w' h => blk_range h.1 3 rfl) Tryd.underlying49 rfl rfl) hH ?_
    try simp only [Act.put, List.setIfInBounds_toArray, List.set_cons_zero, List.set_cons_succ]
    refine wpAnyH_take (i := 4) (oi := { dst := some 56, op := Op.load 34 (Operand.tmp 4), type := 34, pos := "outright.go:86", after := #[], guard := none }) (v := .agg ([.int .i64 (s'.ep : Int), .slice a1 s'.sn.length d1, .slice a2 s'.rs.length d2, .int .i64 (ct : Int)] : List Value).toArray) rfl (by kernel_rfl) (by kernel_rfl) (by kernel_rfl) (fun _ _ _ h => h) (yieldsIf_load_mid (by rfl) _ _ rfl _ 0 rfl ([.int .i64 (s'.ep : Int), .slice a1 s'.sn.length d1, .slice a2 s'.rs.length d2, .int .i64 (ct : Int)]) _ (fun w' h => h.2.all) Tryd.underlying34 rfl rfl) hH ?_
    try simp only [Act.put, List.setIfInBounds_toArray, List.set_cons_zero, List.set_cons_succ]
    refine wpAnyH_ready (rs := [5]) (by kernel_rfl) (by simp) ?_
    refine AllReadyH.cons (o := { dst := some 57, op := Op.call { callee := Callee.value (Operand.func 22), args := #[Operand.tmp 55, Operand.tmp 56], argTypes := #[49, 34] }, type := 4, pos := "outright.go:86", after := #[{ on := 3, ground := Ground.data }, { on := 4, ground := Ground.data }], guard := none }) rfl (fun K hK => ?_) AllReadyH.nil
    go_simp
    refine (HO.out _ (Below.drew (Below.refl _ _))).mono ?_
    rintro e w5 ⟨rfl, b5⟩
    have B5 : Hid (Below w4.heap.size w4 w5) := below_trans (Below.drew (Below.refl _ _)) b5
    clear b5
    refine hK.out _ _ ⟨H4.out.b.below B5.out, P4.out.below B5.out⟩ (fun hH => ?_)
    refine wpAnyH_take (i := 6) (oi := { dst := some 51, op := Op.assign (Operand.tmp 57), type := 4, pos := "outright.go:86", after := #[{ on := 5, ground := Ground.data }, { on := 5, ground := Ground.chain }], guard := none }) (v := .bool false) rfl (by kernel_rfl) (by kernel_rfl) (by kernel_rfl) (fun _ _ _ h => h) (Or.inl ⟨by rfl, fun w' hs => by go_simp⟩) hH ?_
    try simp only [Act.put, List.setIfInBounds_toArray, List.set_cons_zero, List.set_cons_succ]
    refine wpAnyH_done (by kernel_rfl) ?_ _
    clear hH hK
    have H5 : Hid (BI w0 R B S3 (D3 f3 s'.f [] q3 wr3 false) jv false true s s' v w5) := H4.out.later B5.out
    have J5 : Hid (JA w0 R G S3 f3 s' [] q3 wr3 w5) := ⟨J4.out.d.below B5.out, J4.out.j.below B5.out, J4.out.n, J4.out.x⟩
    have P5 : Hid (Blk P 34 [.int .i64 (s'.ep : Int), .slice a1 s'.sn.length d1, .slice a2 s'.rs.length d2, .int .i64 (ct : Int)] w5) := P4.out.below B5.out
    have H2O : Hid (∀ w', Below w5.heap.size w5 w' → Calls Tryd.prog 22 #[.agg #[.int .i64 v.e3, .slice v.a3 v.n3 v.c3, .slice v.a4 v.n4 v.c4], .agg #[.int .i64 (s'.ep : Int), .slice a1 s'.sn.length d1, .slice a2 s'.rs.length d2, .int .i64 (ct : Int)]] w' fun e w'' => e = .returned (.bool true) ∧ Below w'.heap.size w' w'') := fun w' hb => by
      have bw := below_trans H5.out.bl hb
      have hb4 := below_trans B5.out hb
      obtain ⟨t1, t2, t3, -⟩ := H5.out.tt rfl
      have := holds_at v.e3 (s'.ep : Int) (ct : Int) s'.sn s'.sn s'.rs s'.rs v.a3 v.a4 a1 a2 v.n3 v.n4 s'.sn.length s'.rs.length v.c3 v.c4 d1 d2 w' (t2.2 w' bw) ((t3.later hb).rd bw) (Rd.later RB4.out.1 hb4) (RB4.out.2.later hb4) (by have := KK.out.2.2.1.sl; omega) (by have := KK.out.2.2.1.rn; have := KK.out.2.2.2.1; omega) (fun r hr => by have := KK.out.2.2.1.rl r hr; omega)
      rw [decide_eq_true ⟨t1.symm, rfl, rfl⟩] at this
      exact this
    clear H4 J4 P4 HO RB4
    go_upto_region 12 with fail
    refine wp_region_held_drew (S := fun w' => Blk B 56 (bkC R (jv) false (s.ep : Int) true v) w' ∧ Blk P 34 [.int .i64 (s'.ep : Int), .slice a1 s'.sn.length d1, .slice a2 s'.rs.length d2, .int .i64 (ct : Int)] w') (by kernel_rfl) (⟨H5.out.b.below (Below.drew (Below.refl _ _)), P5.out.below (Below.drew (Below.refl _ _))⟩) (fun hH => ?_)
    refine wpAnyH_take (i := 0) (oi := { dst := some 59, op := Op.move (Operand.tmp 0), type := 54, pos := "outright.go:87", after := #[], guard := none }) (v := .pointer (some ⟨B, 0, none⟩)) rfl (by kernel_rfl) (by kernel_rfl) (by kernel_rfl) (fun _ _ _ h => h) (Or.inl ⟨by rfl, fun w' hs => by go_simp⟩) hH ?_
    try simp only [Act.put, List.setIfInBounds_toArray, List.set_cons_zero, List.set_cons_succ]
    refine wpAnyH_take (i := 1) (oi := { dst := some 60, op := Op.nilCheck (Operand.tmp 59), type := 0, pos := "outright.go:87", after := #[{ on := 0, ground := Ground.data }], guard := none }) (v := .pointer (some ⟨B, 0, none⟩)) rfl (by kernel_rfl) (by kernel_rfl) (by kernel_rfl) (fun _ _ _ h => h) (Or.inl ⟨by rfl, fun w' hs => by go_simp⟩) hH ?_
    try simp only [Act.put, List.setIfInBounds_toArray, List.set_cons_zero, List.set_cons_succ]
    refine wpAnyH_take (i := 2) (oi := { dst := some 61, op := Op.fieldAddr 56 (Operand.tmp 60) 4, type := 0, pos := "outright.go:87", after := #[{ on := 1, ground := Ground.data }], guard := none }) (v := .pointer (some ⟨B, 6, none⟩)) rfl (by kernel_rfl) (by kernel_rfl) (by kernel_rfl) (fun _ _ _ h => h) (Or.inl ⟨by rfl, fun w' hs => by go_simp⟩) hH ?_
    try simp only [Act.put, List.setIfInBounds_toArray, List.set_cons_zero, List.set_cons_succ]
    refine wpAnyH_take (i := 3) (oi := { dst := some 62, op := Op.load 4 (Operand.tmp 61), type := 4, pos := "outright.go:87", after := #[{ on := 2, ground := Ground.data }], guard := none }) (v := .bool true) rfl (by kernel_rfl) (by kernel_rfl) (by kernel_rfl) (fun _ _ _ h => h) (Or.inl ⟨by rfl, fun w' hs => by have c := hs.1.cell 6 _ rfl; go_simp⟩) hH ?_
    try simp only [Act.put, List.setIfInBounds_toArray, List.set_cons_zero, List.set_cons_succ]
    refine wpAnyH_take (i := 4) (oi := { dst := some 63, op := Op.move (Operand.tmp 62), type := 4, pos := "outright.go:87", after := #[{ on := 3, ground := Ground.data }], guard := none }) (v := .bool true) rfl (by kernel_rfl) (by kernel_rfl) (by kernel_rfl) (fun _ _ _ h => h) (Or.inl ⟨by rfl, fun w' hs => by go_simp⟩) hH ?_
    try simp only [Act.put, List.setIfInBounds_toArray, List.set_cons_zero, List.set_cons_succ]
    refine wpAnyH_take (i := 5) (oi := { dst := some 64, op := Op.move (Operand.tmp 0), type := 54, pos := "outright.go:87", after := #[{ on := 4, ground := Ground.guard }], guard := some (4, true) }) (v := .pointer (some ⟨B, 0, none⟩)) rfl (by kernel_rfl) (by kernel_rfl) (by kernel_rfl) (fun _ _ _ h => h) (Or.inl ⟨by rfl, fun w' hs => by go_simp⟩) hH ?_
    try simp only [Act.put, List.setIfInBounds_toArray, List.set_cons_zero, List.set_cons_succ]
    refine wpAnyH_take (i := 6) (oi := { dst := some 65, op := Op.nilCheck (Operand.tmp 64), type := 0, pos := "outright.go:87", after := #[{ on := 5, ground := Ground.data }, { on := 4, ground := Ground.guard }], guard := some (4, true) }) (v := .pointer (some ⟨B, 0, none⟩)) rfl (by kernel_rfl) (by kernel_rfl) (by kernel_rfl) (fun _ _ _ h => h) (Or.inl ⟨by rfl, fun w' hs => by go_simp⟩) hH ?_
    try simp only [Act.put, List.setIfInBounds_toArray, List.set_cons_zero, List.set_cons_succ]
    refine wpAnyH_take (i := 7) (oi := { dst := some 66, op := Op.fieldAddr 56 (Operand.tmp 65) 5, type := 0, pos := "outright.go:87", after := #[{ on := 6, ground := Ground.data }, { on := 4, ground := Ground.guard }], guard := some (4, true) }) (v := .pointer (some ⟨B, 7, none⟩)) rfl (by kernel_rfl) (by kernel_rfl) (by kernel_rfl) (fun _ _ _ h => h) (Or.inl ⟨by rfl, fun w' hs => by go_simp⟩) hH ?_
    try simp only [Act.put, List.setIfInBounds_toArray, List.set_cons_zero, List.set_cons_succ]
    refine wpAnyH_take (i := 8) (oi := { dst := some 67, op := Op.load 49 (Operand.tmp 66), type := 49, pos := "outright.go:87", after := #[{ on := 7, ground := Ground.data }, { on := 4, ground := Ground.guard }], guard := some (4, true) }) (v := .agg ([.int .i64 v.e3, .slice v.a3 v.n3 v.c3, .slice v.a4 v.n4 v.c4] : List Value).toArray) rfl (by kernel_rfl) (by kernel_rfl) (by kernel_rfl) (fun _ _ _ h => h) (yieldsIf_load_mid (by rfl) _ _ rfl _ 7 rfl ([.int .i64 v.e3, .slice v.a3 v.n3 v.c3, .slice v.a4 v.n4 v.c4]) _ (fun w' h => blk_range h.1 7 rfl) Tryd.underlying49 rfl rfl) hH ?_
    try simp only [Act.put, List.setIfInBounds_toArray, List.set_cons_zero, List.set_cons_succ]
    refine wpAnyH_take (i := 9) (oi := { dst := some 68, op := Op.load 34 (Operand.tmp 4), type := 34, pos := "outright.go:87", after := #[{ on := 4, ground := Ground.guard }], guard := some (4, true) }) (v := .agg ([.int .i64 (s'.ep : Int), .slice a1 s'.sn.length d1, .slice a2 s'.rs.length d2, .int .i64 (ct : Int)] : List Value).toArray) rfl (by kernel_rfl) (by kernel_rfl) (by kernel_rfl) (fun _ _ _ h => h) (yieldsIf_load_mid (by rfl) _ _ rfl _ 0 rfl ([.int .i64 (s'.ep : Int), .slice a1 s'.sn.length d1, .slice a2 s'.rs.length d2, .int .i64 (ct : Int)]) _ (fun w' h => h.2.all) Tryd.underlying34 rfl rfl) hH ?_
    try simp only [Act.put, List.setIfInBounds_toArray, List.set_cons_zero, List.set_cons_succ]
    refine wpAnyH_ready (rs := [10]) (by kernel_rfl) (by simp) ?_
    refine AllReadyH.cons (o := { dst := some 69, op := Op.call { callee := Callee.value (Operand.func 22), args := #[Operand.tmp 67, Operand.tmp 68], argTypes := #[49, 34] }, type := 4, pos := "outright.go:87", after := #[{ on := 8, ground := Ground.data }, { on := 9, ground := Ground.data }, { on := 4, ground := Ground.chain }, { on := 4, ground := Ground.guard }], guard := some (4, true) }) rfl (fun K hK => ?_) AllReadyH.nil
    go_simp
    refine (H2O.out _ (Below.drew (Below.refl _ _))).mono ?_
    rintro e w6 ⟨rfl, b6⟩
    have B6 : Hid (Below w5.heap.size w5 w6) := below_trans (Below.drew (Below.refl _ _)) b6
    clear b6
    refine hK.out _ _ ⟨H5.out.b.below B6.out, P5.out.below B6.out⟩ (fun hH => ?_)
    refine wpAnyH_take (i := 11) (oi := { dst := some 70, op := Op.pick (Operand.tmp 63) (Operand.tmp 69) (Operand.const (Value.bool false)), type := 4, pos := "outright.go:87", after := #[{ on := 4, ground := Ground.data }, { on := 10, ground := Ground.data }], guard := none }) (v := .bool true) rfl (by kernel_rfl) (by kernel_rfl) (by kernel_rfl) (fun _ _ _ h => h) (Or.inl ⟨by rfl, fun w' hs => by go_simp⟩) hH ?_
    try simp only [Act.put, List.setIfInBounds_toArray, List.set_cons_zero, List.set_cons_succ]
    refine wpAnyH_take (i := 12) (oi := { dst := some 58, op := Op.assign (Operand.tmp 70), type := 4, pos := "outright.go:87", after := #[{ on := 11, ground := Ground.data }, { on := 10, ground := Ground.chain }], guard := none }) (v := .bool true) rfl (by kernel_rfl) (by kernel_rfl) (by kernel_rfl) (fun _ _ _ h => h) (Or.inl ⟨by rfl, fun w' hs => by go_simp⟩) hH ?_
    try simp only [Act.put, List.setIfInBounds_toArray, List.set_cons_zero, List.set_cons_succ]
    refine wpAnyH_done (by kernel_rfl) ?_ _
    clear hH hK
    have H6 : Hid (BI w0 R B S3 (D3 f3 s'.f [] q3 wr3 false) jv false true s s' v w6) := H5.out.later B6.out
    have J6 : Hid (JA w0 R G S3 f3 s' [] q3 wr3 w6) := ⟨J5.out.d.below B6.out, J5.out.j.below B6.out, J5.out.n, J5.out.x⟩
    have NJB : Hid (G ≠ B) := fun e => by
      have h1 : w6.heap[G]? = _ := J6.out.j
      have h2 : w6.heap[B]? = _ := H6.out.b
      rw [e, h2] at h1
      injection h1 with h1
      injection h1 with _ h1
      exact absurd h1 (by decide)
    clear H5 J5 B5 P5 H2O B6
    go_upto_region 14 with (first
      | (refine step_load rfl 49 _ rfl B 7 rfl [.int .i64 v.e3, .slice v.a3 v.n3 v.c3, .slice v.a4 v.n4 v.c4] _ (blk_range H6.out.b 7 rfl) Tryd.underlying49 rfl rfl ?_)
      | ((with_reducible refine at_store ?_); refine step_store rfl 49 _ _ rfl B 3 56 (bkC R (jv) false (s.ep : Int) true v) [.int .i64 v.e3, .slice v.a3 v.n3 v.c3, .slice v.a4 v.n4 v.c4] rfl rfl H6.out.b (by show 3 + 3 ≤ 10; omega) rfl (stL_one _ _ _ _ _ _ _) ?_; intro w7 nb g7; have N7 : Hid (Blk B 56 (bkC R jv false v.e3 true ⟨v.a3, v.n3, v.c3, v.a4, v.n4, v.c4, v.e3, v.a3, v.n3, v.c3, v.a4, v.n4, v.c4⟩) w7 ∧ w6.grownBy w7 (some B)) := ⟨nb, g7⟩; clear nb g7))
    have H7 : Hid (BI w0 R B S3 (D3 f3 s'.f [] q3 wr3 false) jv false true s' s' ⟨v.a3, v.n3, v.c3, v.a4, v.n4, v.c4, v.e3, v.a3, v.n3, v.c3, v.a4, v.n4, v.c4⟩ w7) := H6.out.swap (by have := N7.out.1; rw [(H6.out.tt rfl).1] at this; rw [(H6.out.tt rfl).1]; exact this) N7.out.2
    have kk7 : Kp (fun g => g = B) w6 w7 := (Kp.of_grown N7.out.2).mono (fun g _ e => by injection e with e; exact e.symm)
    have J7 : Hid (JA w0 R G S3 f3 s' [] q3 wr3 w7) := ⟨H7.out.d, J6.out.j.kp kk7 NJB.out, J6.out.n, J6.out.x⟩
    clear H6 J6 N7 kk7 NJB
    obtain ⟨v2, hv2⟩ : ∃ v2 : Bv, v2 = ⟨v.a3, v.n3, v.c3, v.a4, v.n4, v.c4, v.e3, v.a3, v.n3, v.c3, v.a4, v.n4, v.c4⟩ := ⟨_, rfl⟩
    rw [← hv2] at H7
    clear hv2
    have y1 := H7.out.b.cell 1 _ rfl
    have z1 := H7.out.b.fz 1
    have y2 := H7.out.b.cell 2 _ rfl
    have z2 := H7.out.b.fz 2
    have y6 := H7.out.b.cell 6 _ rfl
    have z6 := H7.out.b.fz 6
    have NJB : Hid (G ≠ B) := fun e => by
      have h1 : w7.heap[G]? = _ := J7.out.j
      have h2 : w7.heap[B]? = _ := H7.out.b
      rw [e, h2] at h1
      injection h1 with h1
      injection h1 with _ h1
      exact absurd h1 (by decide)
    have H8 : Hid (BI w0 R B S3 (D3 f3 s'.f [] q3 wr3 false) (.pointer (some ⟨G, 0, none⟩)) true false s' s' v2 (((w7.setCell ⟨B, 1, none⟩ (.pointer (some ⟨G, 0, none⟩))).setCell ⟨B, 2, none⟩ (.bool true)).setCell ⟨B, 6, none⟩ (.bool false))) := ((H7.out.put 1 _ rfl id).put 2 _ rfl id).put 6 _ rfl (fun e => by cases e)
    have J8 : Hid (Blk G 72 (jnL R (f3 : Int) (s'.ep : Int) (s'.rs.length : Int) false) (((w7.setCell ⟨B, 1, none⟩ (.pointer (some ⟨G, 0, none⟩))).setCell ⟨B, 2, none⟩ (.bool true)).setCell ⟨B, 6, none⟩ (.bool false))) := ((J7.out.j.kp (setCell_kp w7 B 1 _) NJB.out).kp (setCell_kp _ B 2 _) NJB.out).kp (setCell_kp _ B 6 _) NJB.out
    go_upto_region 17 with fail
    generalize ((w7.setCell ⟨B, 1, none⟩ (.pointer (some ⟨G, 0, none⟩))).setCell ⟨B, 2, none⟩ (.bool true)).setCell ⟨B, 6, none⟩ (.bool false) = w8 at *
    have LN : Hid (v2.n2 = s'.rs.length) := by
      obtain ⟨a, c, e, -⟩ := H8.out.l1.len
      injection e with _ e _
    have EP8 : Hid (∀ w', Blk G 72 (jnL R (f3 : Int) (s'.ep : Int) (s'.rs.length : Int) false) w' → Calls Tryd.prog 29 #[.pointer (some ⟨G, 0, none⟩)] w' fun e w'' => e = .returned (.int .i64 (s'.ep : Int)) ∧ w' = w'') := fun w' hb => (epoch_at R G _ _ _ _ w' hb).mono fun e w'' ⟨h1, h2⟩ => ⟨h1, h2.symm⟩
    have CT8 : Hid (∀ w', Blk G 72 (jnL R (f3 : Int) (s'.ep : Int) (s'.rs.length : Int) false) w' → Calls Tryd.prog 30 #[.pointer (some ⟨G, 0, none⟩)] w' fun e w'' => e = .returned (.int .i64 (v2.n2 : Int)) ∧ w' = w'') := fun w' hb => (count_at R G _ _ _ _ w' hb).mono fun e w'' ⟨h1, h2⟩ => ⟨by rw [h1, LN.out], h2.symm⟩
    have J7N : Hid (¬ S3 G) := J7.out.n
    have J7X : Hid (JX3 f3 s' [] []) := J7.out.x
    clear H7 J7 y1 z1 y2 z2 y6 z6
    refine wp_region_held_drew (S := fun w' => Blk B 56 (bkC R (.pointer (some ⟨G, 0, none⟩)) true (s'.ep : Int) false v2) w' ∧ Blk G 72 (jnL R (f3 : Int) (s'.ep : Int) (s'.rs.length : Int) false) w') (by kernel_rfl) (⟨H8.out.b.below (Below.drew (Below.refl _ _)), J8.out.below (Below.drew (Below.refl _ _))⟩) (fun hH => ?_)
    refine wpAnyH_take (i := 0) (oi := { dst := some 88, op := Op.move (Operand.tmp 3), type := 31, pos := "outright.go:95", after := #[], guard := none }) (v := .pointer (some ⟨G, 0, none⟩)) rfl (by kernel_rfl) (by kernel_rfl) (by kernel_rfl) (fun _ _ _ h => h) (Or.inl ⟨by rfl, fun w' hs => by go_simp⟩) hH ?_
    try simp only [Act.put, List.setIfInBounds_toArray, List.set_cons_zero, List.set_cons_succ]
    refine wpAnyH_take (i := 2) (oi := { dst := some 90, op := Op.move (Operand.tmp 0), type := 54, pos := "outright.go:95", after := #[], guard := none }) (v := .pointer (some ⟨B, 0, none⟩)) rfl (by kernel_rfl) (by kernel_rfl) (by kernel_rfl) (fun _ _ _ h => h) (Or.inl ⟨by rfl, fun w' hs => by go_simp⟩) hH ?_
    try simp only [Act.put, List.setIfInBounds_toArray, List.set_cons_zero, List.set_cons_succ]
    refine wpAnyH_take (i := 3) (oi := { dst := some 91, op := Op.nilCheck (Operand.tmp 90), type := 0, pos := "outright.go:95", after := #[{ on := 2, ground := Ground.data }], guard := none }) (v := .pointer (some ⟨B, 0, none⟩)) rfl (by kernel_rfl) (by kernel_rfl) (by kernel_rfl) (fun _ _ _ h => h) (Or.inl ⟨by rfl, fun w' hs => by go_simp⟩) hH ?_
    try simp only [Act.put, List.setIfInBounds_toArray, List.set_cons_zero, List.set_cons_succ]
    refine wpAnyH_take (i := 4) (oi := { dst := some 92, op := Op.fieldAddr 56 (Operand.tmp 91) 3, type := 0, pos := "outright.go:95", after := #[{ on := 3, ground := Ground.data }], guard := none }) (v := .pointer (some ⟨B, 3, none⟩)) rfl (by kernel_rfl) (by kernel_rfl) (by kernel_rfl) (fun _ _ _ h => h) (Or.inl ⟨by rfl, fun w' hs => by go_simp⟩) hH ?_
    try simp only [Act.put, List.setIfInBounds_toArray, List.set_cons_zero, List.set_cons_succ]
    refine wpAnyH_take (i := 5) (oi := { dst := some 93, op := Op.fieldAddr 49 (Operand.tmp 92) 0, type := 0, pos := "outright.go:95", after := #[{ on := 4, ground := Ground.data }], guard := none }) (v := .pointer (some ⟨B, 3, none⟩)) rfl (by kernel_rfl) (by kernel_rfl) (by kernel_rfl) (fun _ _ _ h => h) (Or.inl ⟨by rfl, fun w' hs => by go_simp⟩) hH ?_
    try simp only [Act.put, List.setIfInBounds_toArray, List.set_cons_zero, List.set_cons_succ]
    refine wpAnyH_take (i := 6) (oi := { dst := some 94, op := Op.load 3 (Operand.tmp 93), type := 3, pos := "outright.go:95", after := #[{ on := 5, ground := Ground.data }], guard := none }) (v := .int .i64 (s'.ep : Int)) rfl (by kernel_rfl) (by kernel_rfl) (by kernel_rfl) (fun _ _ _ h => h) (Or.inl ⟨by rfl, fun w' hs => by have c := hs.1.cell 3 _ rfl; go_simp⟩) hH ?_
    try simp only [Act.put, List.setIfInBounds_toArray, List.set_cons_zero, List.set_cons_succ]
    refine wpAnyH_ready (rs := [1]) (by kernel_rfl) (by simp) ?_
    refine AllReadyH.cons (o := { dst := some 89, op := Op.call { callee := Callee.value (Operand.func 29), args := #[Operand.tmp 88], argTypes := #[31] }, type := 3, pos := "outright.go:95", after := #[{ on := 0, ground := Ground.data }], guard := none }) rfl (fun K hK => ?_) AllReadyH.nil
    go_simp
    refine (EP8.out _ hH.2).mono ?_
    rintro e w9 ⟨rfl, rfl⟩
    refine hK.out _ _ hH (fun hH => ?_)
    try simp only [Act.put, List.setIfInBounds_toArray, List.set_cons_zero, List.set_cons_succ]
    refine wpAnyH_take (i := 7) (oi := { dst := some 95, op := Op.binOp BinOp.eql 3 (Operand.tmp 89) (Operand.tmp 94) 3, type := 4, pos := "outright.go:95", after := #[{ on := 1, ground := Ground.data }, { on := 6, ground := Ground.data }], guard := none }) (v := .bool true) rfl (by kernel_rfl) (by kernel_rfl) (by kernel_rfl) (fun _ _ _ h => h) (Or.inl ⟨by rfl, fun w' hs => by go_simp⟩) hH ?_
    try simp only [Act.put, List.setIfInBounds_toArray, List.set_cons_zero, List.set_cons_succ]
    refine wpAnyH_take (i := 8) (oi := { dst := some 96, op := Op.move (Operand.tmp 95), type := 4, pos := "outright.go:95", after := #[{ on := 7, ground := Ground.data }, { on := 1, ground := Ground.chain }], guard := none }) (v := .bool true) rfl (by kernel_rfl) (by kernel_rfl) (by kernel_rfl) (fun _ _ _ h => h) (Or.inl ⟨by rfl, fun w' hs => by go_simp⟩) hH ?_
    try simp only [Act.put, List.setIfInBounds_toArray, List.set_cons_zero, List.set_cons_succ]
    refine wpAnyH_take (i := 9) (oi := { dst := some 97, op := Op.move (Operand.tmp 3), type := 31, pos := "outright.go:95", after := #[{ on := 8, ground := Ground.guard }], guard := some (8, true) }) (v := .pointer (some ⟨G, 0, none⟩)) rfl (by kernel_rfl) (by kernel_rfl) (by kernel_rfl) (fun _ _ _ h => h) (Or.inl ⟨by rfl, fun w' hs => by go_simp⟩) hH ?_
    try simp only [Act.put, List.setIfInBounds_toArray, List.set_cons_zero, List.set_cons_succ]
    refine wpAnyH_take (i := 11) (oi := { dst := some 99, op := Op.move (Operand.tmp 0), type := 54, pos := "outright.go:95", after := #[{ on := 8, ground := Ground.guard }], guard := some (8, true) }) (v := .pointer (some ⟨B, 0, none⟩)) rfl (by kernel_rfl) (by kernel_rfl) (by kernel_rfl) (fun _ _ _ h => h) (Or.inl ⟨by rfl, fun w' hs => by go_simp⟩) hH ?_
    try simp only [Act.put, List.setIfInBounds_toArray, List.set_cons_zero, List.set_cons_succ]
    refine wpAnyH_take (i := 12) (oi := { dst := some 100, op := Op.nilCheck (Operand.tmp 99), type := 0, pos := "outright.go:95", after := #[{ on := 11, ground := Ground.data }, { on := 8, ground := Ground.guard }], guard := some (8, true) }) (v := .pointer (some ⟨B, 0, none⟩)) rfl (by kernel_rfl) (by kernel_rfl) (by kernel_rfl) (fun _ _ _ h => h) (Or.inl ⟨by rfl, fun w' hs => by go_simp⟩) hH ?_
    try simp only [Act.put, List.setIfInBounds_toArray, List.set_cons_zero, List.set_cons_succ]
    refine wpAnyH_take (i := 13) (oi := { dst := some 101, op := Op.fieldAddr 56 (Operand.tmp 100) 3, type := 0, pos := "outright.go:95", after := #[{ on := 12, ground := Ground.data }, { on := 8, ground := Ground.guard }], guard := some (8, true) }) (v := .pointer (some ⟨B, 3, none⟩)) rfl (by kernel_rfl) (by kernel_rfl) (by kernel_rfl) (fun _ _ _ h => h) (Or.inl ⟨by rfl, fun w' hs => by go_simp⟩) hH ?_
    try simp only [Act.put, List.setIfInBounds_toArray, List.set_cons_zero, List.set_cons_succ]
    refine wpAnyH_take (i := 14) (oi := { dst := some 102, op := Op.fieldAddr 49 (Operand.tmp 101) 2, type := 0, pos := "outright.go:95", after := #[{ on := 13, ground := Ground.data }, { on := 8, ground := Ground.guard }], guard := some (8, true) }) (v := .pointer (some ⟨B, 5, none⟩)) rfl (by kernel_rfl) (by kernel_rfl) (by kernel_rfl) (fun _ _ _ h => h) (Or.inl ⟨by rfl, fun w' hs => by go_simp⟩) hH ?_
    try simp only [Act.put, List.setIfInBounds_toArray, List.set_cons_zero, List.set_cons_succ]
    refine wpAnyH_take (i := 15) (oi := { dst := some 103, op := Op.load 32 (Operand.tmp 102), type := 32, pos := "outright.go:95", after := #[{ on := 14, ground := Ground.data }, { on := 8, ground := Ground.guard }], guard := some (8, true) }) (v := .slice v2.a2 v2.n2 v2.c2) rfl (by kernel_rfl) (by kernel_rfl) (by kernel_rfl) (fun _ _ _ h => h) (Or.inl ⟨by rfl, fun w' hs => by have c := hs.1.cell 5 _ rfl; go_simp⟩) hH ?_
    try simp only [Act.put, List.setIfInBounds_toArray, List.set_cons_zero, List.set_cons_succ]
    refine wpAnyH_take (i := 16) (oi := { dst := some 104, op := Op.call { callee := Callee.builtin Builtin.len, args := #[Operand.tmp 103], argTypes := #[32] }, type := 3, pos := "outright.go:95", after := #[{ on := 15, ground := Ground.data }, { on := 8, ground := Ground.guard }], guard := some (8, true) }) (v := .int .i64 (v2.n2 : Int)) rfl (by kernel_rfl) (by kernel_rfl) (by kernel_rfl) (fun _ _ _ h => h) (Or.inl ⟨by rfl, fun w' hs => by go_simp⟩) hH ?_
    try simp only [Act.put, List.setIfInBounds_toArray, List.set_cons_zero, List.set_cons_succ]
    refine wpAnyH_ready (rs := [10]) (by kernel_rfl) (by simp) ?_
    refine AllReadyH.cons (o := { dst := some 98, op := Op.call { callee := Callee.value (Operand.func 30), args := #[Operand.tmp 97], argTypes := #[31] }, type := 3, pos := "outright.go:95", after := #[{ on := 9, ground := Ground.data }, { on := 8, ground := Ground.chain }, { on := 8, ground := Ground.guard }], guard := some (8, true) }) rfl (fun K hK => ?_) AllReadyH.nil
    go_simp
    refine (CT8.out _ hH.2).mono ?_
    rintro e w10 ⟨rfl, rfl⟩
    refine hK.out _ _ hH (fun hH => ?_)
    try simp only [Act.put, List.setIfInBounds_toArray, List.set_cons_zero, List.set_cons_succ]
    refine wpAnyH_take (i := 17) (oi := { dst := some 105, op := Op.binOp BinOp.eql 3 (Operand.tmp 98) (Operand.tmp 104) 3, type := 4, pos := "outright.go:95", after := #[{ on := 10, ground := Ground.data }, { on := 16, ground := Ground.data }, { on := 8, ground := Ground.guard }], guard := some (8, true) }) (v := .bool true) rfl (by kernel_rfl) (by kernel_rfl) (by kernel_rfl) (fun _ _ _ h => h) (Or.inl ⟨by rfl, fun w' hs => by go_simp⟩) hH ?_
    try simp only [Act.put, List.setIfInBounds_toArray, List.set_cons_zero, List.set_cons_succ]
    refine wpAnyH_take (i := 18) (oi := { dst := some 106, op := Op.pick (Operand.tmp 96) (Operand.tmp 105) (Operand.const (Value.bool false)), type := 4, pos := "outright.go:95", after := #[{ on := 8, ground := Ground.data }, { on := 17, ground := Ground.data }], guard := none }) (v := .bool true) rfl (by kernel_rfl) (by kernel_rfl) (by kernel_rfl) (fun _ _ _ h => h) (Or.inl ⟨by rfl, fun w' hs => by go_simp⟩) hH ?_
    try simp only [Act.put, List.setIfInBounds_toArray, List.set_cons_zero, List.set_cons_succ]
    refine wpAnyH_take (i := 19) (oi := { dst := some 2, op := Op.assign (Operand.tmp 106), type := 4, pos := "outright.go:95", after := #[{ on := 18, ground := Ground.data }, { on := 10, ground := Ground.chain }, { on := 0, ground := Ground.phase }, { on := 1, ground := Ground.phase }, { on := 2, ground := Ground.phase }, { on := 3, ground := Ground.phase }, { on := 4, ground := Ground.phase }, { on := 5, ground := Ground.phase }, { on := 6, ground := Ground.phase }, { on := 7, ground := Ground.phase }, { on := 8, ground := Ground.phase }, { on := 9, ground := Ground.phase }, { on := 10, ground := Ground.phase }, { on := 11, ground := Ground.phase }, { on := 12, ground := Ground.phase }, { on := 13, ground := Ground.phase }, { on := 14, ground := Ground.phase }, { on := 15, ground := Ground.phase }, { on := 16, ground := Ground.phase }, { on := 17, ground := Ground.phase }, { on := 18, ground := Ground.phase }], guard := none }) (v := .bool true) rfl (by kernel_rfl) (by kernel_rfl) (by kernel_rfl) (fun _ _ _ h => h) (Or.inl ⟨by rfl, fun w' hs => by go_simp⟩) hH ?_
    try simp only [Act.put, List.setIfInBounds_toArray, List.set_cons_zero, List.set_cons_succ]
    refine wpAnyH_done (by kernel_rfl) ?_ _
    clear hH hK
    go_wp2_with fail
    go_ret
    have bdr : Below w8.heap.size w8 w8.drew := Below.drew (Below.refl _ _)
    have H9 := H8.out.later bdr
    exact ⟨rfl, .inl ⟨q3, wr3, ⟨S3, G, f3, s', s', v2, H9, ⟨H9.d, J8.out.below bdr, J7N.out, J7X.out⟩, LG.out, KK.out.2.2.1⟩, WQ.out.1, WQ.out.2⟩⟩
  · have H3 : Hid (BI w0 R B S3 t3 jv false true s s' v w3) := H2.out.disk d3 g3 k3 (fun g hg => .inl hg)
    have FL : Hid (q ≠ [] ∧ t3.dn = true ∧ Hd3 t3 s' ∧ (wr ≤ t3.wr ∧ t3.wr ≤ wr + 2)) := ⟨hq, hdn, hh, hwr⟩
    clear d3 g3 k3 hq hdn hh hwr H2 y0
    go_upto_region 5 with ((with_reducible refine at_store ?_); refine step_store rfl 34 _ _ rfl w3.heap.size 0 34 rcZ rcZ rfl rfl (Blk.new 34 rcZ w3) (Nat.le_refl _) rfl rcZ_one ?_; intro w4 nb g4; have N4 : Hid (Below w3.heap.size w3 w4) := below_row (below_alloc _ _) g4 (Nat.le_refl _); clear nb g4)
    have H4 : Hid (BI w0 R B S3 t3 jv false true s s' v w4) := H3.out.later N4.out
    have y1 := H4.out.b.cell 1 _ rfl
    have z1 := H4.out.b.fz 1
    have H5 : Hid (BI w0 R B S3 t3 (.pointer none) false true s s' v (w4.setCell ⟨B, 1, none⟩ (.pointer none))) := H4.out.put 1 _ rfl id
    clear H3 N4 H4
    go_upto_region 7 with fail
    generalize w4.setCell ⟨B, 1, none⟩ (.pointer none) = w5 at *
    have DN5 : Hid (Calls Tryd.prog 27 #[.pointer (some ⟨R, 0, none⟩)] w5 fun e w' => e = .returned (.bool true) ∧ w5 = w') := (down_at R S3 _ w5 H5.out.d).mono fun e w' ⟨h1, h2⟩ => ⟨by rw [h1, FL.out.2.1], h2.symm⟩
    have y0 := H5.out.b.cell 0 _ rfl
    clear y1 z1
    go_wp2_with fail
    refine DN5.out.mono ?_
    rintro e w' ⟨rfl, rfl⟩
    go_wp2_with fail
    go_ret
    exact ⟨rfl, .inr ⟨FL.out.1, t3, ⟨S3, _, true, s, s', v, H5.out, .inr ⟨rfl, FL.out.2.2.1⟩, KK.out.1, fun _ => KK.out.2.2.1, .inl rfl⟩, FL.out.2.1, FL.out.2.2.2⟩⟩

set_option maxRecDepth 100000 in
set_option maxHeartbeats 4000000 in
theorem opened_1A (w0 : World) (R B : Nat) (S : Nat → Prop) (f : Nat) (o tail : List Nat) (q : List (Int × Int)) (wr : Int) (jv : Value) (al mb : Bool) (s s' : Stt) (v : Bv) (w : World) (i M : Nat) (h : BI w0 R B S (D3 f (s.f ++ tail) o q wr true) jv al mb s s' v w) (x : JX3 f s o tail) (k : SOk s i M) (k' : mb = true → SOk s' i M) (hi : i ≤ 5000) (hw : 0 ≤ wr ∧ wr < 100000000) (hT : ∀ w', Below w0.heap.size w0 w' → TabS w') :
    Calls Tryd.prog 23 #[.pointer (some ⟨B, 0, none⟩)] w fun e w' => e = .returned (.bool true) ∧ ((∃ q' wr', LV w0 R B i M [] q' wr' w' ∧ (q = [] → q' = []) ∧ (wr ≤ wr' ∧ wr' ≤ wr + 2)) ∨ (q ≠ [] ∧ ∃ t', DD w0 R B i M t' w' ∧ t'.dn = true ∧ (wr ≤ t'.wr ∧ t'.wr ≤ wr + 2))) := by
  have H0 : Hid (BI w0 R B S (D3 f (s.f ++ tail) o q wr true) jv al mb s s' v w) := h
  have DN : Hid (Calls Tryd.prog 27 #[.pointer (some ⟨R, 0, none⟩)] w fun e w' => e = .returned (.bool true) ∧ w = w') := (down_at R S _ w h.d).mono fun e w' ⟨h1, h2⟩ => ⟨by rw [h1, D3_dn], h2.symm⟩
  have TT : Hid (∀ w', Below w0.heap.size w0 w' → TabS w') := hT
  have KK : Hid (SOk s i M ∧ (mb = true → SOk s' i M) ∧ SOk s i M ∧ i ≤ 5000 ∧ 0 ≤ wr ∧ wr < 100000000 ∧ JX3 f s o tail) := ⟨k, k', k, hi, hw.1, hw.2, x⟩
  have OP : Hid (∀ S1 w1, DkAt R S1 (D3 f (s.f ++ tail) o q wr false) w1 → Below w0.heap.size w0 w1 → Calls Tryd.prog 12 #[.pointer (some ⟨R, 0, none⟩)] w1 (OpA R S1 s q wr (decide (o = [] ∧ tail = [])) w1)) := fun S1 w1 d1 b1 => open_any R S1 f s o tail q wr w1 x k hi ⟨hw.1, by omega⟩ d1 (hT w1 b1)
  have c0 := h.b.cell 0 _ rfl
  have RS : Hid (Calls Tryd.prog 28 #[.pointer (some ⟨R, 0, none⟩)] w fun e w' => (∃ k, e = .returned (.int .i64 k)) ∧ ∃ S', BI w0 R B S' (D3 f (s.f ++ tail) o q wr false) jv al mb s s' v w') := (restart_at R S _ w h.d).mono fun e w' ⟨h1, S', d, g1, kp⟩ => ⟨⟨_, h1⟩, S', h.disk (t' := D3 f (s.f ++ tail) o q wr false) (by rw [← D3_up]; exact d) g1 kp (fun g hg => .inl hg)⟩
  clear h x k k' hi hw hT
  go_enter Tryd.func23, Tryd.ntmps23
  go_wp2_with fail
  refine DN.out.mono ?_
  rintro e w' ⟨rfl, rfl⟩
  go_wp2_with fail
  refine RS.out.mono ?_
  rintro e w1 ⟨⟨kx, rfl⟩, S1, h1⟩
  have H1 : Hid (BI w0 R B S1 (D3 f (s.f ++ tail) o q wr false) jv al mb s s' v w1) := h1
  clear h1 RS DN H0 c0
  have y2 := H1.out.b.cell 2 _ rfl
  have z2 := H1.out.b.fz 2
  have H2 : Hid (BI w0 R B S1 (D3 f (s.f ++ tail) o q wr false) jv false mb s s' v (w1.setCell ⟨B, 2, none⟩ (.bool false))) := H1.out.put 2 _ rfl id
  go_upto_region 4 with fail
  generalize w1.setCell ⟨B, 2, none⟩ (.bool false) = w2 at *
  have y0 := H2.out.b.cell 0 _ rfl
  have O2 : Hid (Calls Tryd.prog 12 #[.pointer (some ⟨R, 0, none⟩)] w2 (OpA R S1 s q wr (decide (o = [] ∧ tail = [])) w2)) := OP.out S1 w2 H2.out.d H2.out.bl
  clear H1 y2 z2 OP
  go_wp2_with fail
  refine O2.out.mono ?_
  clear O2
  rintro e w3 (⟨G, a1, d1, a2, d2, S3, f3, ct, q3, wr3, rfl, ja, g3, k3, lG, rb, rr, hwr, hq3, -⟩ | ⟨rfl, hq, t3, ⟨S3, d3, g3, k3⟩, hdn, hh, hwr⟩)
  · have H3 : Hid (BI w0 R B S3 (D3 f3 s.f [] q3 wr3 false) jv false mb s s' v w3) := H2.out.disk ja.d g3 k3 (fun g hg => .inl hg)
    have LG : Hid (w0.heap.size ≤ G) := Nat.le_trans H2.out.bl.size lG
    have JA3 : Hid (JA w0 R G S3 f3 s [] q3 wr3 w3) := ⟨ja.d, ja.j, ja.n, ja.x⟩
    have RB : Hid (RdB w3 (.slice a1 s.sn.length d1) s.sn ∧ RdR w3 (.slice a2 s.rs.length d2) s.rs) := ⟨rb, rr⟩
    have WQ : Hid ((q = [] → q3 = []) ∧ (wr ≤ wr3 ∧ wr3 ≤ wr + 2)) := ⟨hq3, hwr⟩
    clear ja g3 k3 lG rb rr hwr hq3 H2 y0
    go_upto_region 5 with ((with_reducible refine at_store ?_); refine step_store rfl 34 _ _ rfl w3.heap.size 0 34 rcZ [.int .i64 (s.ep : Int), .slice a1 s.sn.length d1, .slice a2 s.rs.length d2, .int .i64 (ct : Int)] rfl rfl (Blk.new 34 rcZ w3) (Nat.le_refl _) rfl (rcL_one _ _ _ _ _ _ _ _) ?_; intro w4 nb g4; have N4 : Hid (Blk w3.heap.size 34 [.int .i64 (s.ep : Int), .slice a1 s.sn.length d1, .slice a2 s.rs.length d2, .int .i64 (ct : Int)] w4 ∧ Below w3.heap.size w3 w4) := ⟨blk_put (Nat.le_refl _) nb, below_row (below_alloc _ _) g4 (Nat.le_refl _)⟩; clear nb g4)
    have H4 : Hid (BI w0 R B S3 (D3 f3 s.f [] q3 wr3 false) jv false mb s s' v w4) := H3.out.later N4.out.2
    have J4 : Hid (JA w0 R G S3 f3 s [] q3 wr3 w4) := ⟨JA3.out.d.below N4.out.2, JA3.out.j.below N4.out.2, JA3.out.n, JA3.out.x⟩
    have P4 : Hid (Blk w3.heap.size 34 [.int .i64 (s.ep : Int), .slice a1 s.sn.length d1, .slice a2 s.rs.length d2, .int .i64 (ct : Int)] w4) := N4.out.1
    have RB4 : Hid (RdB w4 (.slice a1 s.sn.length d1) s.sn ∧ RdR w4 (.slice a2 s.rs.length d2) s.rs) := ⟨Rd.later RB.out.1 N4.out.2, RB.out.2.later N4.out.2⟩
    have DN4 : Hid (Calls Tryd.prog 27 #[.pointer (some ⟨R, 0, none⟩)] w4 fun e w' => e = .returned (.bool false) ∧ w4 = w') := (down_at R S3 _ w4 H4.out.d).mono fun e w' ⟨h1, h2⟩ => ⟨by rw [h1, D3_dn], h2.symm⟩
    have y0 := H4.out.b.cell 0 _ rfl
    obtain ⟨P, hP⟩ : ∃ P, w3.heap.size = P := ⟨_, rfl⟩
    rw [hP] at P4 ⊢
    clear hP H3 JA3 RB N4
    go_wp2_with fail
    refine DN4.out.mono ?_
    rintro e w' ⟨rfl, rfl⟩
    clear DN4 y0
    have HO : Hid (∀ w', Below w4.heap.size w4 w' → Calls Tryd.prog 22 #[.agg #[.int .i64 (s.ep : Int), .slice v.a1 v.n1 v.c1, .slice v.a2 v.n2 v.c2], .agg #[.int .i64 (s.ep : Int), .slice a1 s.sn.length d1, .slice a2 s.rs.length d2, .int .i64 (ct : Int)]] w' fun e w'' => e = .returned (.bool true) ∧ Below w'.heap.size w' w'') := fun w' hb => by
      have bw := below_trans H4.out.bl hb
      have := holds_at (s.ep : Int) (s.ep : Int) (ct : Int) s.sn s.sn s.rs s.rs v.a1 v.a2 a1 a2 v.n1 v.n2 s.sn.length s.rs.length v.c1 v.c2 d1 d2 w' (H4.out.i1.2 w' bw) ((H4.out.l1.later hb).rd bw) (Rd.later RB4.out.1 hb) (RB4.out.2.later hb) (by have := KK.out.2.2.1.sl; omega) (by have := KK.out.2.2.1.rn; have := KK.out.2.2.2.1; omega) (fun r hr => by have := KK.out.2.2.1.rl r hr; omega)
      rw [decide_eq_true ⟨rfl, rfl, rfl⟩] at this
      exact this
    go_upto_region 11 with fail
    refine wp_region_held_drew (S := fun w' => Blk B 56 (bkC R (jv) false (s.ep : Int) mb v) w' ∧ Blk P 34 [.int .i64 (s.ep : Int), .slice a1 s.sn.length d1, .slice a2 s.rs.length d2, .int .i64 (ct : Int)] w') (by kernel_rfl) (⟨H4.out.b.below (Below.drew (Below.refl _ _)), P4.out.below (Below.drew (Below.refl _ _))⟩) (fun hH => ?_)
    refine wpAnyH_take (i := 0) (oi := { dst := some 52, op := Op.move (Operand.tmp 0), type := 54, pos := "outright.go:86", after := #[], guard := none }) (v := .pointer (some ⟨B, 0, none⟩)) rfl (by kernel_rfl) (by kernel_rfl) (by kernel_rfl) (fun _ _ _ h => h) (Or.inl ⟨by rfl, fun w' hs => by go_simp⟩) hH ?_
    try simp only [Act.put, List.setIfInBounds_toArray, List.set_cons_zero, List.set_cons_succ]
    refine wpAnyH_take (i := 1) (oi := { dst := some 53, op := Op.nilCheck (Operand.tmp 52), type := 0, pos := "outright.go:86", after := #[{ on := 0, ground := Ground.data }], guard := none }) (v := .pointer (some ⟨B, 0, none⟩)) rfl (by kernel_rfl) (by kernel_rfl) (by kernel_rfl) (fun _ _ _ h => h) (Or.inl ⟨by rfl, fun w' hs => by go_simp⟩) hH ?_
    try simp only [Act.put, List.setIfInBounds_toArray, List.set_cons_zero, List.set_cons_succ]
    refine wpAnyH_take (i := 2) (oi := { dst := some 54, op := Op.fieldAddr 56 (Operand.tmp 53) 3, type := 0, pos := "outright.go:86", after := #[{ on := 1, ground := Ground.data }], guard := none }) (v := .pointer (some ⟨B, 3, none⟩)) rfl (by kernel_rfl) (by kernel_rfl) (by kernel_rfl) (fun _ _ _ h => h) (Or.inl ⟨by rfl, fun w' hs => by go_simp⟩) hH ?_
    try simp only [Act.put, List.setIfInBounds_toArray, List.set_cons_zero, List.set_cons_succ]
    refine wpAnyH_take (i := 3) (oi := { dst := some 55, op := Op.load 49 (Operand.tmp 54), type := 49, pos := "outright.go:86", after := #[{ on := 2, ground := Ground.data }], guard := none }) (v := .agg ([.int .i64 (s.ep : Int), .slice v.a1 v.n1 v.c1, .slice v.a2 v.n2 v.c2] : List Value).toArray) rfl (by kernel_rfl) (by kernel_rfl) (by kernel_rfl) (fun _ _ _ h => h) (yieldsIf_load_mid (by rfl) _ _ rfl _ 3 rfl ([.int .i64 (s.ep : Int), .slice v.a1 v.n1 v.c1, .slice v.a2 v.n2 v.c2]) _ (fun w' h => blk_range h.1 3 rfl) Tryd.underlying49 rfl rfl) hH ?_
    try simp only [Act.put, List.setIfInBounds_toArray, List.set_cons_zero, List.set_cons_succ]
    refine wpAnyH_take (i := 4) (oi := { dst := some 56, op := Op.load 34 (Operand.tmp 4), type := 34, pos := "outright.go:86", after := #[], guard := none }) (v := .agg ([.int .i64 (s.ep : Int), .slice a1 s.sn.length d1, .slice a2 s.rs.length d2, .int .i64 (ct : Int)] : List Value).toArray) rfl (by kernel_rfl) (by kernel_rfl) (by kernel_rfl) (fun _ _ _ h => h) (yieldsIf_load_mid (by rfl) _ _ rfl _ 0 rfl ([.int .i64 (s.ep : Int), .slice a1 s.sn.length d1, .slice a2 s.rs.length d2, .int .i64 (ct : Int)]) _ (fun w' h => h.2.all) Tryd.underlying34 rfl rfl) hH ?_
    try simp only [Act.put, List.setIfInBounds_toArray, List.set_cons_zero, List.set_cons_succ]
    refine wpAnyH_ready (rs := [5]) (by kernel_rfl) (by simp) ?_
    refine AllReadyH.cons (o := { dst := some 57, op := Op.call { callee := Callee.value (Operand.func 22), args := #[Operand.tmp 55, Operand.tmp 56], argTypes := #[49, 34] }, type := 4, pos := "outright.go:86", after := #[{ on := 3, ground := Ground.data }, { on := 4, ground := Ground.data }], guard := none }) rfl (fun K hK => ?_) AllReadyH.nil
    go_simp
    refine (HO.out _ (Below.drew (Below.refl _ _))).mono ?_
    rintro e w5 ⟨rfl, b5⟩
    have B5 : Hid (Below w4.heap.size w4 w5) := below_trans (Below.drew (Below.refl _ _)) b5
    clear b5
    refine hK.out _ _ ⟨H4.out.b.below B5.out, P4.out.below B5.out⟩ (fun hH => ?_)
    refine wpAnyH_take (i := 6) (oi := { dst := some 51, op := Op.assign (Operand.tmp 57), type := 4, pos := "outright.go:86", after := #[{ on := 5, ground := Ground.data }, { on := 5, ground := Ground.chain }], guard := none }) (v := .bool true) rfl (by kernel_rfl) (by kernel_rfl) (by kernel_rfl) (fun _ _ _ h => h) (Or.inl ⟨by rfl, fun w' hs => by go_simp⟩) hH ?_
    try simp only [Act.put, List.setIfInBounds_toArray, List.set_cons_zero, List.set_cons_succ]
    refine wpAnyH_done (by kernel_rfl) ?_ _
    clear hH hK
    have H5 : Hid (BI w0 R B S3 (D3 f3 s.f [] q3 wr3 false) jv false mb s s' v w5) := H4.out.later B5.out
    have J5 : Hid (JA w0 R G S3 f3 s [] q3 wr3 w5) := ⟨J4.out.d.below B5.out, J4.out.j.below B5.out, J4.out.n, J4.out.x⟩
    have P5 : Hid (Blk P 34 [.int .i64 (s.ep : Int), .slice a1 s.sn.length d1, .slice a2 s.rs.length d2, .int .i64 (ct : Int)] w5) := P4.out.below B5.out
    clear H4 J4 P4 B5 HO RB4
    obtain ⟨w7, hw7⟩ : ∃ w7, w5 = w7 := ⟨_, rfl⟩
    rw [hw7] at H5 J5 ⊢
    clear hw7 P5
    have H7 : Hid (BI w0 R B S3 (D3 f3 s.f [] q3 wr3 false) jv false mb s s' v w7) := H5
    have J7 : Hid (JA w0 R G S3 f3 s [] q3 wr3 w7) := J5
    clear H5 J5
    have y1 := H7.out.b.cell 1 _ rfl
    have z1 := H7.out.b.fz 1
    have y2 := H7.out.b.cell 2 _ rfl
    have z2 := H7.out.b.fz 2
    have y6 := H7.out.b.cell 6 _ rfl
    have z6 := H7.out.b.fz 6
    have NJB : Hid (G ≠ B) := fun e => by
      have h1 : w7.heap[G]? = _ := J7.out.j
      have h2 : w7.heap[B]? = _ := H7.out.b
      rw [e, h2] at h1
      injection h1 with h1
      injection h1 with _ h1
      exact absurd h1 (by decide)
    have H8 : Hid (BI w0 R B S3 (D3 f3 s.f [] q3 wr3 false) (.pointer (some ⟨G, 0, none⟩)) true false s s' v (((w7.setCell ⟨B, 1, none⟩ (.pointer (some ⟨G, 0, none⟩))).setCell ⟨B, 2, none⟩ (.bool true)).setCell ⟨B, 6, none⟩ (.bool false))) := ((H7.out.put 1 _ rfl id).put 2 _ rfl id).put 6 _ rfl (fun e => by cases e)
    have J8 : Hid (Blk G 72 (jnL R (f3 : Int) (s.ep : Int) (s.rs.length : Int) false) (((w7.setCell ⟨B, 1, none⟩ (.pointer (some ⟨G, 0, none⟩))).setCell ⟨B, 2, none⟩ (.bool true)).setCell ⟨B, 6, none⟩ (.bool false))) := ((J7.out.j.kp (setCell_kp w7 B 1 _) NJB.out).kp (setCell_kp _ B 2 _) NJB.out).kp (setCell_kp _ B 6 _) NJB.out
    go_upto_region 17 with fail
    generalize ((w7.setCell ⟨B, 1, none⟩ (.pointer (some ⟨G, 0, none⟩))).setCell ⟨B, 2, none⟩ (.bool true)).setCell ⟨B, 6, none⟩ (.bool false) = w8 at *
    have LN : Hid (v.n2 = s.rs.length) := by
      obtain ⟨a, c, e, -⟩ := H8.out.l1.len
      injection e with _ e _
    have EP8 : Hid (∀ w', Blk G 72 (jnL R (f3 : Int) (s.ep : Int) (s.rs.length : Int) false) w' → Calls Tryd.prog 29 #[.pointer (some ⟨G, 0, none⟩)] w' fun e w'' => e = .returned (.int .i64 (s.ep : Int)) ∧ w' = w'') := fun w' hb => (epoch_at R G _ _ _ _ w' hb).mono fun e w'' ⟨h1, h2⟩ => ⟨h1, h2.symm⟩
    have CT8 : Hid (∀ w', Blk G 72 (jnL R (f3 : Int) (s.ep : Int) (s.rs.length : Int) false) w' → Calls Tryd.prog 30 #[.pointer (some ⟨G, 0, none⟩)] w' fun e w'' => e = .returned (.int .i64 (v.n2 : Int)) ∧ w' = w'') := fun w' hb => (count_at R G _ _ _ _ w' hb).mono fun e w'' ⟨h1, h2⟩ => ⟨by rw [h1, LN.out], h2.symm⟩
    have J7N : Hid (¬ S3 G) := J7.out.n
    have J7X : Hid (JX3 f3 s [] []) := J7.out.x
    clear H7 J7 y1 z1 y2 z2 y6 z6
    refine wp_region_held_drew (S := fun w' => Blk B 56 (bkC R (.pointer (some ⟨G, 0, none⟩)) true (s.ep : Int) false v) w' ∧ Blk G 72 (jnL R (f3 : Int) (s.ep : Int) (s.rs.length : Int) false) w') (by kernel_rfl) (⟨H8.out.b.below (Below.drew (Below.refl _ _)), J8.out.below (Below.drew (Below.refl _ _))⟩) (fun hH => ?_)
    refine wpAnyH_take (i := 0) (oi := { dst := some 88, op := Op.move (Operand.tmp 3), type := 31, pos := "outright.go:95", after := #[], guard := none }) (v := .pointer (some ⟨G, 0, none⟩)) rfl (by kernel_rfl) (by kernel_rfl) (by kernel_rfl) (fun _ _ _ h => h) (Or.inl ⟨by rfl, fun w' hs => by go_simp⟩) hH ?_
    try simp only [Act.put, List.setIfInBounds_toArray, List.set_cons_zero, List.set_cons_succ]
    refine wpAnyH_take (i := 2) (oi := { dst := some 90, op := Op.move (Operand.tmp 0), type := 54, pos := "outright.go:95", after := #[], guard := none }) (v := .pointer (some ⟨B, 0, none⟩)) rfl (by kernel_rfl) (by kernel_rfl) (by kernel_rfl) (fun _ _ _ h => h) (Or.inl ⟨by rfl, fun w' hs => by go_simp⟩) hH ?_
    try simp only [Act.put, List.setIfInBounds_toArray, List.set_cons_zero, List.set_cons_succ]
    refine wpAnyH_take (i := 3) (oi := { dst := some 91, op := Op.nilCheck (Operand.tmp 90), type := 0, pos := "outright.go:95", after := #[{ on := 2, ground := Ground.data }], guard := none }) (v := .pointer (some ⟨B, 0, none⟩)) rfl (by kernel_rfl) (by kernel_rfl) (by kernel_rfl) (fun _ _ _ h => h) (Or.inl ⟨by rfl, fun w' hs => by go_simp⟩) hH ?_
    try simp only [Act.put, List.setIfInBounds_toArray, List.set_cons_zero, List.set_cons_succ]
    refine wpAnyH_take (i := 4) (oi := { dst := some 92, op := Op.fieldAddr 56 (Operand.tmp 91) 3, type := 0, pos := "outright.go:95", after := #[{ on := 3, ground := Ground.data }], guard := none }) (v := .pointer (some ⟨B, 3, none⟩)) rfl (by kernel_rfl) (by kernel_rfl) (by kernel_rfl) (fun _ _ _ h => h) (Or.inl ⟨by rfl, fun w' hs => by go_simp⟩) hH ?_
    try simp only [Act.put, List.setIfInBounds_toArray, List.set_cons_zero, List.set_cons_succ]
    refine wpAnyH_take (i := 5) (oi := { dst := some 93, op := Op.fieldAddr 49 (Operand.tmp 92) 0, type := 0, pos := "outright.go:95", after := #[{ on := 4, ground := Ground.data }], guard := none }) (v := .pointer (some ⟨B, 3, none⟩)) rfl (by kernel_rfl) (by kernel_rfl) (by kernel_rfl) (fun _ _ _ h => h) (Or.inl ⟨by rfl, fun w' hs => by go_simp⟩) hH ?_
    try simp only [Act.put, List.setIfInBounds_toArray, List.set_cons_zero, List.set_cons_succ]
    refine wpAnyH_take (i := 6) (oi := { dst := some 94, op := Op.load 3 (Operand.tmp 93), type := 3, pos := "outright.go:95", after := #[{ on := 5, ground := Ground.data }], guard := none }) (v := .int .i64 (s.ep : Int)) rfl (by kernel_rfl) (by kernel_rfl) (by kernel_rfl) (fun _ _ _ h => h) (Or.inl ⟨by rfl, fun w' hs => by have c := hs.1.cell 3 _ rfl; go_simp⟩) hH ?_
    try simp only [Act.put, List.setIfInBounds_toArray, List.set_cons_zero, List.set_cons_succ]
    refine wpAnyH_ready (rs := [1]) (by kernel_rfl) (by simp) ?_
    refine AllReadyH.cons (o := { dst := some 89, op := Op.call { callee := Callee.value (Operand.func 29), args := #[Operand.tmp 88], argTypes := #[31] }, type := 3, pos := "outright.go:95", after := #[{ on := 0, ground := Ground.data }], guard := none }) rfl (fun K hK => ?_) AllReadyH.nil
    go_simp
    refine (EP8.out _ hH.2).mono ?_
    rintro e w9 ⟨rfl, rfl⟩
    refine hK.out _ _ hH (fun hH => ?_)
    try simp only [Act.put, List.setIfInBounds_toArray, List.set_cons_zero, List.set_cons_succ]
    refine wpAnyH_take (i := 7) (oi := { dst := some 95, op := Op.binOp BinOp.eql 3 (Operand.tmp 89) (Operand.tmp 94) 3, type := 4, pos := "outright.go:95", after := #[{ on := 1, ground := Ground.data }, { on := 6, ground := Ground.data }], guard := none }) (v := .bool true) rfl (by kernel_rfl) (by kernel_rfl) (by kernel_rfl) (fun _ _ _ h => h) (Or.inl ⟨by rfl, fun w' hs => by go_simp⟩) hH ?_
    try simp only [Act.put, List.setIfInBounds_toArray, List.set_cons_zero, List.set_cons_succ]
    refine wpAnyH_take (i := 8) (oi := { dst := some 96, op := Op.move (Operand.tmp 95), type := 4, pos := "outright.go:95", after := #[{ on := 7, ground := Ground.data }, { on := 1, ground := Ground.chain }], guard := none }) (v := .bool true) rfl (by kernel_rfl) (by kernel_rfl) (by kernel_rfl) (fun _ _ _ h => h) (Or.inl ⟨by rfl, fun w' hs => by go_simp⟩) hH ?_
    try simp only [Act.put, List.setIfInBounds_toArray, List.set_cons_zero, List.set_cons_succ]
    refine wpAnyH_take (i := 9) (oi := { dst := some 97, op := Op.move (Operand.tmp 3), type := 31, pos := "outright.go:95", after := #[{ on := 8, ground := Ground.guard }], guard := some (8, true) }) (v := .pointer (some ⟨G, 0, none⟩)) rfl (by kernel_rfl) (by kernel_rfl) (by kernel_rfl) (fun _ _ _ h => h) (Or.inl ⟨by rfl, fun w' hs => by go_simp⟩) hH ?_
    try simp only [Act.put, List.setIfInBounds_toArray, List.set_cons_zero, List.set_cons_succ]
    refine wpAnyH_take (i := 11) (oi := { dst := some 99, op := Op.move (Operand.tmp 0), type := 54, pos := "outright.go:95", after := #[{ on := 8, ground := Ground.guard }], guard := some (8, true) }) (v := .pointer (some ⟨B, 0, none⟩)) rfl (by kernel_rfl) (by kernel_rfl) (by kernel_rfl) (fun _ _ _ h => h) (Or.inl ⟨by rfl, fun w' hs => by go_simp⟩) hH ?_
    try simp only [Act.put, List.setIfInBounds_toArray, List.set_cons_zero, List.set_cons_succ]
    refine wpAnyH_take (i := 12) (oi := { dst := some 100, op := Op.nilCheck (Operand.tmp 99), type := 0, pos := "outright.go:95", after := #[{ on := 11, ground := Ground.data }, { on := 8, ground := Ground.guard }], guard := some (8, true) }) (v := .pointer (some ⟨B, 0, none⟩)) rfl (by kernel_rfl) (by kernel_rfl) (by kernel_rfl) (fun _ _ _ h => h) (Or.inl ⟨by rfl, fun w' hs => by go_simp⟩) hH ?_
    try simp only [Act.put, List.setIfInBounds_toArray, List.set_cons_zero, List.set_cons_succ]
    refine wpAnyH_take (i := 13) (oi := { dst := some 101, op := Op.fieldAddr 56 (Operand.tmp 100) 3, type := 0, pos := "outright.go:95", after := #[{ on := 12, ground := Ground.data }, { on := 8, ground := Ground.guard }], guard := some (8, true) }) (v := .pointer (some ⟨B, 3, none⟩)) rfl (by kernel_rfl) (by kernel_rfl) (by kernel_rfl) (fun _ _ _ h => h) (Or.inl ⟨by rfl, fun w' hs => by go_simp⟩) hH ?_
    try simp only [Act.put, List.setIfInBounds_toArray, List.set_cons_zero, List.set_cons_succ]
    refine wpAnyH_take (i := 14) (oi := { dst := some 102, op := Op.fieldAddr 49 (Operand.tmp 101) 2, type := 0, pos := "outright.go:95", after := #[{ on := 13, ground := Ground.data }, { on := 8, ground := Ground.guard }], guard := some (8, true) }) (v := .pointer (some ⟨B, 5, none⟩)) rfl (by kernel_rfl) (by kernel_rfl) (by kernel_rfl) (fun _ _ _ h => h) (Or.inl ⟨by rfl, fun w' hs => by go_simp⟩) hH ?_
    try simp only [Act.put, List.setIfInBounds_toArray, List.set_cons_zero, List.set_cons_succ]
    refine wpAnyH_take (i := 15) (oi := { dst := some 103, op := Op.load 32 (Operand.tmp 102), type := 32, pos := "outright.go:95", after := #[{ on := 14, ground := Ground.data }, { on := 8, ground := Ground.guard }], guard := some (8, true) }) (v := .slice v.a2 v.n2 v.c2) rfl (by kernel_rfl) (by kernel_rfl) (by kernel_rfl) (fun _ _ _ h => h) (Or.inl ⟨by rfl, fun w' hs => by have c := hs.1.cell 5 _ rfl; go_simp⟩) hH ?_
    try simp only [Act.put, List.setIfInBounds_toArray, List.set_cons_zero, List.set_cons_succ]
    refine wpAnyH_take (i := 16) (oi := { dst := some 104, op := Op.call { callee := Callee.builtin Builtin.len, args := #[Operand.tmp 103], argTypes := #[32] }, type := 3, pos := "outright.go:95", after := #[{ on := 15, ground := Ground.data }, { on := 8, ground := Ground.guard }], guard := some (8, true) }) (v := .int .i64 (v.n2 : Int)) rfl (by kernel_rfl) (by kernel_rfl) (by kernel_rfl) (fun _ _ _ h => h) (Or.inl ⟨by rfl, fun w' hs => by go_simp⟩) hH ?_
    try simp only [Act.put, List.setIfInBounds_toArray, List.set_cons_zero, List.set_cons_succ]
    refine wpAnyH_ready (rs := [10]) (by kernel_rfl) (by simp) ?_
    refine AllReadyH.cons (o := { dst := some 98, op := Op.call { callee := Callee.value (Operand.func 30), args := #[Operand.tmp 97], argTypes := #[31] }, type := 3, pos := "outright.go:95", after := #[{ on := 9, ground := Ground.data }, { on := 8, ground := Ground.chain }, { on := 8, ground := Ground.guard }], guard := some (8, true) }) rfl (fun K hK => ?_) AllReadyH.nil
    go_simp
    refine (CT8.out _ hH.2).mono ?_
    rintro e w10 ⟨rfl, rfl⟩
    refine hK.out _ _ hH (fun hH => ?_)
    try simp only [Act.put, List.setIfInBounds_toArray, List.set_cons_zero, List.set_cons_succ]
    refine wpAnyH_take (i := 17) (oi := { dst := some 105, op := Op.binOp BinOp.eql 3 (Operand.tmp 98) (Operand.tmp 104) 3, type := 4, pos := "outright.go:95", after := #[{ on := 10, ground := Ground.data }, { on := 16, ground := Ground.data }, { on := 8, ground := Ground.guard }], guard := some (8, true) }) (v := .bool true) rfl (by kernel_rfl) (by kernel_rfl) (by kernel_rfl) (fun _ _ _ h => h) (Or.inl ⟨by rfl, fun w' hs => by go_simp⟩) hH ?_
    try simp only [Act.put, List.setIfInBounds_toArray, List.set_cons_zero, List.set_cons_succ]
    refine wpAnyH_take (i := 18) (oi := { dst := some 106, op := Op.pick (Operand.tmp 96) (Operand.tmp 105) (Operand.const (Value.bool false)), type := 4, pos := "outright.go:95", after := #[{ on := 8, ground := Ground.data }, { on := 17, ground := Ground.data }], guard := none }) (v := .bool true) rfl (by kernel_rfl) (by kernel_rfl) (by kernel_rfl) (fun _ _ _ h => h) (Or.inl ⟨by rfl, fun w' hs => by go_simp⟩) hH ?_
    try simp only [Act.put, List.setIfInBounds_toArray, List.set_cons_zero, List.set_cons_succ]
    refine wpAnyH_take (i := 19) (oi := { dst := some 2, op := Op.assign (Operand.tmp 106), type := 4, pos := "outright.go:95", after := #[{ on := 18, ground := Ground.data }, { on := 10, ground := Ground.chain }, { on := 0, ground := Ground.phase }, { on := 1, ground := Ground.phase }, { on := 2, ground := Ground.phase }, { on := 3, ground := Ground.phase }, { on := 4, ground := Ground.phase }, { on := 5, ground := Ground.phase }, { on := 6, ground := Ground.phase }, { on := 7, ground := Ground.phase }, { on := 8, ground := Ground.phase }, { on := 9, ground := Ground.phase }, { on := 10, ground := Ground.phase }, { on := 11, ground := Ground.phase }, { on := 12, ground := Ground.phase }, { on := 13, ground := Ground.phase }, { on := 14, ground := Ground.phase }, { on := 15, ground := Ground.phase }, { on := 16, ground := Ground.phase }, { on := 17, ground := Ground.phase }, { on := 18, ground := Ground.phase }], guard := none }) (v := .bool true) rfl (by kernel_rfl) (by kernel_rfl) (by kernel_rfl) (fun _ _ _ h => h) (Or.inl ⟨by rfl, fun w' hs => by go_simp⟩) hH ?_
    try simp only [Act.put, List.setIfInBounds_toArray, List.set_cons_zero, List.set_cons_succ]
    refine wpAnyH_done (by kernel_rfl) ?_ _
    clear hH hK
    go_wp2_with fail
    go_ret
    have bdr : Below w8.heap.size w8 w8.drew := Below.drew (Below.refl _ _)
    have H9 := H8.out.later bdr
    exact ⟨rfl, .inl ⟨q3, wr3, ⟨S3, G, f3, s, s', v, H9, ⟨H9.d, J8.out.below bdr, J7N.out, J7X.out⟩, LG.out, KK.out.1⟩, WQ.out.1, WQ.out.2⟩⟩
  · have H3 : Hid (BI w0 R B S3 t3 jv false mb s s' v w3) := H2.out.disk d3 g3 k3 (fun g hg => .inl hg)
    have FL : Hid (q ≠ [] ∧ t3.dn = true ∧ Hd3 t3 s ∧ (wr ≤ t3.wr ∧ t3.wr ≤ wr + 2)) := ⟨hq, hdn, hh, hwr⟩
    clear d3 g3 k3 hq hdn hh hwr H2 y0
    go_upto_region 5 with ((with_reducible refine at_store ?_); refine step_store rfl 34 _ _ rfl w3.heap.size 0 34 rcZ rcZ rfl rfl (Blk.new 34 rcZ w3) (Nat.le_refl _) rfl rcZ_one ?_; intro w4 nb g4; have N4 : Hid (Below w3.heap.size w3 w4) := below_row (below_alloc _ _) g4 (Nat.le_refl _); clear nb g4)
    have H4 : Hid (BI w0 R B S3 t3 jv false mb s s' v w4) := H3.out.later N4.out
    have y1 := H4.out.b.cell 1 _ rfl
    have z1 := H4.out.b.fz 1
    have H5 : Hid (BI w0 R B S3 t3 (.pointer none) false mb s s' v (w4.setCell ⟨B, 1, none⟩ (.pointer none))) := H4.out.put 1 _ rfl id
    clear H3 N4 H4
    go_upto_region 7 with fail
    generalize w4.setCell ⟨B, 1, none⟩ (.pointer none) = w5 at *
    have DN5 : Hid (Calls Tryd.prog 27 #[.pointer (some ⟨R, 0, none⟩)] w5 fun e w' => e = .returned (.bool true) ∧ w5 = w') := (down_at R S3 _ w5 H5.out.d).mono fun e w' ⟨h1, h2⟩ => ⟨by rw [h1, FL.out.2.1], h2.symm⟩
    have y0 := H5.out.b.cell 0 _ rfl
    clear y1 z1
    go_wp2_with fail
    refine DN5.out.mono ?_
    rintro e w' ⟨rfl, rfl⟩
    go_wp2_with fail
    go_ret
    exact ⟨rfl, .inr ⟨FL.out.1, t3, ⟨S3, _, mb, s, s', v, H5.out, .inl FL.out.2.2.1, KK.out.1, KK.out.2.1, .inl rfl⟩, FL.out.2.1, FL.out.2.2.2⟩⟩

set_option maxRecDepth 100000 in
set_option maxHeartbeats 4000000 in
theorem opened_1B (w0 : World) (R B : Nat) (S : Nat → Prop) (f : Nat) (o tail : List Nat) (q : List (Int × Int)) (wr : Int) (jv : Value) (al : Bool) (s s' : Stt) (v : Bv) (w : World) (i M : Nat) (h : BI w0 R B S (D3 f (s'.f ++ tail) o q wr true) jv al true s s' v w) (x : JX3 f s' o tail) (k : SOk s i M) (k' : true = true → SOk s' i M) (hne : s ≠ s') (hi : i ≤ 5000) (hw : 0 ≤ wr ∧ wr < 100000000) (hT : ∀ w', Below w0.heap.size w0 w' → TabS w') :
    Calls Tryd.prog 23 #[.pointer (some ⟨B, 0, none⟩)] w fun e w' => e = .returned (.bool true) ∧ ((∃ q' wr', LV w0 R B i M [] q' wr' w' ∧ (q = [] → q' = []) ∧ (wr ≤ wr' ∧ wr' ≤ wr + 2)) ∨ (q ≠ [] ∧ ∃ t', DD w0 R B i M t' w' ∧ t'.dn = true ∧ (wr ≤ t'.wr ∧ t'.wr ≤ wr + 2))) := by
  have H0 : Hid (BI w0 R B S (D3 f (s'.f ++ tail) o q wr true) jv al true s s' v w) := h
  have DN : Hid (Calls Tryd.prog 27 #[.pointer (some ⟨R, 0, none⟩)] w fun e w' => e = .returned (.bool true) ∧ w = w') := (down_at R S _ w h.d).mono fun e w' ⟨h1, h2⟩ => ⟨by rw [h1, D3_dn], h2.symm⟩
  have TT : Hid (∀ w', Below w0.heap.size w0 w' → TabS w') := hT
  have KK : Hid (SOk s i M ∧ (true = true → SOk s' i M) ∧ SOk s' i M ∧ i ≤ 5000 ∧ 0 ≤ wr ∧ wr < 100000000 ∧ JX3 f s' o tail) := ⟨k, k', k' rfl, hi, hw.1, hw.2, x⟩
  have NE : Hid (s ≠ s') := hne
  clear hne
  have OP : Hid (∀ S1 w1, DkAt R S1 (D3 f (s'.f ++ tail) o q wr false) w1 → Below w0.heap.size w0 w1 → Calls Tryd.prog 12 #[.pointer (some ⟨R, 0, none⟩)] w1 (OpA R S1 s' q wr (decide (o = [] ∧ tail = [])) w1)) := fun S1 w1 d1 b1 => open_any R S1 f s' o tail q wr w1 x (k' rfl) hi ⟨hw.1, by omega⟩ d1 (hT w1 b1)
  have c0 := h.b.cell 0 _ rfl
  have RS : Hid (Calls Tryd.prog 28 #[.pointer (some ⟨R, 0, none⟩)] w fun e w' => (∃ k, e = .returned (.int .i64 k)) ∧ ∃ S', BI w0 R B S' (D3 f (s'.f ++ tail) o q wr false) jv al true s s' v w') := (restart_at R S _ w h.d).mono fun e w' ⟨h1, S', d, g1, kp⟩ => ⟨⟨_, h1⟩, S', h.disk (t' := D3 f (s'.f ++ tail) o q wr false) (by rw [← D3_up]; exact d) g1 kp (fun g hg => .inl hg)⟩
  clear h x k k' hi hw hT
  go_enter Tryd.func23, Tryd.ntmps23
  go_wp2_with fail
  refine DN.out.mono ?_
  rintro e w' ⟨rfl, rfl⟩
  go_wp2_with fail
  refine RS.out.mono ?_
  rintro e w1 ⟨⟨kx, rfl⟩, S1, h1⟩
  have H1 : Hid (BI w0 R B S1 (D3 f (s'.f ++ tail) o q wr false) jv al true s s' v w1) := h1
  clear h1 RS DN H0 c0
  have y2 := H1.out.b.cell 2 _ rfl
  have z2 := H1.out.b.fz 2
  have H2 : Hid (BI w0 R B S1 (D3 f (s'.f ++ tail) o q wr false) jv false true s s' v (w1.setCell ⟨B, 2, none⟩ (.bool false))) := H1.out.put 2 _ rfl id
  go_upto_region 4 with fail
  generalize w1.setCell ⟨B, 2, none⟩ (.bool false) = w2 at *
  have y0 := H2.out.b.cell 0 _ rfl
  have O2 : Hid (Calls Tryd.prog 12 #[.pointer (some ⟨R, 0, none⟩)] w2 (OpA R S1 s' q wr (decide (o = [] ∧ tail = [])) w2)) := OP.out S1 w2 H2.out.d H2.out.bl
  clear H1 y2 z2 OP
  go_wp2_with fail
  refine O2.out.mono ?_
  clear O2
  rintro e w3 (⟨G, a1, d1, a2, d2, S3, f3, ct, q3, wr3, rfl, ja, g3, k3, lG, rb, rr, hwr, hq3, -⟩ | ⟨rfl, hq, t3, ⟨S3, d3, g3, k3⟩, hdn, hh, hwr⟩)
  · have H3 : Hid (BI w0 R B S3 (D3 f3 s'.f [] q3 wr3 false) jv false true s s' v w3) := H2.out.disk ja.d g3 k3 (fun g hg => .inl hg)
    have LG : Hid (w0.heap.size ≤ G) := Nat.le_trans H2.out.bl.size lG
    have JA3 : Hid (JA w0 R G S3 f3 s' [] q3 wr3 w3) := ⟨ja.d, ja.j, ja.n, ja.x⟩
    have RB : Hid (RdB w3 (.slice a1 s'.sn.length d1) s'.sn ∧ RdR w3 (.slice a2 s'.rs.length d2) s'.rs) := ⟨rb, rr⟩
    have WQ : Hid ((q = [] → q3 = []) ∧ (wr ≤ wr3 ∧ wr3 ≤ wr + 2)) := ⟨hq3, hwr⟩
    clear ja g3 k3 lG rb rr hwr hq3 H2 y0
    go_upto_region 5 with ((with_reducible refine at_store ?_); refine step_store rfl 34 _ _ rfl w3.heap.size 0 34 rcZ [.int .i64 (s'.ep : Int), .slice a1 s'.sn.length d1, .slice a2 s'.rs.length d2, .int .i64 (ct : Int)] rfl rfl (Blk.new 34 rcZ w3) (Nat.le_refl _) rfl (rcL_one _ _ _ _ _ _ _ _) ?_; intro w4 nb g4; have N4 : Hid (Blk w3.heap.size 34 [.int .i64 (s'.ep : Int), .slice a1 s'.sn.length d1, .slice a2 s'.rs.length d2, .int .i64 (ct : Int)] w4 ∧ Below w3.heap.size w3 w4) := ⟨blk_put (Nat.le_refl _) nb, below_row (below_alloc _ _) g4 (Nat.le_refl _)⟩; clear nb g4)
    have H4 : Hid (BI w0 R B S3 (D3 f3 s'.f [] q3 wr3 false) jv false true s s' v w4) := H3.out.later N4.out.2
    have J4 : Hid (JA w0 R G S3 f3 s' [] q3 wr3 w4) := ⟨JA3.out.d.below N4.out.2, JA3.out.j.below N4.out.2, JA3.out.n, JA3.out.x⟩
    have P4 : Hid (Blk w3.heap.size 34 [.int .i64 (s'.ep : Int), .slice a1 s'.sn.length d1, .slice a2 s'.rs.length d2, .int .i64 (ct : Int)] w4) := N4.out.1
    have RB4 : Hid (RdB w4 (.slice a1 s'.sn.length d1) s'.sn ∧ RdR w4 (.slice a2 s'.rs.length d2) s'.rs) := ⟨Rd.later RB.out.1 N4.out.2, RB.out.2.later N4.out.2⟩
    have DN4 : Hid (Calls Tryd.prog 27 #[.pointer (some ⟨R, 0, none⟩)] w4 fun e w' => e = .returned (.bool false) ∧ w4 = w') := (down_at R S3 _ w4 H4.out.d).mono fun e w' ⟨h1, h2⟩ => ⟨by rw [h1, D3_dn], h2.symm⟩
    have y0 := H4.out.b.cell 0 _ rfl
    obtain ⟨P, hP⟩ : ∃ P, w3.heap.size = P := ⟨_, rfl⟩
    rw [hP] at P4 ⊢
    clear hP H3 JA3 RB N4
    go_wp2_with fail
    refine DN4.out.mono ?_
    rintro e w' ⟨rfl, rfl⟩
    clear DN4 y0
    have HO : Hid (∀ w', Below w4.heap.size w4 w' → Calls Tryd.prog 22 #[.agg #[.int .i64 (s.ep : Int), .slice v.a1 v.n1 v.c1, .slice v.a2 v.n2 v.c2], .agg #[.int .i64 (s'.ep : Int), .slice a1 s'.sn.length d1, .slice a2 s'.rs.length d2, .int .i64 (ct : Int)]] w' fun e w'' => e = .returned (.bool false) ∧ Below w'.heap.size w' w'') := fun w' hb => by
      have bw := below_trans H4.out.bl hb
      have := holds_at (s.ep : Int) (s'.ep : Int) (ct : Int) s.sn s'.sn s.rs s'.rs v.a1 v.a2 a1 a2 v.n1 v.n2 s'.sn.length s'.rs.length v.c1 v.c2 d1 d2 w' (H4.out.i1.2 w' bw) ((H4.out.l1.later hb).rd bw) (Rd.later RB4.out.1 hb) (RB4.out.2.later hb) (by have := KK.out.2.2.1.sl; omega) (by have := KK.out.2.2.1.rn; have := KK.out.2.2.2.1; omega) (fun r hr => by have := KK.out.2.2.1.rl r hr; omega)
      rw [decide_eq_false (fun e => NE.out (by have e1 := Int.ofNat.inj e.1; have e2 := e.2.1; have e3 := e.2.2; cases s; cases s'; simp_all))] at this
      exact this
    go_upto_region 11 with fail
    refine wp_region_held_drew (S := fun w' => Blk B 56 (bkC R (jv) false (s.ep : Int) true v) w' ∧ Blk P 34 [.int .i64 (s'.ep : Int), .slice a1 s'.sn.length d1, .slice a2 s'.rs.length d2, .int .i64 (ct : Int)] w') (by kernel_rfl) (⟨H4.out.b.below (Below.drew (Below.refl _ _)), P4.out.below (Below.drew (Below.refl _ _))⟩) (fun hH => ?_)
    refine wpAnyH_take (i := 0) (oi := { dst := some 52, op := Op.move (Operand.tmp 0), type := 54, pos := "outright.go:86", after := #[], guard := none }) (v := .pointer (some ⟨B, 0, none⟩)) rfl (by kernel_rfl) (by kernel_rfl) (by kernel_rfl) (fun _ _ _ h => h) (Or.inl ⟨by rfl, fun w' hs => by go_simp⟩) hH ?_
    try simp only [Act.put, List.setIfInBounds_toArray, List.set_cons_zero, List.set_cons_succ]
    refine wpAnyH_take (i := 1) (oi := { dst := some 53, op := Op.nilCheck (Operand.tmp 52), type := 0, pos := "outright.go:86", after := #[{ on := 0, ground := Ground.data }], guard := none }) (v := .pointer (some ⟨B, 0, none⟩)) rfl (by kernel_rfl) (by kernel_rfl) (by kernel_rfl) (fun _ _ _ h => h) (Or.inl ⟨by rfl, fun w' hs => by go_simp⟩) hH ?_
    try simp only [Act.put, List.setIfInBounds_toArray, List.set_cons_zero, List.set_cons_succ]
    refine wpAnyH_take (i := 2) (oi := { dst := some 54, op := Op.fieldAddr 56 (Operand.tmp 53) 3, type := 0, pos := "outright.go:86", after := #[{ on := 1, ground := Ground.data }], guard := none }) (v := .pointer (some ⟨B, 3, none⟩)) rfl (by kernel_rfl) (by kernel_rfl) (by kernel_rfl) (fun _ _ _ h => h) (Or.inl ⟨by rfl, fun w' hs => by go_simp⟩) hH ?_
    try simp only [Act.put, List.setIfInBounds_toArray, List.set_cons_zero, List.set_cons_succ]
    refine wpAnyH_take (i := 3) (oi := { dst := some 55, op := Op.load 49 (Operand.tmp 54), type := 49, pos := "outright.go:86", after := #[{ on := 2, ground := Ground.data }], guard := none }) (v := .agg ([.int .i64 (s.ep : Int), .slice v.a1 v.n1 v.c1, .slice v.a2 v.n2 v.c2] : List Value).toArray) rfl (by kernel_rfl) (by kernel_rfl) (by kernel_rfl) (fun _ _ _ h => h) (yieldsIf_load_mid (by rfl) _ _ rfl _ 3 rfl ([.int .i64 (s.ep : Int), .slice v.a1 v.n1 v.c1, .slice v.a2 v.n2 v.c2]) _ (fun w' h => blk_range h.1 3 rfl) Tryd.underlying49 rfl rfl) hH ?_
    try simp only [Act.put, List.setIfInBounds_toArray, List.set_cons_zero, List.set_cons_succ]
    refine wpAnyH_take (i := 4) (oi := { dst := some 56, op := Op.load 34 (Operand.tmp 4), type := 34, pos := "outright.go:86", after := #[], guard := none }) (v := .agg ([.int .i64 (s'.ep : Int), .slice a1 s'.sn.length d1, .slice a2 s'.rs.length d2, .int .i64 (ct : Int)] : List Value).toArray) rfl (by kernel_rfl) (by kernel_rfl) (by kernel_rfl) (fun _ _ _ h => h) (yieldsIf_load_mid (by rfl) _ _ rfl _ 0 rfl ([.int .i64 (s'.ep : Int), .slice a1 s'.sn.length d1, .slice a2 s'.rs.length d2, .int .i64 (ct : Int)]) _ (fun w' h => h.2.all) Tryd.underlying34 rfl rfl) hH ?_
    try simp only [Act.put, List.setIfInBounds_toArray, List.set_cons_zero, List.set_cons_succ]
    refine wpAnyH_ready (rs := [5]) (by kernel_rfl) (by simp) ?_
    refine AllReadyH.cons (o := { dst := some 57, op := Op.call { callee := Callee.value (Operand.func 22), args := #[Operand.tmp 55, Operand.tmp 56], argTypes := #[49, 34] }, type := 4, pos := "outright.go:86", after := #[{ on := 3, ground := Ground.data }, { on := 4, ground := Ground.data }], guard := none }) rfl (fun K hK => ?_) AllReadyH.nil
    go_simp
    refine (HO.out _ (Below.drew (Below.refl _ _))).mono ?_
    rintro e w5 ⟨rfl, b5⟩
    have B5 : Hid (Below w4.heap.size w4 w5) := below_trans (Below.drew (Below.refl _ _)) b5
    clear b5
    refine hK.out _ _ ⟨H4.out.b.below B5.out, P4.out.below B5.out⟩ (fun hH => ?_)
    refine wpAnyH_take (i := 6) (oi := { dst := some 51, op := Op.assign (Operand.tmp 57), type := 4, pos := "outright.go:86", after := #[{ on := 5, ground := Ground.data }, { on := 5, ground := Ground.chain }], guard := none }) (v := .bool false) rfl (by kernel_rfl) (by kernel_rfl) (by kernel_rfl) (fun _ _ _ h => h) (Or.inl ⟨by rfl, fun w' hs => by go_simp⟩) hH ?_
    try simp only [Act.put, List.setIfInBounds_toArray, List.set_cons_zero, List.set_cons_succ]
    refine wpAnyH_done (by kernel_rfl) ?_ _
    clear hH hK
    have H5 : Hid (BI w0 R B S3 (D3 f3 s'.f [] q3 wr3 false) jv false true s s' v w5) := H4.out.later B5.out
    have J5 : Hid (JA w0 R G S3 f3 s' [] q3 wr3 w5) := ⟨J4.out.d.below B5.out, J4.out.j.below B5.out, J4.out.n, J4.out.x⟩
    have P5 : Hid (Blk P 34 [.int .i64 (s'.ep : Int), .slice a1 s'.sn.length d1, .slice a2 s'.rs.length d2, .int .i64 (ct : Int)] w5) := P4.out.below B5.out
    have H2O : Hid (∀ w', Below w5.heap.size w5 w' → Calls Tryd.prog 22 #[.agg #[.int .i64 v.e3, .slice v.a3 v.n3 v.c3, .slice v.a4 v.n4 v.c4], .agg #[.int .i64 (s'.ep : Int), .slice a1 s'.sn.length d1, .slice a2 s'.rs.length d2, .int .i64 (ct : Int)]] w' fun e w'' => e = .returned (.bool true) ∧ Below w'.heap.size w' w'') := fun w' hb => by
      have bw := below_trans H5.out.bl hb
      have hb4 := below_trans B5.out hb
      obtain ⟨t1, t2, t3, -⟩ := H5.out.tt rfl
      have := holds_at v.e3 (s'.ep : Int) (ct : Int) s'.sn s'.sn s'.rs s'.rs v.a3 v.a4 a1 a2 v.n3 v.n4 s'.sn.length s'.rs.length v.c3 v.c4 d1 d2 w' (t2.2 w' bw) ((t3.later hb).rd bw) (Rd.later RB4.out.1 hb4) (RB4.out.2.later hb4) (by have := KK.out.2.2.1.sl; omega) (by have := KK.out.2.2.1.rn; have := KK.out.2.2.2.1; omega) (fun r hr => by have := KK.out.2.2.1.rl r hr; omega)
      rw [decide_eq_true ⟨t1.symm, rfl, rfl⟩] at this
      exact this
    clear H4 J4 P4 HO RB4
    go_upto_region 12 with fail
    refine wp_region_held_drew (S := fun w' => Blk B 56 (bkC R (jv) false (s.ep : Int) true v) w' ∧ Blk P 34 [.int .i64 (s'.ep : Int), .slice a1 s'.sn.length d1, .slice a2 s'.rs.length d2, .int .i64 (ct : Int)] w') (by kernel_rfl) (⟨H5.out.b.below (Below.drew (Below.refl _ _)), P5.out.below (Below.drew (Below.refl _ _))⟩) (fun hH => ?_)
    refine wpAnyH_take (i := 0) (oi := { dst := some 59, op := Op.move (Operand.tmp 0), type := 54, pos := "outright.go:87", after := #[], guard := none }) (v := .pointer (some ⟨B, 0, none⟩)) rfl (by kernel_rfl) (by kernel_rfl) (by kernel_rfl) (fun _ _ _ h => h) (Or.inl ⟨by rfl, fun w' hs => by go_simp⟩) hH ?_
    try simp only [Act.put, List.setIfInBounds_toArray, List.set_cons_zero, List.set_cons_succ]
    refine wpAnyH_take (i := 1) (oi := { dst := some 60, op := Op.nilCheck (Operand.tmp 59), type := 0, pos := "outright.go:87", after := #[{ on := 0, ground := Ground.data }], guard := none }) (v := .pointer (some ⟨B, 0, none⟩)) rfl (by kernel_rfl) (by kernel_rfl) (by kernel_rfl) (fun _ _ _ h => h) (Or.inl ⟨by rfl, fun w' hs => by go_simp⟩) hH ?_
    try simp only [Act.put, List.setIfInBounds_toArray, List.set_cons_zero, List.set_cons_succ]
    refine wpAnyH_take (i := 2) (oi := { dst := some 61, op := Op.fieldAddr 56 (Operand.tmp 60) 4, type := 0, pos := "outright.go:87", after := #[{ on := 1, ground := Ground.data }], guard := none }) (v := .pointer (some ⟨B, 6, none⟩)) rfl (by kernel_rfl) (by kernel_rfl) (by kernel_rfl) (fun _ _ _ h => h) (Or.inl ⟨by rfl, fun w' hs => by go_simp⟩) hH ?_
    try simp only [Act.put, List.setIfInBounds_toArray, List.set_cons_zero, List.set_cons_succ]
    refine wpAnyH_take (i := 3) (oi := { dst := some 62, op := Op.load 4 (Operand.tmp 61), type := 4, pos := "outright.go:87", after := #[{ on := 2, ground := Ground.data }], guard := none }) (v := .bool true) rfl (by kernel_rfl) (by kernel_rfl) (by kernel_rfl) (fun _ _ _ h => h) (Or.inl ⟨by rfl, fun w' hs => by have c := hs.1.cell 6 _ rfl; go_simp⟩) hH ?_
    try simp only [Act.put, List.setIfInBounds_toArray, List.set_cons_zero, List.set_cons_succ]
    refine wpAnyH_take (i := 4) (oi := { dst := some 63, op := Op.move (Operand.tmp 62), type := 4, pos := "outright.go:87", after := #[{ on := 3, ground := Ground.data }], guard := none }) (v := .bool true) rfl (by kernel_rfl) (by kernel_rfl) (by kernel_rfl) (fun _ _ _ h => h) (Or.inl ⟨by rfl, fun w' hs => by go_simp⟩) hH ?_
    try simp only [Act.put, List.setIfInBounds_toArray, List.set_cons_zero, List.set_cons_succ]
    refine wpAnyH_take (i := 5) (oi := { dst := some 64, op := Op.move (Operand.tmp 0), type := 54, pos := "outright.go:87", after := #[{ on := 4, ground := Ground.guard }], guard := some (4, true) }) (v := .pointer (some ⟨B, 0, none⟩)) rfl (by kernel_rfl) (by kernel_rfl) (by kernel_rfl) (fun _ _ _ h => h) (Or.inl ⟨by rfl, fun w' hs => by go_simp⟩) hH ?_
    try simp only [Act.put, List.setIfInBounds_toArray, List.set_cons_zero, List.set_cons_succ]
    refine wpAnyH_take (i := 6) (oi := { dst := some 65, op := Op.nilCheck (Operand.tmp 64), type := 0, pos := "outright.go:87", after := #[{ on := 5, ground := Ground.data }, { on := 4, ground := Ground.guard }], guard := some (4, true) }) (v := .pointer (some ⟨B, 0, none⟩)) rfl (by kernel_rfl) (by kernel_rfl) (by kernel_rfl) (fun _ _ _ h => h) (Or.inl ⟨by rfl, fun w' hs => by go_simp⟩) hH ?_
    try simp only [Act.put, List.setIfInBounds_toArray, List.set_cons_zero, List.set_cons_succ]
    refine wpAnyH_take (i := 7) (oi := { dst := some 66, op := Op.fieldAddr 56 (Operand.tmp 65) 5, type := 0, pos := "outright.go:87", after := #[{ on := 6, ground := Ground.data }, { on := 4, ground := Ground.guard }], guard := some (4, true) }) (v := .pointer (some ⟨B, 7, none⟩)) rfl (by kernel_rfl) (by kernel_rfl) (by kernel_rfl) (fun _ _ _ h => h) (Or.inl ⟨by rfl, fun w' hs => by go_simp⟩) hH ?_
    try simp only [Act.put, List.setIfInBounds_toArray, List.set_cons_zero, List.set_cons_succ]
    refine wpAnyH_take (i := 8) (oi := { dst := some 67, op := Op.load 49 (Operand.tmp 66), type := 49, pos := "outright.go:87", after := #[{ on := 7, ground := Ground.data }, { on := 4, ground := Ground.guard }], guard := some (4, true) }) (v := .agg ([.int .i64 v.e3, .slice v.a3 v.n3 v.c3, .slice v.a4 v.n4 v.c4] : List Value).toArray) rfl (by kernel_rfl) (by kernel_rfl) (by kernel_rfl) (fun _ _ _ h => h) (yieldsIf_load_mid (by rfl) _ _ rfl _ 7 rfl ([.int .i64 v.e3, .slice v.a3 v.n3 v.c3, .slice v.a4 v.n4 v.c4]) _ (fun w' h => blk_range h.1 7 rfl) Tryd.underlying49 rfl rfl) hH ?_
    try simp only [Act.put, List.setIfInBounds_toArray, List.set_cons_zero, List.set_cons_succ]
    refine wpAnyH_take (i := 9) (oi := { dst := some 68, op := Op.load 34 (Operand.tmp 4), type := 34, pos := "outright.go:87", after := #[{ on := 4, ground := Ground.guard }], guard := some (4, true) }) (v := .agg ([.int .i64 (s'.ep : Int), .slice a1 s'.sn.length d1, .slice a2 s'.rs.length d2, .int .i64 (ct : Int)] : List Value).toArray) rfl (by kernel_rfl) (by kernel_rfl) (by kernel_rfl) (fun _ _ _ h => h) (yieldsIf_load_mid (by rfl) _ _ rfl _ 0 rfl ([.int .i64 (s'.ep : Int), .slice a1 s'.sn.length d1, .slice a2 s'.rs.length d2, .int .i64 (ct : Int)]) _ (fun w' h => h.2.all) Tryd.underlying34 rfl rfl) hH ?_
    try simp only [Act.put, List.setIfInBounds_toArray, List.set_cons_zero, List.set_cons_succ]
    refine wpAnyH_ready (rs := [10]) (by kernel_rfl) (by simp) ?_
    refine AllReadyH.cons (o := { dst := some 69, op := Op.call { callee := Callee.value (Operand.func 22), args := #[Operand.tmp 67, Operand.tmp 68], argTypes := #[49, 34] }, type := 4, pos := "outright.go:87", after := #[{ on := 8, ground := Ground.data }, { on := 9, ground := Ground.data }, { on := 4, ground := Ground.chain }, { on := 4, ground := Ground.guard }], guard := some (4, true) }) rfl (fun K hK => ?_) AllReadyH.nil
    go_simp
    refine (H2O.out _ (Below.drew (Below.refl _ _))).mono ?_
    rintro e w6 ⟨rfl, b6⟩
    have B6 : Hid (Below w5.heap.size w5 w6) := below_trans (Below.drew (Below.refl _ _)) b6
    clear b6
    refine hK.out _ _ ⟨H5.out.b.below B6.out, P5.out.below B6.out⟩ (fun hH => ?_)
    refine wpAnyH_take (i := 11) (oi := { dst := some 70, op := Op.pick (Operand.tmp 63) (Operand.tmp 69) (Operand.const (Value.bool false)), type := 4, pos := "outright.go:87", after := #[{ on := 4, ground := Ground.data }, { on := 10, ground := Ground.data }], guard := none }) (v := .bool true) rfl (by kernel_rfl) (by kernel_rfl) (by kernel_rfl) (fun _ _ _ h => h) (Or.inl ⟨by rfl, fun w' hs => by go_simp⟩) hH ?_
    try simp only [Act.put, List.setIfInBounds_toArray, List.set_cons_zero, List.set_cons_succ]
    refine wpAnyH_take (i := 12) (oi := { dst := some 58, op := Op.assign (Operand.tmp 70), type := 4, pos := "outright.go:87", after := #[{ on := 11, ground := Ground.data }, { on := 10, ground := Ground.chain }], guard := none }) (v := .bool true) rfl (by kernel_rfl) (by kernel_rfl) (by kernel_rfl) (fun _ _ _ h => h) (Or.inl ⟨by rfl, fun w' hs => by go_simp⟩) hH ?_
    try simp only [Act.put, List.setIfInBounds_toArray, List.set_cons_zero, List.set_cons_succ]
    refine wpAnyH_done (by kernel_rfl) ?_ _
    clear hH hK
    have H6 : Hid (BI w0 R B S3 (D3 f3 s'.f [] q3 wr3 false) jv false true s s' v w6) := H5.out.later B6.out
    have J6 : Hid (JA w0 R G S3 f3 s' [] q3 wr3 w6) := ⟨J5.out.d.below B6.out, J5.out.j.below B6.out, J5.out.n, J5.out.x⟩
    have NJB : Hid (G ≠ B) := fun e => by
      have h1 : w6.heap[G]? = _ := J6.out.j
      have h2 : w6.heap[B]? = _ := H6.out.b
      rw [e, h2] at h1
      injection h1 with h1
      injection h1 with _ h1
      exact absurd h1 (by decide)
    clear H5 J5 B5 P5 H2O B6
    go_upto_region 14 with (first
      | (refine step_load rfl 49 _ rfl B 7 rfl [.int .i64 v.e3, .slice v.a3 v.n3 v.c3, .slice v.a4 v.n4 v.c4] _ (blk_range H6.out.b 7 rfl) Tryd.underlying49 rfl rfl ?_)
      | ((with_reducible refine at_store ?_); refine step_store rfl 49 _ _ rfl B 3 56 (bkC R (jv) false (s.ep : Int) true v) [.int .i64 v.e3, .slice v.a3 v.n3 v.c3, .slice v.a4 v.n4 v.c4] rfl rfl H6.out.b (by show 3 + 3 ≤ 10; omega) rfl (stL_one _ _ _ _ _ _ _) ?_; intro w7 nb g7; have N7 : Hid (Blk B 56 (bkC R jv false v.e3 true ⟨v.a3, v.n3, v.c3, v.a4, v.n4, v.c4, v.e3, v.a3, v.n3, v.c3, v.a4, v.n4, v.c4⟩) w7 ∧ w6.grownBy w7 (some B)) := ⟨nb, g7⟩; clear nb g7))
    have H7 : Hid (BI w0 R B S3 (D3 f3 s'.f [] q3 wr3 false) jv false true s' s' ⟨v.a3, v.n3, v.c3, v.a4, v.n4, v.c4, v.e3, v.a3, v.n3, v.c3, v.a4, v.n4, v.c4⟩ w7) := H6.out.swap (by have := N7.out.1; rw [(H6.out.tt rfl).1] at this; rw [(H6.out.tt rfl).1]; exact this) N7.out.2
    have kk7 : Kp (fun g => g = B) w6 w7 := (Kp.of_grown N7.out.2).mono (fun g _ e => by injection e with e; exact e.symm)
    have J7 : Hid (JA w0 R G S3 f3 s' [] q3 wr3 w7) := ⟨H7.out.d, J6.out.j.kp kk7 NJB.out, J6.out.n, J6.out.x⟩
    clear H6 J6 N7 kk7 NJB
    obtain ⟨v2, hv2⟩ : ∃ v2 : Bv, v2 = ⟨v.a3, v.n3, v.c3, v.a4, v.n4, v.c4, v.e3, v.a3, v.n3, v.c3, v.a4, v.n4, v.c4⟩ := ⟨_, rfl⟩
    rw [← hv2] at H7
    clear hv2
    have y1 := H7.out.b.cell 1 _ rfl
    have z1 := H7.out.b.fz 1
    have y2 := H7.out.b.cell 2 _ rfl
    have z2 := H7.out.b.fz 2
    have y6 := H7.out.b.cell 6 _ rfl
    have z6 := H7.out.b.fz 6
    have NJB : Hid (G ≠ B) := fun e => by
      have h1 : w7.heap[G]? = _ := J7.out.j
      have h2 : w7.heap[B]? = _ := H7.out.b
      rw [e, h2] at h1
      injection h1 with h1
      injection h1 with _ h1
      exact absurd h1 (by decide)
    have H8 : Hid (BI w0 R B S3 (D3 f3 s'.f [] q3 wr3 false) (.pointer (some ⟨G, 0, none⟩)) true false s' s' v2 (((w7.setCell ⟨B, 1, none⟩ (.pointer (some ⟨G, 0, none⟩))).setCell ⟨B, 2, none⟩ (.bool true)).setCell ⟨B, 6, none⟩ (.bool false))) := ((H7.out.put 1 _ rfl id).put 2 _ rfl id).put 6 _ rfl (fun e => by cases e)
    have J8 : Hid (Blk G 72 (jnL R (f3 : Int) (s'.ep : Int) (s'.rs.length : Int) false) (((w7.setCell ⟨B, 1, none⟩ (.pointer (some ⟨G, 0, none⟩))).setCell ⟨B, 2, none⟩ (.bool true)).setCell ⟨B, 6, none⟩ (.bool false))) := ((J7.out.j.kp (setCell_kp w7 B 1 _) NJB.out).kp (setCell_kp _ B 2 _) NJB.out).kp (setCell_kp _ B 6 _) NJB.out
    go_upto_region 17 with fail
    generalize ((w7.setCell ⟨B, 1, none⟩ (.pointer (some ⟨G, 0, none⟩))).setCell ⟨B, 2, none⟩ (.bool true)).setCell ⟨B, 6, none⟩ (.bool false) = w8 at *
    have LN : Hid (v2.n2 = s'.rs.length) := by
      obtain ⟨a, c, e, -⟩ := H8.out.l1.len
      injection e with _ e _
    have EP8 : Hid (∀ w', Blk G 72 (jnL R (f3 : Int) (s'.ep : Int) (s'.rs.length : Int) false) w' → Calls Tryd.prog 29 #[.pointer (some ⟨G, 0, none⟩)] w' fun e w'' => e = .returned (.int .i64 (s'.ep : Int)) ∧ w' = w'') := fun w' hb => (epoch_at R G _ _ _ _ w' hb).mono fun e w'' ⟨h1, h2⟩ => ⟨h1, h2.symm⟩
    have CT8 : Hid (∀ w', Blk G 72 (jnL R (f3 : Int) (s'.ep : Int) (s'.rs.length : Int) false) w' → Calls Tryd.prog 30 #[.pointer (some ⟨G, 0, none⟩)] w' fun e w'' => e = .returned (.int .i64 (v2.n2 : Int)) ∧ w' = w'') := fun w' hb => (count_at R G _ _ _ _ w' hb).mono fun e w'' ⟨h1, h2⟩ => ⟨by rw [h1, LN.out], h2.symm⟩
    have J7N : Hid (¬ S3 G) := J7.out.n
    have J7X : Hid (JX3 f3 s' [] []) := J7.out.x
    clear H7 J7 y1 z1 y2 z2 y6 z6
    refine wp_region_held_drew (S := fun w' => Blk B 56 (bkC R (.pointer (some ⟨G, 0, none⟩)) true (s'.ep : Int) false v2) w' ∧ Blk G 72 (jnL R (f3 : Int) (s'.ep : Int) (s'.rs.length : Int) false) w') (by kernel_rfl) (⟨H8.out.b.below (Below.drew (Below.refl _ _)), J8.out.below (Below.drew (Below.refl _ _))⟩) (fun hH => ?_)
    refine wpAnyH_take (i := 0) (oi := { dst := some 88, op := Op.move (Operand.tmp 3), type := 31, pos := "outright.go:95", after := #[], guard := none }) (v := .pointer (some ⟨G, 0, none⟩)) rfl (by kernel_rfl) (by kernel_rfl) (by kernel_rfl) (fun _ _ _ h => h) (Or.inl ⟨by rfl, fun w' hs => by go_simp⟩) hH ?_
    try simp only [Act.put, List.setIfInBounds_toArray, List.set_cons_zero, List.set_cons_succ]
    refine wpAnyH_take (i := 2) (oi := { dst := some 90, op := Op.move (Operand.tmp 0), type := 54, pos := "outright.go:95", after := #[], guard := none }) (v := .pointer (some ⟨B, 0, none⟩)) rfl (by kernel_rfl) (by kernel_rfl) (by kernel_rfl) (fun _ _ _ h => h) (Or.inl ⟨by rfl, fun w' hs => by go_simp⟩) hH ?_
    try simp only [Act.put, List.setIfInBounds_toArray, List.set_cons_zero, List.set_cons_succ]
    refine wpAnyH_take (i := 3) (oi := { dst := some 91, op := Op.nilCheck (Operand.tmp 90), type := 0, pos := "outright.go:95", after := #[{ on := 2, ground := Ground.data }], guard := none }) (v := .pointer (some ⟨B, 0, none⟩)) rfl (by kernel_rfl) (by kernel_rfl) (by kernel_rfl) (fun _ _ _ h => h) (Or.inl ⟨by rfl, fun w' hs => by go_simp⟩) hH ?_
    try simp only [Act.put, List.setIfInBounds_toArray, List.set_cons_zero, List.set_cons_succ]
    refine wpAnyH_take (i := 4) (oi := { dst := some 92, op := Op.fieldAddr 56 (Operand.tmp 91) 3, type := 0, pos := "outright.go:95", after := #[{ on := 3, ground := Ground.data }], guard := none }) (v := .pointer (some ⟨B, 3, none⟩)) rfl (by kernel_rfl) (by kernel_rfl) (by kernel_rfl) (fun _ _ _ h => h) (Or.inl ⟨by rfl, fun w' hs => by go_simp⟩) hH ?_
    try simp only [Act.put, List.setIfInBounds_toArray, List.set_cons_zero, List.set_cons_succ]
    refine wpAnyH_take (i := 5) (oi := { dst := some 93, op := Op.fieldAddr 49 (Operand.tmp 92) 0, type := 0, pos := "outright.go:95", after := #[{ on := 4, ground := Ground.data }], guard := none }) (v := .pointer (some ⟨B, 3, none⟩)) rfl (by kernel_rfl) (by kernel_rfl) (by kernel_rfl) (fun _ _ _ h => h) (Or.inl ⟨by rfl, fun w' hs => by go_simp⟩) hH ?_
    try simp only [Act.put, List.setIfInBounds_toArray, List.set_cons_zero, List.set_cons_succ]
    refine wpAnyH_take (i := 6) (oi := { dst := some 94, op := Op.load 3 (Operand.tmp 93), type := 3, pos := "outright.go:95", after := #[{ on := 5, ground := Ground.data }], guard := none }) (v := .int .i64 (s'.ep : Int)) rfl (by kernel_rfl) (by kernel_rfl) (by kernel_rfl) (fun _ _ _ h => h) (Or.inl ⟨by rfl, fun w' hs => by have c := hs.1.cell 3 _ rfl; go_simp⟩) hH ?_
    try simp only [Act.put, List.setIfInBounds_toArray, List.set_cons_zero, List.set_cons_succ]
    refine wpAnyH_ready (rs := [1]) (by kernel_rfl) (by simp) ?_
    refine AllReadyH.cons (o := { dst := some 89, op := Op.call { callee := Callee.value (Operand.func 29), args := #[Operand.tmp 88], argTypes := #[31] }, type := 3, pos := "outright.go:95", after := #[{ on := 0, ground := Ground.data }], guard := none }) rfl (fun K hK => ?_) AllReadyH.nil
    go_simp
    refine (EP8.out _ hH.2).mono ?_
    rintro e w9 ⟨rfl, rfl⟩
    refine hK.out _ _ hH (fun hH => ?_)
    try simp only [Act.put, List.setIfInBounds_toArray, List.set_cons_zero, List.set_cons_succ]
    refine wpAnyH_take (i := 7) (oi := { dst := some 95, op := Op.binOp BinOp.eql 3 (Operand.tmp 89) (Operand.tmp 94) 3, type := 4, pos := "outright.go:95", after := #[{ on := 1, ground := Ground.data }, { on := 6, ground := Ground.data }], guard := none }) (v := .bool true) rfl (by kernel_rfl) (by kernel_rfl) (by kernel_rfl) (fun _ _ _ h => h) (Or.inl ⟨by rfl, fun w' hs => by go_simp⟩) hH ?_
    try simp only [Act.put, List.setIfInBounds_toArray, List.set_cons_zero, List.set_cons_succ]
    refine wpAnyH_take (i := 8) (oi := { dst := some 96, op := Op.move (Operand.tmp 95), type := 4, pos := "outright.go:95", after := #[{ on := 7, ground := Ground.data }, { on := 1, ground := Ground.chain }], guard := none }) (v := .bool true) rfl (by kernel_rfl) (by kernel_rfl) (by kernel_rfl) (fun _ _ _ h => h) (Or.inl ⟨by rfl, fun w' hs => by go_simp⟩) hH ?_
    try simp only [Act.put, List.setIfInBounds_toArray, List.set_cons_zero, List.set_cons_succ]
    refine wpAnyH_take (i := 9) (oi := { dst := some 97, op := Op.move (Operand.tmp 3), type := 31, pos := "outright.go:95", after := #[{ on := 8, ground := Ground.guard }], guard := some (8, true) }) (v := .pointer (some ⟨G, 0, none⟩)) rfl (by kernel_rfl) (by kernel_rfl) (by kernel_rfl) (fun _ _ _ h => h) (Or.inl ⟨by rfl, fun w' hs => by go_simp⟩) hH ?_
    try simp only [Act.put, List.setIfInBounds_toArray, List.set_cons_zero, List.set_cons_succ]
    refine wpAnyH_take (i := 11) (oi := { dst := some 99, op := Op.move (Operand.tmp 0), type := 54, pos := "outright.go:95", after := #[{ on := 8, ground := Ground.guard }], guard := some (8, true) }) (v := .pointer (some ⟨B, 0, none⟩)) rfl (by kernel_rfl) (by kernel_rfl) (by kernel_rfl) (fun _ _ _ h => h) (Or.inl ⟨by rfl, fun w' hs => by go_simp⟩) hH ?_
    try simp only [Act.put, List.setIfInBounds_toArray, List.set_cons_zero, List.set_cons_succ]
    refine wpAnyH_take (i := 12) (oi := { dst := some 100, op := Op.nilCheck (Operand.tmp 99), type := 0, pos := "outright.go:95", after := #[{ on := 11, ground := Ground.data }, { on := 8, ground := Ground.guard }], guard := some (8, true) }) (v := .pointer (some ⟨B, 0, none⟩)) rfl (by kernel_rfl) (by kernel_rfl) (by kernel_rfl) (fun _ _ _ h => h) (Or.inl ⟨by rfl, fun w' hs => by go_simp⟩) hH ?_
    try simp only [Act.put, List.setIfInBounds_toArray, List.set_cons_zero, List.set_cons_succ]
    refine wpAnyH_take (i := 13) (oi := { dst := some 101, op := Op.fieldAddr 56 (Operand.tmp 100) 3, type := 0, pos := "outright.go:95", after := #[{ on := 12, ground := Ground.data }, { on := 8, ground := Ground.guard }], guard := some (8, true) }) (v := .pointer (some ⟨B, 3, none⟩)) rfl (by kernel_rfl) (by kernel_rfl) (by kernel_rfl) (fun _ _ _ h => h) (Or.inl ⟨by rfl, fun w' hs => by go_simp⟩) hH ?_
    try simp only [Act.put, List.setIfInBounds_toArray, List.set_cons_zero, List.set_cons_succ]
    refine wpAnyH_take (i := 14) (oi := { dst := some 102, op := Op.fieldAddr 49 (Operand.tmp 101) 2, type := 0, pos := "outright.go:95", after := #[{ on := 13, ground := Ground.data }, { on := 8, ground := Ground.guard }], guard := some (8, true) }) (v := .pointer (some ⟨B, 5, none⟩)) rfl (by kernel_rfl) (by kernel_rfl) (by kernel_rfl) (fun _ _ _ h => h) (Or.inl ⟨by rfl, fun w' hs => by go_simp⟩) hH ?_
    try simp only [Act.put, List.setIfInBounds_toArray, List.set_cons_zero, List.set_cons_succ]
    refine wpAnyH_take (i := 15) (oi := { dst := some 103, op := Op.load 32 (Operand.tmp 102), type := 32, pos := "outright.go:95", after := #[{ on := 14, ground := Ground.data }, { on := 8, ground := Ground.guard }], guard := some (8, true) }) (v := .slice v2.a2 v2.n2 v2.c2) rfl (by kernel_rfl) (by kernel_rfl) (by kernel_rfl) (fun _ _ _ h => h) (Or.inl ⟨by rfl, fun w' hs => by have c := hs.1.cell 5 _ rfl; go_simp⟩) hH ?_
    try simp only [Act.put, List.setIfInBounds_toArray, List.set_cons_zero, List.set_cons_succ]
    refine wpAnyH_take (i := 16) (oi := { dst := some 104, op := Op.call { callee := Callee.builtin Builtin.len, args := #[Operand.tmp 103], argTypes := #[32] }, type := 3, pos := "outright.go:95", after := #[{ on := 15, ground := Ground.data }, { on := 8, ground := Ground.guard }], guard := some (8, true) }) (v := .int .i64 (v2.n2 : Int)) rfl (by kernel_rfl) (by kernel_rfl) (by kernel_rfl) (fun _ _ _ h => h) (Or.inl ⟨by rfl, fun w' hs => by go_simp⟩) hH ?_
    try simp only [Act.put, List.setIfInBounds_toArray, List.set_cons_zero, List.set_cons_succ]
    refine wpAnyH_ready (rs := [10]) (by kernel_rfl) (by simp) ?_
    refine AllReadyH.cons (o := { dst := some 98, op := Op.call { callee := Callee.value (Operand.func 30), args := #[Operand.tmp 97], argTypes := #[31] }, type := 3, pos := "outright.go:95", after := #[{ on := 9, ground := Ground.data }, { on := 8, ground := Ground.chain }, { on := 8, ground := Ground.guard }], guard := some (8, true) }) rfl (fun K hK => ?_) AllReadyH.nil
    go_simp
    refine (CT8.out _ hH.2).mono ?_
    rintro e w10 ⟨rfl, rfl⟩
    refine hK.out _ _ hH (fun hH => ?_)
    try simp only [Act.put, List.setIfInBounds_toArray, List.set_cons_zero, List.set_cons_succ]
    refine wpAnyH_take (i := 17) (oi := { dst := some 105, op := Op.binOp BinOp.eql 3 (Operand.tmp 98) (Operand.tmp 104) 3, type := 4, pos := "outright.go:95", after := #[{ on := 10, ground := Ground.data }, { on := 16, ground := Ground.data }, { on := 8, ground := Ground.guard }], guard := some (8, true) }) (v := .bool true) rfl (by kernel_rfl) (by kernel_rfl) (by kernel_rfl) (fun _ _ _ h => h) (Or.inl ⟨by rfl, fun w' hs => by go_simp⟩) hH ?_
    try simp only [Act.put, List.setIfInBounds_toArray, List.set_cons_zero, List.set_cons_succ]
    refine wpAnyH_take (i := 18) (oi := { dst := some 106, op := Op.pick (Operand.tmp 96) (Operand.tmp 105) (Operand.const (Value.bool false)), type := 4, pos := "outright.go:95", after := #[{ on := 8, ground := Ground.data }, { on := 17, ground := Ground.data }], guard := none }) (v := .bool true) rfl (by kernel_rfl) (by kernel_rfl) (by kernel_rfl) (fun _ _ _ h => h) (Or.inl ⟨by rfl, fun w' hs => by go_simp⟩) hH ?_
    try simp only [Act.put, List.setIfInBounds_toArray, List.set_cons_zero, List.set_cons_succ]
    refine wpAnyH_take (i := 19) (oi := { dst := some 2, op := Op.assign (Operand.tmp 106), type := 4, pos := "outright.go:95", after := #[{ on := 18, ground := Ground.data }, { on := 10, ground := Ground.chain }, { on := 0, ground := Ground.phase }, { on := 1, ground := Ground.phase }, { on := 2, ground := Ground.phase }, { on := 3, ground := Ground.phase }, { on := 4, ground := Ground.phase }, { on := 5, ground := Ground.phase }, { on := 6, ground := Ground.phase }, { on := 7, ground := Ground.phase }, { on := 8, ground := Ground.phase }, { on := 9, ground := Ground.phase }, { on := 10, ground := Ground.phase }, { on := 11, ground := Ground.phase }, { on := 12, ground := Ground.phase }, { on := 13, ground := Ground.phase }, { on := 14, ground := Ground.phase }, { on := 15, ground := Ground.phase }, { on := 16, ground := Ground.phase }, { on := 17, ground := Ground.phase }, { on := 18, ground := Ground.phase }], guard := none }) (v := .bool true) rfl (by kernel_rfl) (by kernel_rfl) (by kernel_rfl) (fun _ _ _ h => h) (Or.inl ⟨by rfl, fun w' hs => by go_simp⟩) hH ?_
    try simp only [Act.put, List.setIfInBounds_toArray, List.set_cons_zero, List.set_cons_succ]
    refine wpAnyH_done (by kernel_rfl) ?_ _
    clear hH hK
    go_wp2_with fail
    go_ret
    have bdr : Below w8.heap.size w8 w8.drew := Below.drew (Below.refl _ _)
    have H9 := H8.out.later bdr
    exact ⟨rfl, .inl ⟨q3, wr3, ⟨S3, G, f3, s', s', v2, H9, ⟨H9.d, J8.out.below bdr, J7N.out, J7X.out⟩, LG.out, KK.out.2.2.1⟩, WQ.out.1, WQ.out.2⟩⟩
  · have H3 : Hid (BI w0 R B S3 t3 jv false true s s' v w3) := H2.out.disk d3 g3 k3 (fun g hg => .inl hg)
    have FL : Hid (q ≠ [] ∧ t3.dn = true ∧ Hd3 t3 s' ∧ (wr ≤ t3.wr ∧ t3.wr ≤ wr + 2)) := ⟨hq, hdn, hh, hwr⟩
    clear d3 g3 k3 hq hdn hh hwr H2 y0
    go_upto_region 5 with ((with_reducible refine at_store ?_); refine step_store rfl 34 _ _ rfl w3.heap.size 0 34 rcZ rcZ rfl rfl (Blk.new 34 rcZ w3) (Nat.le_refl _) rfl rcZ_one ?_; intro w4 nb g4; have N4 : Hid (Below w3.heap.size w3 w4) := below_row (below_alloc _ _) g4 (Nat.le_refl _); clear nb g4)
    have H4 : Hid (BI w0 R B S3 t3 jv false true s s' v w4) := H3.out.later N4.out
    have y1 := H4.out.b.cell 1 _ rfl
    have z1 := H4.out.b.fz 1
    have H5 : Hid (BI w0 R B S3 t3 (.pointer none) false true s s' v (w4.setCell ⟨B, 1, none⟩ (.pointer none))) := H4.out.put 1 _ rfl id
    clear H3 N4 H4
    go_upto_region 7 with fail
    generalize w4.setCell ⟨B, 1, none⟩ (.pointer none) = w5 at *
    have DN5 : Hid (Calls Tryd.prog 27 #[.pointer (some ⟨R, 0, none⟩)] w5 fun e w' => e = .returned (.bool true) ∧ w5 = w') := (down_at R S3 _ w5 H5.out.d).mono fun e w' ⟨h1, h2⟩ => ⟨by rw [h1, FL.out.2.1], h2.symm⟩
    have y0 := H5.out.b.cell 0 _ rfl
    clear y1 z1
    go_wp2_with fail
    refine DN5.out.mono ?_
    rintro e w' ⟨rfl, rfl⟩
    go_wp2_with fail
    go_ret
    exact ⟨rfl, .inr ⟨FL.out.1, t3, ⟨S3, _, true, s, s', v, H5.out, .inr ⟨rfl, FL.out.2.2.1⟩, KK.out.1, fun _ => KK.out.2.2.1, .inl rfl⟩, FL.out.2.1, FL.out.2.2.2⟩⟩

theorem opened_at (w0 : World) (R B : Nat) (S : Nat → Prop) (t : Dk) (jv : Value) (al mb : Bool) (s s' : Stt) (v : Bv) (w : World) (i M : Nat) (h : BI w0 R B S t jv al mb s s' v w) (hh : Hd3 t s ∨ (mb = true ∧ Hd3 t s')) (k : SOk s i M) (k' : mb = true → SOk s' i M) (hi : i ≤ 5000) (hw : 0 ≤ t.wr ∧ t.wr < 100000000) (hT : ∀ w', Below w0.heap.size w0 w' → TabS w') :
    Calls Tryd.prog 23 #[.pointer (some ⟨B, 0, none⟩)] w fun e w' => e = .returned (.bool true) ∧ ((∃ q' wr', LV w0 R B i M [] q' wr' w' ∧ (t.q = [] → q' = []) ∧ (t.wr ≤ wr' ∧ wr' ≤ t.wr + 2)) ∨ (t.q ≠ [] ∧ ∃ t', DD w0 R B i M t' w' ∧ t'.dn = true ∧ (t.wr ≤ t'.wr ∧ t'.wr ≤ t.wr + 2))) := by
  have A : Hd3 t s → Calls Tryd.prog 23 #[.pointer (some ⟨B, 0, none⟩)] w fun e w' => e = .returned (.bool true) ∧ ((∃ q' wr', LV w0 R B i M [] q' wr' w' ∧ (t.q = [] → q' = []) ∧ (t.wr ≤ wr' ∧ wr' ≤ t.wr + 2)) ∨ (t.q ≠ [] ∧ ∃ t', DD w0 R B i M t' w' ∧ t'.dn = true ∧ (t.wr ≤ t'.wr ∧ t'.wr ≤ t.wr + 2))) := fun hh => by
    obtain ⟨f, o, tail, q, wr, dn, rfl, x⟩ := hh
    rw [D3_wr] at hw ⊢
    rw [D3_q]
    cases dn with
    | false => exact opened_0A w0 R B S f o tail q wr jv al mb s s' v w i M h x k k' hi hw hT
    | true => exact opened_1A w0 R B S f o tail q wr jv al mb s s' v w i M h x k k' hi hw hT
  rcases hh with hh | ⟨rfl, hh⟩
  · exact A hh
  · by_cases he : s = s'
    · subst he; exact A hh
    · obtain ⟨f, o, tail, q, wr, dn, rfl, x⟩ := hh
      rw [D3_wr] at hw ⊢
      rw [D3_q]
      cases dn with
      | false => exact opened_0B w0 R B S f o tail q wr jv al s s' v w i M h x k k' he hi hw hT
      | true => exact opened_1B w0 R B S f o tail q wr jv al s s' v w i M h x k k' he hi hw hT
end Go.Proofs.YtcmfehabcklbpaaDoor
