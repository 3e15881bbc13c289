/-
  Ours: the walk of CollectPromise (gen_colaw.py: THE SEAT's OWN NUMBERS).
-/
import Derived.Test.YtmhjghaipfijdaaCoPrP
namespace Go.Proofs.Ytmhjghaipfijdaa
open Go.RowKit LedM PolM CoM

theorem op_loadC {P : Program} {ops : Array Oper} {op : Oper} {a : Act} {wr : World} {K : Act → World → Prop} {Q : Exit → Act → World → Prop} {E : Prop} (hgd : op.guard = none) (ty : TypeId) (x : Operand) (ho : op.op = .load ty x)
    (G o : Nat) (hx : a.eval x = .pointer (some ⟨G, o, none⟩)) (cs : List Value) (d : TypeDesc) (hc : wr.rangeAt G o cs)
    (hu : P.underlying ty = some d) (hd : d.isRow = true) (hi : (P.info? ty).map (·.size) = some cs.length)
    (h : K (a.put op.dst (.agg cs.toArray)) wr) : if Region.wanted op (yielded ops a.tmps) = true then Oper.wp P op a wr K Q else E := by
  have hwd : Region.wanted op (yielded ops a.tmps) = true := by simp [Region.wanted, hgd]
  rw [if_pos hwd]
  exact wp_load_mid ty x ho G o hx cs d hc hu hd hi h
theorem rd_one (w : World) (x : Int) : Rd (w.alloc (.cells #[.int .i64 x] 3)) (.slice (some ⟨w.heap.size, 0, none⟩) 1 1) (bkL [x]) := by
  refine ⟨_, _, rfl, Nat.le_refl _, (fun h => by cases h), fun i hi => ?_⟩
  obtain rfl : i = 0 := by simpa [bkL] using hi
  exact ⟨_, _, rfl, by simp, (Blk.new 3 [.int .i64 x] w).cell 0 _ rfl⟩
theorem below_trans' {w w1 w2 : World} (h : Below w.heap.size w w1) (h' : Below w1.heap.size w1 w2) : Below w.heap.size w w2 := below_trans h h'
set_option maxRecDepth 20000 in
set_option maxHeartbeats 16000000 in
theorem promise_any (t d a b : Int) (ia : i64 a) (l hs : List Int) (s : Value) (w : World) (hl : l.length = 17) (hr : Rd w s (bkL hs)) (hb : hs.length * 8 ≤ 140737488355328) :
    Calls Try.prog 8 #[PV l s, .int .i64 t, .int .i64 d, .int .i64 a, .int .i64 b] w fun e w' => e = .returned (.bool true) ∧ Below w.heap.size w w' := by
  show Calls _ _ #[.agg (polL l s).toArray, _, _, _, _] _ _
  have OW : Hid (∀ w', Below w.heap.size w w' → Calls Try.prog 13 #[PV l s] w' (OwnAns l hs w')) := fun w' h => own_at l hs s w' hl (hr.later h) hb
  have FR : Hid (∀ w', Calls Try.prog 11 #[] w' fun e w'' => e = .returned (csV fresh) ∧ Below w'.heap.size w' w'') := fresh_at
  have MY : Hid (∀ w', Below w.heap.size w w' → Calls Try.prog 9 #[PV l s] w' fun e w'' => e = .returned (.bool (good l hs)) ∧ Below w'.heap.size w' w'') := fun w' h => mayc_at l hs s w' hl (hr.later h) (by omega)
  have OP : Hid (good l hs = true → ∀ w', Below w.heap.size w w' → Calls Try.prog 10 #[PV l s] w' fun e w'' => e = .returned (.bool true) ∧ Below w'.heap.size w' w'') := fun hg w' h => opens_at l hs s w' hl (hr.later h) hb hg
  have ST : Hid (∀ c ev s' w', Rd w' s' (bkL hs) → Calls Try.prog 12 #[PV l s', csV c, evV ev] w' (StepAns (stepA l hs c ev) w')) := fun c ev s' w' h => step_at l hs s' c ev w' hl h (by omega)
  have SZ : Hid ((Try.prog.info? 24).map (·.size) = some (polL l s).length) := by show _ = _; rw [polL_len hl]; exact sizeP
  have S0 : Hid (PS w l s (w.alloc (.cells (polL l s).toArray 24))) := ⟨Blk.new _ _ _, below_alloc _ _⟩
  have HL : Hid (l.length = 17) := hl
  have PC1 : Hid (∀ w', Blk w.heap.size 24 (polL l s) w' → w'.cell? ⟨w.heap.size, 1, none⟩ = some (.int .i64 (l.getD 1 0))) := fun w' h => h.cell 1 _ (polL_at HL.out 1 (by decide))
  have PC3 : Hid (∀ w', Blk w.heap.size 24 (polL l s) w' → w'.cell? ⟨w.heap.size, 3, none⟩ = some (.int .i64 (l.getD 3 0))) := fun w' h => h.cell 3 _ (polL_at HL.out 3 (by decide))
  have PC9 : Hid (∀ w', Blk w.heap.size 24 (polL l s) w' → w'.cell? ⟨w.heap.size, 9, none⟩ = some (.int .i64 (l.getD 9 0))) := fun w' h => h.cell 9 _ (polL_at HL.out 9 (by decide))
  have PC10 : Hid (∀ w', Blk w.heap.size 24 (polL l s) w' → w'.cell? ⟨w.heap.size, 10, none⟩ = some (.int .i64 (l.getD 10 0))) := fun w' h => h.cell 10 _ (polL_at HL.out 10 (by decide))
  have SM : Hid (∀ (L : List Int) v v' w', L.length ≤ 1152921504606846976 → Rd w' v (bkL L) → Rd w' v' (bkL L) → Calls Try.prog 15 #[v, v'] w' fun e w'' => e = .returned (.bool true) ∧ Below w'.heap.size w' w'') := fun L v v' w' hb h h' => same_at L v v' w' h h' hb
  have CN : Hid (∀ (L : List Int) v w', Rd w' v (bkL L) → L.length ≤ 1152921504606846976 → Calls Try.prog 17 #[v, .int .i64 1] w' fun e w'' => e = .returned (.int .i64 (cnt 1 L)) ∧ w'' = w') := fun L v w' h hb => cnt_at 1 L v w' h hb
  have LT : Hid (∀ t d w', Calls Try.prog 16 #[.int .i64 t, .int .i64 d] w' fun e w'' => e = .returned (evV ⟨1, t, d, 0⟩) ∧ Below w'.heap.size w' w'') := late_at
  have O1 : Hid (∀ c w', Calls Try.prog 14 #[csV c] w' fun e w'' => e = .returned (.bool (opn c)) ∧ Below w'.heap.size w' w'') := open_at
  have PU : Hid (good l hs = true → 1 ≤ l.getD 9 0 → (1 ≤ t ∧ t ≤ 3651959) → (1 ≤ d ∧ d ≤ l.getD 10 0) → 2 ≤ a → (1 ≤ b ∧ b < a) → ∃ c1 c2 c3 k s z r1 rs rz, PF l hs t d a b c1 c2 c3 k s z r1 rs rz) := fun h1 h2 h3 h4 h5 h6 => promise_pure h1 h2 h3 h4 h5 h6 (by have := ia.2; omega)
  clear hl hr hb OP
  generalize hGR : l.getD 1 0 = GR at *
  generalize hCO : l.getD 3 0 = CO at *
  generalize l.getD 9 0 = P9 at *
  generalize l.getD 10 0 = P10 at *
  cases hg : good l hs
  · go_enter Try.func8, Try.ntmps8
    go_upto_region 1 with fail
    generalize w.alloc (.cells (polL l s).toArray 24) = w0 at *
    go_wp2_with ((with_reducible refine at_loadT 24 ?_); refine step_load rfl 24 _ rfl w.heap.size 0 rfl (polL l s) _ (Blk.all S0.out.p) Try.underlying24 rfl SZ.out ?_)
    refine (MY.out _ S0.out.bb).mono ?_
    rw [hg]
    rintro e w1 ⟨rfl, bX⟩
    have S1 : Hid (PS w l s w1) := S0.out.later bX
    clear bX
    go_wp2_with fail
    go_ret
    exact ⟨rfl, S1.out.bb⟩
  · go_enter Try.func8, Try.ntmps8
    go_upto_region 1 with fail
    generalize w.alloc (.cells (polL l s).toArray 24) = w0 at *
    go_wp2_with ((with_reducible refine at_loadT 24 ?_); refine step_load rfl 24 _ rfl w.heap.size 0 rfl (polL l s) _ (Blk.all S0.out.p) Try.underlying24 rfl SZ.out ?_)
    refine (MY.out _ S0.out.bb).mono ?_
    rw [hg]
    rintro e w1 ⟨rfl, bX⟩
    have S1 : Hid (PS w l s w1) := S0.out.later bX
    clear bX S0
    have p9 := PC9.out _ S1.out.p
    have p10 := PC10.out _ S1.out.p
    by_cases h9 : P9 < 1
    · have x9 : decide (P9 < 1) = true := decide_eq_true h9
      go_wp2_with fail
      go_ret
      exact ⟨rfl, S1.out.bb⟩
    · have x9 : decide (P9 < 1) = false := decide_eq_false h9
      go_upto_region 3 with fail
      by_cases h0 : t < 1
      · have x0 : decide (t < 1) = true := decide_eq_true h0
        go_wp2_with fail
        go_ret
        exact ⟨rfl, S1.out.bb⟩
      · have x0 : decide (t < 1) = false := decide_eq_false h0
        by_cases h1 : 3651959 < t
        · have x1 : decide (3651959 < t) = true := decide_eq_true h1
          go_wp2_with fail
          go_ret
          exact ⟨rfl, S1.out.bb⟩
        · have x1 : decide (3651959 < t) = false := decide_eq_false h1
          by_cases h2 : d < 1
          · have x2 : decide (d < 1) = true := decide_eq_true h2
            go_wp2_with fail
            go_ret
            exact ⟨rfl, S1.out.bb⟩
          · have x2 : decide (d < 1) = false := decide_eq_false h2
            by_cases h3 : P10 < d
            · have x3 : decide (P10 < d) = true := decide_eq_true h3
              go_wp2_with fail
              go_ret
              exact ⟨rfl, S1.out.bb⟩
            · have x3 : decide (P10 < d) = false := decide_eq_false h3
              by_cases h4 : a < 2
              · have x4 : decide (a < 2) = true := decide_eq_true h4
                go_wp2_with fail
                go_ret
                exact ⟨rfl, S1.out.bb⟩
              · have x4 : decide (a < 2) = false := decide_eq_false h4
                by_cases h5 : b < 1
                · have x5 : decide (b < 1) = true := decide_eq_true h5
                  go_wp2_with fail
                  go_ret
                  exact ⟨rfl, S1.out.bb⟩
                · have x5 : decide (b < 1) = false := decide_eq_false h5
                  by_cases h6 : a ≤ b
                  · have x6 : decide (a ≤ b) = true := decide_eq_true h6
                    go_wp2_with fail
                    go_ret
                    exact ⟨rfl, S1.out.bb⟩
                  · have x6 : decide (a ≤ b) = false := decide_eq_false h6
                    obtain ⟨c1, c2, c3, k, s6, z, r1, rs, rz, F⟩ := PU.out hg (by omega) (by omega) (by omega) (by omega) (by omega)
                    have s1 := F.s1
                    rw [hGR] at s1
                    have F1 : Hid _ := s1
                    have F2 : Hid _ := F.s2
                    have F3 : Hid _ := F.s3
                    have F4 : Hid _ := F.s4
                    have F5 : Hid _ := F.s5
                    have F6 : Hid _ := F.s6
                    clear s1
                    have SK1 : Hid (∀ s' w', Rd w' s' (bkL hs) → Calls Try.prog 12 #[PV l s', csV fresh, evV ⟨1, t, wrap64 (GR + 1), 0⟩] w' (StepAns (0, (c1, r1)) w')) := fun s' w' h => by have x := ST.out fresh ⟨1, t, wrap64 (GR + 1), 0⟩ s' w' h; rw [F1.out] at x; exact x
                    have SK2 : Hid (∀ s' w', Rd w' s' (bkL hs) → Calls Try.prog 12 #[PV l s', csV c1, evV ⟨4, t, d, a⟩] w' (StepAns (0, (c2, [])) w')) := fun s' w' h => by have x := ST.out c1 ⟨4, t, d, a⟩ s' w' h; rw [F2.out] at x; exact x
                    have SK3 : Hid (∀ s' w', Rd w' s' (bkL hs) → Calls Try.prog 12 #[PV l s', csV c2, evV ⟨2, 0, 1, b⟩] w' (StepAns (0, (c3, [])) w')) := fun s' w' h => by have x := ST.out c2 ⟨2, 0, 1, b⟩ s' w' h; rw [F3.out] at x; exact x
                    have SK4 : Hid (∀ s' w', Rd w' s' (bkL hs) → Calls Try.prog 12 #[PV l s', csV c3, evV ⟨2, 0, 1, wrap64 (a - b)⟩] w' (StepAns (0, (k, [5])) w')) := fun s' w' h => by have x := ST.out c3 ⟨2, 0, 1, wrap64 (a - b)⟩ s' w' h; rw [F4.out] at x; exact x
                    have SK5 : Hid (∀ s' w', Rd w' s' (bkL hs) → Calls Try.prog 12 #[PV l s', csV c3, evV ⟨1, wrap64 (t + d), 1, 0⟩] w' (StepAns (0, (s6, rs)) w')) := fun s' w' h => by have x := ST.out c3 ⟨1, wrap64 (t + d), 1, 0⟩ s' w' h; rw [F5.out] at x; exact x
                    have SK6 : Hid (∀ s' w', Rd w' s' (bkL hs) → Calls Try.prog 12 #[PV l s', csV c3, evV ⟨1, wrap64 (wrap64 (t + d) + 1), 1, 0⟩] w' (StepAns (0, (z, 1 :: rz)) w')) := fun s' w' h => by have x := ST.out c3 ⟨1, wrap64 (wrap64 (t + d) + 1), 1, 0⟩ s' w' h; rw [F6.out] at x; exact x
                    obtain ⟨-, -, -, -, -, -, f1, f2, f3, f4, f5, f6, f7, f8, f9, f10, f11, f12⟩ := F
                    rw [hCO] at f3
                    clear ST PU F1 F2 F3 F4 F5 F6
                    have F6 : Hid (opn k = true) := f6
                    have F9 : Hid (cnt 1 rs = 0) := f9
                    have F12 : Hid (rs.length ≤ 1) := f12
                    clear f6 f9 f12
                    have Y1 : Hid (ZZ w l s [] [] w1) := ⟨S1.out.p, S1.out.bb, by simp, by simp, by simp⟩
                    go_upto_region 5 with fail
                    go_cut [11, 12, 13] from 18 to 226 (fun v11 v12 v13 wx => ∃ G ra rn rc, v11 = .pointer (some ⟨G, 0, none⟩) ∧ v12 = .slice ra rn rc ∧ v13 = .int .i64 0 ∧ Hid (ZZ w l s [(G, c1)] [(.slice ra rn rc, r1)] wx))
                    case first => as_aux_lemma =>
                      have hu := Try.underlying24
                      have hi := SZ.out
                      have hu2 := Try.underlying28
                      refine wp_region_held_drew (S := fun w' => ZZ w l s [] [] w') (by kernel_rfl) (Y1.out.drew) (fun hH => ?_)
                      refine wpAnyH_take (i := 0) (oi := { dst := some 56, op := Op.load 24 (Operand.tmp 5), type := 24, pos := "outright.go:292", after := #[], guard := none }) (v := .agg (polL l s).toArray) rfl (by kernel_rfl) (by kernel_rfl) (by kernel_rfl) (fun _ _ _ h => h) (yieldsIf_load_mid (by rfl) _ _ rfl w.heap.size 0 rfl (polL l s) _ (fun w' h => h.p.all) hu rfl hi) hH ?_
                      try simp only [Act.put, List.setIfInBounds_toArray, List.set_cons_zero, List.set_cons_succ]
                      refine wpAnyH_take (i := 3) (oi := { dst := some 59, op := Op.move (Operand.tmp 1), type := 3, pos := "outright.go:292", after := #[], guard := none }) (v := .int .i64 t) rfl (by kernel_rfl) (by kernel_rfl) (by kernel_rfl) (fun _ _ _ h => h) (Or.inl ⟨by rfl, fun w' h => by go_simp⟩) hH ?_
                      try simp only [Act.put, List.setIfInBounds_toArray, List.set_cons_zero, List.set_cons_succ]
                      refine wpAnyH_take (i := 4) (oi := { dst := some 60, op := Op.fieldAddr 24 (Operand.tmp 5) 1, type := 0, pos := "outright.go:292", after := #[], guard := none }) (v := .pointer (some ⟨w.heap.size, 1, none⟩)) rfl (by kernel_rfl) (by kernel_rfl) (by kernel_rfl) (fun _ _ _ h => h) (Or.inl ⟨by rfl, fun w' h => by go_simp⟩) hH ?_
                      try simp only [Act.put, List.setIfInBounds_toArray, List.set_cons_zero, List.set_cons_succ]
                      refine wpAnyH_take (i := 5) (oi := { dst := some 61, op := Op.load 3 (Operand.tmp 60), type := 3, pos := "outright.go:292", after := #[{ on := 4, ground := Ground.data }], guard := none }) (v := .int .i64 GR) rfl (by kernel_rfl) (by kernel_rfl) (by kernel_rfl) (fun _ _ _ h => h) (Or.inl ⟨by rfl, fun w' h => by have q := PC1.out _ h.p; go_simp⟩) hH ?_
                      try simp only [Act.put, List.setIfInBounds_toArray, List.set_cons_zero, List.set_cons_succ]
                      refine wpAnyH_take (i := 6) (oi := { dst := some 62, op := Op.binOp BinOp.add 3 (Operand.tmp 61) (Operand.const (Value.int IntKind.i64 1)) 3, type := 3, pos := "outright.go:292", after := #[{ on := 5, ground := Ground.data }], guard := none }) (v := .int .i64 (wrap64 (GR + 1))) rfl (by kernel_rfl) (by kernel_rfl) (by kernel_rfl) (fun _ _ _ h => h) (Or.inl ⟨by rfl, fun w' h => by have e64 := wrapC (GR + 1); go_simp⟩) hH ?_
                      try simp only [Act.put, List.setIfInBounds_toArray, List.set_cons_zero, List.set_cons_succ]
                      refine wpAnyH_ready (rs := [1, 13]) (by kernel_rfl) (by simp) ?_
                      refine AllReadyH.cons (o := { dst := some 57, op := Op.call { callee := Callee.value (Operand.func 13), args := #[Operand.tmp 56], argTypes := #[24] }, type := 24, pos := "outright.go:292", after := #[{ on := 0, ground := Ground.data }], guard := none }) rfl (fun K hK => ?_) (AllReadyH.cons (o := { dst := some 11, op := Op.alloc 28, type := 0, pos := "outright.go:292", after := #[], guard := none }) rfl (fun K hK => ?_) AllReadyH.nil)
                      · go_simp
                        refine (OW.out _ hH.bb).mono ?_
                        rintro e x1 ⟨oa, on, oc, rfl, orow, bX⟩
                        refine hK.out _ _ (hH.later bX) (fun hH => ?_)
                        refine wpAnyH_ready (rs := [2, 13]) (by kernel_rfl) (by simp) ?_
                        refine AllReadyH.cons (o := { dst := some 58, op := Op.call { callee := Callee.value (Operand.func 11), args := #[], argTypes := #[] }, type := 28, pos := "outright.go:292", after := #[{ on := 1, ground := Ground.chain }], guard := none }) rfl (fun K hK => ?_) (AllReadyH.cons (o := { dst := some 11, op := Op.alloc 28, type := 0, pos := "outright.go:292", after := #[], guard := none }) rfl (fun K hK => ?_) AllReadyH.nil)
                        · go_simp
                          refine (FR.out _).mono ?_
                          rintro e x2 ⟨rfl, bX⟩
                          have orow := orow.later bX
                          refine hK.out _ _ (hH.later bX) (fun hH => ?_)
                          refine wpAnyH_ready (rs := [7, 13]) (by kernel_rfl) (by simp) ?_
                          refine AllReadyH.cons (o := { dst := some 63, op := Op.call { callee := Callee.value (Operand.func 16), args := #[Operand.tmp 59, Operand.tmp 62], argTypes := #[3, 3] }, type := 35, pos := "outright.go:292", after := #[{ on := 3, ground := Ground.data }, { on := 6, ground := Ground.data }, { on := 2, ground := Ground.chain }], guard := none }) rfl (fun K hK => ?_) (AllReadyH.cons (o := { dst := some 11, op := Op.alloc 28, type := 0, pos := "outright.go:292", after := #[], guard := none }) rfl (fun K hK => ?_) AllReadyH.nil)
                          · go_simp
                            refine (LT.out _ _ _).mono ?_
                            rintro e x3 ⟨rfl, bX⟩
                            have orow := orow.later bX
                            refine hK.out _ _ (hH.later bX) (fun hH => ?_)
                            refine wpAnyH_ready (rs := [8, 13]) (by kernel_rfl) (by simp) ?_
                            refine AllReadyH.cons (o := { dst := some 64, op := Op.call { callee := Callee.value (Operand.func 12), args := #[Operand.tmp 57, Operand.tmp 58, Operand.tmp 63], argTypes := #[24, 28, 35] }, type := 31, pos := "outright.go:292", after := #[{ on := 1, ground := Ground.data }, { on := 2, ground := Ground.data }, { on := 7, ground := Ground.data }, { on := 7, ground := Ground.chain }], guard := none }) rfl (fun K hK => ?_) (AllReadyH.cons (o := { dst := some 11, op := Op.alloc 28, type := 0, pos := "outright.go:292", after := #[], guard := none }) rfl (fun K hK => ?_) AllReadyH.nil)
                            · go_simp
                              refine (SK1.out _ _ orow.rd).mono ?_
                              rintro e x4 ⟨ra, rn, rc, rfl, rrow, bX⟩
                              have orow := orow.later bX
                              have rrow := rrow.mono hH.bb.size
                              refine hK.out _ _ (hH.later bX) (fun hH => ?_)
                              refine wpAnyH_take (i := 9) (oi := { dst := some 55, op := Op.move (Operand.tmp 64), type := 31, pos := "outright.go:292", after := #[{ on := 8, ground := Ground.data }], guard := none }) (v := .tuple #[csV c1, .slice ra rn rc, .int .i64 0]) rfl (by kernel_rfl) (by kernel_rfl) (by kernel_rfl) (fun _ _ _ h => h) (Or.inl ⟨by rfl, fun w' h => by go_simp⟩) hH ?_
                              try simp only [Act.put, List.setIfInBounds_toArray, List.set_cons_zero, List.set_cons_succ]
                              refine wpAnyH_take (i := 10) (oi := { dst := some 65, op := Op.extract (Operand.tmp 55) 0, type := 28, pos := "outright.go:292", after := #[{ on := 9, ground := Ground.data }], guard := none }) (v := csV c1) rfl (by kernel_rfl) (by kernel_rfl) (by kernel_rfl) (fun _ _ _ h => h) (Or.inl ⟨by rfl, fun w' h => by go_simp⟩) hH ?_
                              try simp only [Act.put, List.setIfInBounds_toArray, List.set_cons_zero, List.set_cons_succ]
                              refine wpAnyH_take (i := 11) (oi := { dst := some 66, op := Op.extract (Operand.tmp 55) 1, type := 22, pos := "outright.go:292", after := #[{ on := 9, ground := Ground.data }, { on := 14, ground := Ground.gcOnly Departure.lateStores }], guard := none }) (v := .slice ra rn rc) rfl (by kernel_rfl) (by kernel_rfl) (by kernel_rfl) (fun _ _ _ h => h) (Or.inl ⟨by rfl, fun w' h => by go_simp⟩) hH ?_
                              try simp only [Act.put, List.setIfInBounds_toArray, List.set_cons_zero, List.set_cons_succ]
                              refine wpAnyH_take (i := 12) (oi := { dst := some 67, op := Op.extract (Operand.tmp 55) 2, type := 30, pos := "outright.go:292", after := #[{ on := 9, ground := Ground.data }, { on := 15, ground := Ground.gcOnly Departure.lateStores }], guard := none }) (v := .int .i64 0) rfl (by kernel_rfl) (by kernel_rfl) (by kernel_rfl) (fun _ _ _ h => h) (Or.inl ⟨by rfl, fun w' h => by go_simp⟩) hH ?_
                              try simp only [Act.put, List.setIfInBounds_toArray, List.set_cons_zero, List.set_cons_succ]
                              refine wpAnyH_ready (rs := [13]) (by kernel_rfl) (by simp) ?_
                              refine AllReadyH.cons (o := { dst := some 11, op := Op.alloc 28, type := 0, pos := "outright.go:292", after := #[], guard := none }) rfl (fun K hK => ?_) AllReadyH.nil
                              go_simp
                              have hN : Blk x4.heap.size 28 (csL ⟨0, false, 0, 0, 0, 0, 0, 0, 0, 0, 0, 0, 0, 0, 0⟩) (x4.alloc (.cells #[.int .i64 0, .bool false, .int .i64 0, .int .i64 0, .int .i64 0, .int .i64 0, .int .i64 0, .int .i64 0, .int .i64 0, .int .i64 0, .int .i64 0, .int .i64 0, .int .i64 0, .int .i64 0, .int .i64 0] 28)) := Blk.new _ _ _
                              have hG := hH.lts
                              have hp : w.heap.size < x4.heap.size := hH.p.lt
                              have orow := orow.later (below_alloc x4 (.cells #[.int .i64 0, .bool false, .int .i64 0, .int .i64 0, .int .i64 0, .int .i64 0, .int .i64 0, .int .i64 0, .int .i64 0, .int .i64 0, .int .i64 0, .int .i64 0, .int .i64 0, .int .i64 0, .int .i64 0] 28))
                              have rrow := rrow.later (below_alloc x4 (.cells #[.int .i64 0, .bool false, .int .i64 0, .int .i64 0, .int .i64 0, .int .i64 0, .int .i64 0, .int .i64 0, .int .i64 0, .int .i64 0, .int .i64 0, .int .i64 0, .int .i64 0, .int .i64 0, .int .i64 0] 28))
                              refine hK.out _ _ (hH.later (below_alloc _ _)) (fun hH => ?_)
                              refine wpAnyH_ready (rs := [14]) (by kernel_rfl) (by simp) ?_
                              refine AllReadyH.cons (o := { dst := none, op := Op.store 28 (Operand.tmp 11) (Operand.tmp 65), type := 0, pos := "outright.go:292", after := #[{ on := 13, ground := Ground.data }, { on := 10, ground := Ground.data }, { on := 8, ground := Ground.chain }, { on := 0, ground := Ground.phase }, { on := 1, ground := Ground.phase }, { on := 2, ground := Ground.phase }, { on := 3, ground := Ground.phase }, { on := 4, ground := Ground.phase }, { on := 5, ground := Ground.phase }, { on := 6, ground := Ground.phase }, { on := 7, ground := Ground.phase }, { on := 8, ground := Ground.phase }, { on := 9, ground := Ground.phase }, { on := 10, ground := Ground.phase }, { on := 11, ground := Ground.textOnly Departure.lateStores }, { on := 12, ground := Ground.textOnly Departure.lateStores }, { on := 13, ground := Ground.phase }], guard := none }) rfl (fun K hK => ?_) AllReadyH.nil
                              refine op_putC (zs := csL ⟨0, false, 0, 0, 0, 0, 0, 0, 0, 0, 0, 0, 0, 0, 0⟩) (csL c1) rfl (sizeCsL _) (csL_one _) rfl _ _ rfl _ rfl rfl hN ?_
                              intro w9 b9 g9
                              have hZ := hH.grown hN g9 hG hp
                              have PX : Hid (ZZ w l s [(_, c1)] [(.slice ra rn rc, r1)] w9) := (hZ.addB b9 hp).addR (rowV_blk rrow hN g9 (by decide))
                              refine hK.out _ _ hZ (fun hH => ?_)
                              simp only [Act.put]
                              refine wpAnyH_take (i := 15) (oi := { dst := some 12, op := Op.assign (Operand.tmp 66), type := 22, pos := "outright.go:292", after := #[{ on := 11, ground := Ground.data }, { on := 14, ground := Ground.chain }, { on := 0, ground := Ground.phase }, { on := 1, ground := Ground.phase }, { on := 2, ground := Ground.phase }, { on := 3, ground := Ground.phase }, { on := 4, ground := Ground.phase }, { on := 5, ground := Ground.phase }, { on := 6, ground := Ground.phase }, { on := 7, ground := Ground.phase }, { on := 8, ground := Ground.phase }, { on := 9, ground := Ground.phase }, { on := 10, ground := Ground.phase }, { on := 11, ground := Ground.phase }, { on := 12, ground := Ground.textOnly Departure.lateStores }, { on := 13, ground := Ground.phase }, { on := 14, ground := Ground.phase }], guard := none }) (v := .slice ra rn rc) rfl (by kernel_rfl) (by kernel_rfl) (by kernel_rfl) (fun _ _ _ h => h) (Or.inl ⟨by rfl, fun w' h => by go_simp⟩) hH ?_
                              try simp only [Act.put, List.setIfInBounds_toArray, List.set_cons_zero, List.set_cons_succ]
                              refine wpAnyH_take (i := 16) (oi := { dst := some 13, op := Op.assign (Operand.tmp 67), type := 30, pos := "outright.go:292", after := #[{ on := 12, ground := Ground.data }, { on := 15, ground := Ground.chain }, { on := 0, ground := Ground.phase }, { on := 1, ground := Ground.phase }, { on := 2, ground := Ground.phase }, { on := 3, ground := Ground.phase }, { on := 4, ground := Ground.phase }, { on := 5, ground := Ground.phase }, { on := 6, ground := Ground.phase }, { on := 7, ground := Ground.phase }, { on := 8, ground := Ground.phase }, { on := 9, ground := Ground.phase }, { on := 10, ground := Ground.phase }, { on := 11, ground := Ground.phase }, { on := 12, ground := Ground.phase }, { on := 13, ground := Ground.phase }, { on := 14, ground := Ground.phase }, { on := 15, ground := Ground.phase }], guard := none }) (v := .int .i64 0) rfl (by kernel_rfl) (by kernel_rfl) (by kernel_rfl) (fun _ _ _ h => h) (Or.inl ⟨by rfl, fun w' h => by go_simp⟩) hH ?_
                              try simp only [Act.put, List.setIfInBounds_toArray, List.set_cons_zero, List.set_cons_succ]
                              refine wpAnyH_done (by kernel_rfl) ?_ _
                              clear hH hK b9 g9 hN hZ
                              go_wp2_with fail
                              go_meet
                              case rel => exact ⟨_, _, _, _, rfl, rfl, rfl, PX⟩
                            · go_simp
                              have hN : Blk x3.heap.size 28 (csL ⟨0, false, 0, 0, 0, 0, 0, 0, 0, 0, 0, 0, 0, 0, 0⟩) (x3.alloc (.cells #[.int .i64 0, .bool false, .int .i64 0, .int .i64 0, .int .i64 0, .int .i64 0, .int .i64 0, .int .i64 0, .int .i64 0, .int .i64 0, .int .i64 0, .int .i64 0, .int .i64 0, .int .i64 0, .int .i64 0] 28)) := Blk.new _ _ _
                              have hG := hH.lts
                              have hp : w.heap.size < x3.heap.size := hH.p.lt
                              have orow := orow.later (below_alloc x3 (.cells #[.int .i64 0, .bool false, .int .i64 0, .int .i64 0, .int .i64 0, .int .i64 0, .int .i64 0, .int .i64 0, .int .i64 0, .int .i64 0, .int .i64 0, .int .i64 0, .int .i64 0, .int .i64 0, .int .i64 0] 28))
                              refine hK.out _ _ (hH.later (below_alloc _ _)) (fun hH => ?_)
                              refine wpAnyH_ready (rs := [8]) (by kernel_rfl) (by simp) ?_
                              refine AllReadyH.cons (o := { dst := some 64, op := Op.call { callee := Callee.value (Operand.func 12), args := #[Operand.tmp 57, Operand.tmp 58, Operand.tmp 63], argTypes := #[24, 28, 35] }, type := 31, pos := "outright.go:292", after := #[{ on := 1, ground := Ground.data }, { on := 2, ground := Ground.data }, { on := 7, ground := Ground.data }, { on := 7, ground := Ground.chain }], guard := none }) rfl (fun K hK => ?_) AllReadyH.nil
                              go_simp
                              refine (SK1.out _ _ orow.rd).mono ?_
                              rintro e x5 ⟨ra, rn, rc, rfl, rrow, bX⟩
                              have orow := orow.later bX
                              have hN := hN.below bX
                              have rrow := rrow.mono hH.bb.size
                              refine hK.out _ _ (hH.later bX) (fun hH => ?_)
                              refine wpAnyH_take (i := 9) (oi := { dst := some 55, op := Op.move (Operand.tmp 64), type := 31, pos := "outright.go:292", after := #[{ on := 8, ground := Ground.data }], guard := none }) (v := .tuple #[csV c1, .slice ra rn rc, .int .i64 0]) rfl (by kernel_rfl) (by kernel_rfl) (by kernel_rfl) (fun _ _ _ h => h) (Or.inl ⟨by rfl, fun w' h => by go_simp⟩) hH ?_
                              try simp only [Act.put, List.setIfInBounds_toArray, List.set_cons_zero, List.set_cons_succ]
                              refine wpAnyH_take (i := 10) (oi := { dst := some 65, op := Op.extract (Operand.tmp 55) 0, type := 28, pos := "outright.go:292", after := #[{ on := 9, ground := Ground.data }], guard := none }) (v := csV c1) rfl (by kernel_rfl) (by kernel_rfl) (by kernel_rfl) (fun _ _ _ h => h) (Or.inl ⟨by rfl, fun w' h => by go_simp⟩) hH ?_
                              try simp only [Act.put, List.setIfInBounds_toArray, List.set_cons_zero, List.set_cons_succ]
                              refine wpAnyH_take (i := 11) (oi := { dst := some 66, op := Op.extract (Operand.tmp 55) 1, type := 22, pos := "outright.go:292", after := #[{ on := 9, ground := Ground.data }, { on := 14, ground := Ground.gcOnly Departure.lateStores }], guard := none }) (v := .slice ra rn rc) rfl (by kernel_rfl) (by kernel_rfl) (by kernel_rfl) (fun _ _ _ h => h) (Or.inl ⟨by rfl, fun w' h => by go_simp⟩) hH ?_
                              try simp only [Act.put, List.setIfInBounds_toArray, List.set_cons_zero, List.set_cons_succ]
                              refine wpAnyH_take (i := 12) (oi := { dst := some 67, op := Op.extract (Operand.tmp 55) 2, type := 30, pos := "outright.go:292", after := #[{ on := 9, ground := Ground.data }, { on := 15, ground := Ground.gcOnly Departure.lateStores }], guard := none }) (v := .int .i64 0) rfl (by kernel_rfl) (by kernel_rfl) (by kernel_rfl) (fun _ _ _ h => h) (Or.inl ⟨by rfl, fun w' h => by go_simp⟩) hH ?_
                              try simp only [Act.put, List.setIfInBounds_toArray, List.set_cons_zero, List.set_cons_succ]
                              refine wpAnyH_ready (rs := [14]) (by kernel_rfl) (by simp) ?_
                              refine AllReadyH.cons (o := { dst := none, op := Op.store 28 (Operand.tmp 11) (Operand.tmp 65), type := 0, pos := "outright.go:292", after := #[{ on := 13, ground := Ground.data }, { on := 10, ground := Ground.data }, { on := 8, ground := Ground.chain }, { on := 0, ground := Ground.phase }, { on := 1, ground := Ground.phase }, { on := 2, ground := Ground.phase }, { on := 3, ground := Ground.phase }, { on := 4, ground := Ground.phase }, { on := 5, ground := Ground.phase }, { on := 6, ground := Ground.phase }, { on := 7, ground := Ground.phase }, { on := 8, ground := Ground.phase }, { on := 9, ground := Ground.phase }, { on := 10, ground := Ground.phase }, { on := 11, ground := Ground.textOnly Departure.lateStores }, { on := 12, ground := Ground.textOnly Departure.lateStores }, { on := 13, ground := Ground.phase }], guard := none }) rfl (fun K hK => ?_) AllReadyH.nil
                              refine op_putC (zs := csL ⟨0, false, 0, 0, 0, 0, 0, 0, 0, 0, 0, 0, 0, 0, 0⟩) (csL c1) rfl (sizeCsL _) (csL_one _) rfl _ _ rfl _ rfl rfl hN ?_
                              intro w9 b9 g9
                              have hZ := hH.grown hN g9 hG hp
                              have PX : Hid (ZZ w l s [(_, c1)] [(.slice ra rn rc, r1)] w9) := (hZ.addB b9 hp).addR (rowV_blk rrow hN g9 (by decide))
                              refine hK.out _ _ hZ (fun hH => ?_)
                              simp only [Act.put]
                              refine wpAnyH_take (i := 15) (oi := { dst := some 12, op := Op.assign (Operand.tmp 66), type := 22, pos := "outright.go:292", after := #[{ on := 11, ground := Ground.data }, { on := 14, ground := Ground.chain }, { on := 0, ground := Ground.phase }, { on := 1, ground := Ground.phase }, { on := 2, ground := Ground.phase }, { on := 3, ground := Ground.phase }, { on := 4, ground := Ground.phase }, { on := 5, ground := Ground.phase }, { on := 6, ground := Ground.phase }, { on := 7, ground := Ground.phase }, { on := 8, ground := Ground.phase }, { on := 9, ground := Ground.phase }, { on := 10, ground := Ground.phase }, { on := 11, ground := Ground.phase }, { on := 12, ground := Ground.textOnly Departure.lateStores }, { on := 13, ground := Ground.phase }, { on := 14, ground := Ground.phase }], guard := none }) (v := .slice ra rn rc) rfl (by kernel_rfl) (by kernel_rfl) (by kernel_rfl) (fun _ _ _ h => h) (Or.inl ⟨by rfl, fun w' h => by go_simp⟩) hH ?_
                              try simp only [Act.put, List.setIfInBounds_toArray, List.set_cons_zero, List.set_cons_succ]
                              refine wpAnyH_take (i := 16) (oi := { dst := some 13, op := Op.assign (Operand.tmp 67), type := 30, pos := "outright.go:292", after := #[{ on := 12, ground := Ground.data }, { on := 15, ground := Ground.chain }, { on := 0, ground := Ground.phase }, { on := 1, ground := Ground.phase }, { on := 2, ground := Ground.phase }, { on := 3, ground := Ground.phase }, { on := 4, ground := Ground.phase }, { on := 5, ground := Ground.phase }, { on := 6, ground := Ground.phase }, { on := 7, ground := Ground.phase }, { on := 8, ground := Ground.phase }, { on := 9, ground := Ground.phase }, { on := 10, ground := Ground.phase }, { on := 11, ground := Ground.phase }, { on := 12, ground := Ground.phase }, { on := 13, ground := Ground.phase }, { on := 14, ground := Ground.phase }, { on := 15, ground := Ground.phase }], guard := none }) (v := .int .i64 0) rfl (by kernel_rfl) (by kernel_rfl) (by kernel_rfl) (fun _ _ _ h => h) (Or.inl ⟨by rfl, fun w' h => by go_simp⟩) hH ?_
                              try simp only [Act.put, List.setIfInBounds_toArray, List.set_cons_zero, List.set_cons_succ]
                              refine wpAnyH_done (by kernel_rfl) ?_ _
                              clear hH hK b9 g9 hN hZ
                              go_wp2_with fail
                              go_meet
                              case rel => exact ⟨_, _, _, _, rfl, rfl, rfl, PX⟩
                          · go_simp
                            have hN : Blk x2.heap.size 28 (csL ⟨0, false, 0, 0, 0, 0, 0, 0, 0, 0, 0, 0, 0, 0, 0⟩) (x2.alloc (.cells #[.int .i64 0, .bool false, .int .i64 0, .int .i64 0, .int .i64 0, .int .i64 0, .int .i64 0, .int .i64 0, .int .i64 0, .int .i64 0, .int .i64 0, .int .i64 0, .int .i64 0, .int .i64 0, .int .i64 0] 28)) := Blk.new _ _ _
                            have hG := hH.lts
                            have hp : w.heap.size < x2.heap.size := hH.p.lt
                            have orow := orow.later (below_alloc x2 (.cells #[.int .i64 0, .bool false, .int .i64 0, .int .i64 0, .int .i64 0, .int .i64 0, .int .i64 0, .int .i64 0, .int .i64 0, .int .i64 0, .int .i64 0, .int .i64 0, .int .i64 0, .int .i64 0, .int .i64 0] 28))
                            refine hK.out _ _ (hH.later (below_alloc _ _)) (fun hH => ?_)
                            refine wpAnyH_ready (rs := [7]) (by kernel_rfl) (by simp) ?_
                            refine AllReadyH.cons (o := { dst := some 63, op := Op.call { callee := Callee.value (Operand.func 16), args := #[Operand.tmp 59, Operand.tmp 62], argTypes := #[3, 3] }, type := 35, pos := "outright.go:292", after := #[{ on := 3, ground := Ground.data }, { on := 6, ground := Ground.data }, { on := 2, ground := Ground.chain }], guard := none }) rfl (fun K hK => ?_) AllReadyH.nil
                            go_simp
                            refine (LT.out _ _ _).mono ?_
                            rintro e x6 ⟨rfl, bX⟩
                            have orow := orow.later bX
                            have hN := hN.below bX
                            refine hK.out _ _ (hH.later bX) (fun hH => ?_)
                            refine wpAnyH_ready (rs := [8]) (by kernel_rfl) (by simp) ?_
                            refine AllReadyH.cons (o := { dst := some 64, op := Op.call { callee := Callee.value (Operand.func 12), args := #[Operand.tmp 57, Operand.tmp 58, Operand.tmp 63], argTypes := #[24, 28, 35] }, type := 31, pos := "outright.go:292", after := #[{ on := 1, ground := Ground.data }, { on := 2, ground := Ground.data }, { on := 7, ground := Ground.data }, { on := 7, ground := Ground.chain }], guard := none }) rfl (fun K hK => ?_) AllReadyH.nil
                            go_simp
                            refine (SK1.out _ _ orow.rd).mono ?_
                            rintro e x7 ⟨ra, rn, rc, rfl, rrow, bX⟩
                            have orow := orow.later bX
                            have hN := hN.below bX
                            have rrow := rrow.mono hH.bb.size
                            refine hK.out _ _ (hH.later bX) (fun hH => ?_)
                            refine wpAnyH_take (i := 9) (oi := { dst := some 55, op := Op.move (Operand.tmp 64), type := 31, pos := "outright.go:292", after := #[{ on := 8, ground := Ground.data }], guard := none }) (v := .tuple #[csV c1, .slice ra rn rc, .int .i64 0]) rfl (by kernel_rfl) (by kernel_rfl) (by kernel_rfl) (fun _ _ _ h => h) (Or.inl ⟨by rfl, fun w' h => by go_simp⟩) hH ?_
                            try simp only [Act.put, List.setIfInBounds_toArray, List.set_cons_zero, List.set_cons_succ]
                            refine wpAnyH_take (i := 10) (oi := { dst := some 65, op := Op.extract (Operand.tmp 55) 0, type := 28, pos := "outright.go:292", after := #[{ on := 9, ground := Ground.data }], guard := none }) (v := csV c1) rfl (by kernel_rfl) (by kernel_rfl) (by kernel_rfl) (fun _ _ _ h => h) (Or.inl ⟨by rfl, fun w' h => by go_simp⟩) hH ?_
                            try simp only [Act.put, List.setIfInBounds_toArray, List.set_cons_zero, List.set_cons_succ]
                            refine wpAnyH_take (i := 11) (oi := { dst := some 66, op := Op.extract (Operand.tmp 55) 1, type := 22, pos := "outright.go:292", after := #[{ on := 9, ground := Ground.data }, { on := 14, ground := Ground.gcOnly Departure.lateStores }], guard := none }) (v := .slice ra rn rc) rfl (by kernel_rfl) (by kernel_rfl) (by kernel_rfl) (fun _ _ _ h => h) (Or.inl ⟨by rfl, fun w' h => by go_simp⟩) hH ?_
                            try simp only [Act.put, List.setIfInBounds_toArray, List.set_cons_zero, List.set_cons_succ]
                            refine wpAnyH_take (i := 12) (oi := { dst := some 67, op := Op.extract (Operand.tmp 55) 2, type := 30, pos := "outright.go:292", after := #[{ on := 9, ground := Ground.data }, { on := 15, ground := Ground.gcOnly Departure.lateStores }], guard := none }) (v := .int .i64 0) rfl (by kernel_rfl) (by kernel_rfl) (by kernel_rfl) (fun _ _ _ h => h) (Or.inl ⟨by rfl, fun w' h => by go_simp⟩) hH ?_
                            try simp only [Act.put, List.setIfInBounds_toArray, List.set_cons_zero, List.set_cons_succ]
                            refine wpAnyH_ready (rs := [14]) (by kernel_rfl) (by simp) ?_
                            refine AllReadyH.cons (o := { dst := none, op := Op.store 28 (Operand.tmp 11) (Operand.tmp 65), type := 0, pos := "outright.go:292", after := #[{ on := 13, ground := Ground.data }, { on := 10, ground := Ground.data }, { on := 8, ground := Ground.chain }, { on := 0, ground := Ground.phase }, { on := 1, ground := Ground.phase }, { on := 2, ground := Ground.phase }, { on := 3, ground := Ground.phase }, { on := 4, ground := Ground.phase }, { on := 5, ground := Ground.phase }, { on := 6, ground := Ground.phase }, { on := 7, ground := Ground.phase }, { on := 8, ground := Ground.phase }, { on := 9, ground := Ground.phase }, { on := 10, ground := Ground.phase }, { on := 11, ground := Ground.textOnly Departure.lateStores }, { on := 12, ground := Ground.textOnly Departure.lateStores }, { on := 13, ground := Ground.phase }], guard := none }) rfl (fun K hK => ?_) AllReadyH.nil
                            refine op_putC (zs := csL ⟨0, false, 0, 0, 0, 0, 0, 0, 0, 0, 0, 0, 0, 0, 0⟩) (csL c1) rfl (sizeCsL _) (csL_one _) rfl _ _ rfl _ rfl rfl hN ?_
                            intro w9 b9 g9
                            have hZ := hH.grown hN g9 hG hp
                            have PX : Hid (ZZ w l s [(_, c1)] [(.slice ra rn rc, r1)] w9) := (hZ.addB b9 hp).addR (rowV_blk rrow hN g9 (by decide))
                            refine hK.out _ _ hZ (fun hH => ?_)
                            simp only [Act.put]
                            refine wpAnyH_take (i := 15) (oi := { dst := some 12, op := Op.assign (Operand.tmp 66), type := 22, pos := "outright.go:292", after := #[{ on := 11, ground := Ground.data }, { on := 14, ground := Ground.chain }, { on := 0, ground := Ground.phase }, { on := 1, ground := Ground.phase }, { on := 2, ground := Ground.phase }, { on := 3, ground := Ground.phase }, { on := 4, ground := Ground.phase }, { on := 5, ground := Ground.phase }, { on := 6, ground := Ground.phase }, { on := 7, ground := Ground.phase }, { on := 8, ground := Ground.phase }, { on := 9, ground := Ground.phase }, { on := 10, ground := Ground.phase }, { on := 11, ground := Ground.phase }, { on := 12, ground := Ground.textOnly Departure.lateStores }, { on := 13, ground := Ground.phase }, { on := 14, ground := Ground.phase }], guard := none }) (v := .slice ra rn rc) rfl (by kernel_rfl) (by kernel_rfl) (by kernel_rfl) (fun _ _ _ h => h) (Or.inl ⟨by rfl, fun w' h => by go_simp⟩) hH ?_
                            try simp only [Act.put, List.setIfInBounds_toArray, List.set_cons_zero, List.set_cons_succ]
                            refine wpAnyH_take (i := 16) (oi := { dst := some 13, op := Op.assign (Operand.tmp 67), type := 30, pos := "outright.go:292", after := #[{ on := 12, ground := Ground.data }, { on := 15, ground := Ground.chain }, { on := 0, ground := Ground.phase }, { on := 1, ground := Ground.phase }, { on := 2, ground := Ground.phase }, { on := 3, ground := Ground.phase }, { on := 4, ground := Ground.phase }, { on := 5, ground := Ground.phase }, { on := 6, ground := Ground.phase }, { on := 7, ground := Ground.phase }, { on := 8, ground := Ground.phase }, { on := 9, ground := Ground.phase }, { on := 10, ground := Ground.phase }, { on := 11, ground := Ground.phase }, { on := 12, ground := Ground.phase }, { on := 13, ground := Ground.phase }, { on := 14, ground := Ground.phase }, { on := 15, ground := Ground.phase }], guard := none }) (v := .int .i64 0) rfl (by kernel_rfl) (by kernel_rfl) (by kernel_rfl) (fun _ _ _ h => h) (Or.inl ⟨by rfl, fun w' h => by go_simp⟩) hH ?_
                            try simp only [Act.put, List.setIfInBounds_toArray, List.set_cons_zero, List.set_cons_succ]
                            refine wpAnyH_done (by kernel_rfl) ?_ _
                            clear hH hK b9 g9 hN hZ
                            go_wp2_with fail
                            go_meet
                            case rel => exact ⟨_, _, _, _, rfl, rfl, rfl, PX⟩
                        · go_simp
                          have hN : Blk x1.heap.size 28 (csL ⟨0, false, 0, 0, 0, 0, 0, 0, 0, 0, 0, 0, 0, 0, 0⟩) (x1.alloc (.cells #[.int .i64 0, .bool false, .int .i64 0, .int .i64 0, .int .i64 0, .int .i64 0, .int .i64 0, .int .i64 0, .int .i64 0, .int .i64 0, .int .i64 0, .int .i64 0, .int .i64 0, .int .i64 0, .int .i64 0] 28)) := Blk.new _ _ _
                          have hG := hH.lts
                          have hp : w.heap.size < x1.heap.size := hH.p.lt
                          have orow := orow.later (below_alloc x1 (.cells #[.int .i64 0, .bool false, .int .i64 0, .int .i64 0, .int .i64 0, .int .i64 0, .int .i64 0, .int .i64 0, .int .i64 0, .int .i64 0, .int .i64 0, .int .i64 0, .int .i64 0, .int .i64 0, .int .i64 0] 28))
                          refine hK.out _ _ (hH.later (below_alloc _ _)) (fun hH => ?_)
                          refine wpAnyH_ready (rs := [2]) (by kernel_rfl) (by simp) ?_
                          refine AllReadyH.cons (o := { dst := some 58, op := Op.call { callee := Callee.value (Operand.func 11), args := #[], argTypes := #[] }, type := 28, pos := "outright.go:292", after := #[{ on := 1, ground := Ground.chain }], guard := none }) rfl (fun K hK => ?_) AllReadyH.nil
                          go_simp
                          refine (FR.out _).mono ?_
                          rintro e x8 ⟨rfl, bX⟩
                          have orow := orow.later bX
                          have hN := hN.below bX
                          refine hK.out _ _ (hH.later bX) (fun hH => ?_)
                          refine wpAnyH_ready (rs := [7]) (by kernel_rfl) (by simp) ?_
                          refine AllReadyH.cons (o := { dst := some 63, op := Op.call { callee := Callee.value (Operand.func 16), args := #[Operand.tmp 59, Operand.tmp 62], argTypes := #[3, 3] }, type := 35, pos := "outright.go:292", after := #[{ on := 3, ground := Ground.data }, { on := 6, ground := Ground.data }, { on := 2, ground := Ground.chain }], guard := none }) rfl (fun K hK => ?_) AllReadyH.nil
                          go_simp
                          refine (LT.out _ _ _).mono ?_
                          rintro e x9 ⟨rfl, bX⟩
                          have orow := orow.later bX
                          have hN := hN.below bX
                          refine hK.out _ _ (hH.later bX) (fun hH => ?_)
                          refine wpAnyH_ready (rs := [8]) (by kernel_rfl) (by simp) ?_
                          refine AllReadyH.cons (o := { dst := some 64, op := Op.call { callee := Callee.value (Operand.func 12), args := #[Operand.tmp 57, Operand.tmp 58, Operand.tmp 63], argTypes := #[24, 28, 35] }, type := 31, pos := "outright.go:292", after := #[{ on := 1, ground := Ground.data }, { on := 2, ground := Ground.data }, { on := 7, ground := Ground.data }, { on := 7, ground := Ground.chain }], guard := none }) rfl (fun K hK => ?_) AllReadyH.nil
                          go_simp
                          refine (SK1.out _ _ orow.rd).mono ?_
                          rintro e x10 ⟨ra, rn, rc, rfl, rrow, bX⟩
                          have orow := orow.later bX
                          have hN := hN.below bX
                          have rrow := rrow.mono hH.bb.size
                          refine hK.out _ _ (hH.later bX) (fun hH => ?_)
                          refine wpAnyH_take (i := 9) (oi := { dst := some 55, op := Op.move (Operand.tmp 64), type := 31, pos := "outright.go:292", after := #[{ on := 8, ground := Ground.data }], guard := none }) (v := .tuple #[csV c1, .slice ra rn rc, .int .i64 0]) rfl (by kernel_rfl) (by kernel_rfl) (by kernel_rfl) (fun _ _ _ h => h) (Or.inl ⟨by rfl, fun w' h => by go_simp⟩) hH ?_
                          try simp only [Act.put, List.setIfInBounds_toArray, List.set_cons_zero, List.set_cons_succ]
                          refine wpAnyH_take (i := 10) (oi := { dst := some 65, op := Op.extract (Operand.tmp 55) 0, type := 28, pos := "outright.go:292", after := #[{ on := 9, ground := Ground.data }], guard := none }) (v := csV c1) rfl (by kernel_rfl) (by kernel_rfl) (by kernel_rfl) (fun _ _ _ h => h) (Or.inl ⟨by rfl, fun w' h => by go_simp⟩) hH ?_
                          try simp only [Act.put, List.setIfInBounds_toArray, List.set_cons_zero, List.set_cons_succ]
                          refine wpAnyH_take (i := 11) (oi := { dst := some 66, op := Op.extract (Operand.tmp 55) 1, type := 22, pos := "outright.go:292", after := #[{ on := 9, ground := Ground.data }, { on := 14, ground := Ground.gcOnly Departure.lateStores }], guard := none }) (v := .slice ra rn rc) rfl (by kernel_rfl) (by kernel_rfl) (by kernel_rfl) (fun _ _ _ h => h) (Or.inl ⟨by rfl, fun w' h => by go_simp⟩) hH ?_
                          try simp only [Act.put, List.setIfInBounds_toArray, List.set_cons_zero, List.set_cons_succ]
                          refine wpAnyH_take (i := 12) (oi := { dst := some 67, op := Op.extract (Operand.tmp 55) 2, type := 30, pos := "outright.go:292", after := #[{ on := 9, ground := Ground.data }, { on := 15, ground := Ground.gcOnly Departure.lateStores }], guard := none }) (v := .int .i64 0) rfl (by kernel_rfl) (by kernel_rfl) (by kernel_rfl) (fun _ _ _ h => h) (Or.inl ⟨by rfl, fun w' h => by go_simp⟩) hH ?_
                          try simp only [Act.put, List.setIfInBounds_toArray, List.set_cons_zero, List.set_cons_succ]
                          refine wpAnyH_ready (rs := [14]) (by kernel_rfl) (by simp) ?_
                          refine AllReadyH.cons (o := { dst := none, op := Op.store 28 (Operand.tmp 11) (Operand.tmp 65), type := 0, pos := "outright.go:292", after := #[{ on := 13, ground := Ground.data }, { on := 10, ground := Ground.data }, { on := 8, ground := Ground.chain }, { on := 0, ground := Ground.phase }, { on := 1, ground := Ground.phase }, { on := 2, ground := Ground.phase }, { on := 3, ground := Ground.phase }, { on := 4, ground := Ground.phase }, { on := 5, ground := Ground.phase }, { on := 6, ground := Ground.phase }, { on := 7, ground := Ground.phase }, { on := 8, ground := Ground.phase }, { on := 9, ground := Ground.phase }, { on := 10, ground := Ground.phase }, { on := 11, ground := Ground.textOnly Departure.lateStores }, { on := 12, ground := Ground.textOnly Departure.lateStores }, { on := 13, ground := Ground.phase }], guard := none }) rfl (fun K hK => ?_) AllReadyH.nil
                          refine op_putC (zs := csL ⟨0, false, 0, 0, 0, 0, 0, 0, 0, 0, 0, 0, 0, 0, 0⟩) (csL c1) rfl (sizeCsL _) (csL_one _) rfl _ _ rfl _ rfl rfl hN ?_
                          intro w9 b9 g9
                          have hZ := hH.grown hN g9 hG hp
                          have PX : Hid (ZZ w l s [(_, c1)] [(.slice ra rn rc, r1)] w9) := (hZ.addB b9 hp).addR (rowV_blk rrow hN g9 (by decide))
                          refine hK.out _ _ hZ (fun hH => ?_)
                          simp only [Act.put]
                          refine wpAnyH_take (i := 15) (oi := { dst := some 12, op := Op.assign (Operand.tmp 66), type := 22, pos := "outright.go:292", after := #[{ on := 11, ground := Ground.data }, { on := 14, ground := Ground.chain }, { on := 0, ground := Ground.phase }, { on := 1, ground := Ground.phase }, { on := 2, ground := Ground.phase }, { on := 3, ground := Ground.phase }, { on := 4, ground := Ground.phase }, { on := 5, ground := Ground.phase }, { on := 6, ground := Ground.phase }, { on := 7, ground := Ground.phase }, { on := 8, ground := Ground.phase }, { on := 9, ground := Ground.phase }, { on := 10, ground := Ground.phase }, { on := 11, ground := Ground.phase }, { on := 12, ground := Ground.textOnly Departure.lateStores }, { on := 13, ground := Ground.phase }, { on := 14, ground := Ground.phase }], guard := none }) (v := .slice ra rn rc) rfl (by kernel_rfl) (by kernel_rfl) (by kernel_rfl) (fun _ _ _ h => h) (Or.inl ⟨by rfl, fun w' h => by go_simp⟩) hH ?_
                          try simp only [Act.put, List.setIfInBounds_toArray, List.set_cons_zero, List.set_cons_succ]
                          refine wpAnyH_take (i := 16) (oi := { dst := some 13, op := Op.assign (Operand.tmp 67), type := 30, pos := "outright.go:292", after := #[{ on := 12, ground := Ground.data }, { on := 15, ground := Ground.chain }, { on := 0, ground := Ground.phase }, { on := 1, ground := Ground.phase }, { on := 2, ground := Ground.phase }, { on := 3, ground := Ground.phase }, { on := 4, ground := Ground.phase }, { on := 5, ground := Ground.phase }, { on := 6, ground := Ground.phase }, { on := 7, ground := Ground.phase }, { on := 8, ground := Ground.phase }, { on := 9, ground := Ground.phase }, { on := 10, ground := Ground.phase }, { on := 11, ground := Ground.phase }, { on := 12, ground := Ground.phase }, { on := 13, ground := Ground.phase }, { on := 14, ground := Ground.phase }, { on := 15, ground := Ground.phase }], guard := none }) (v := .int .i64 0) rfl (by kernel_rfl) (by kernel_rfl) (by kernel_rfl) (fun _ _ _ h => h) (Or.inl ⟨by rfl, fun w' h => by go_simp⟩) hH ?_
                          try simp only [Act.put, List.setIfInBounds_toArray, List.set_cons_zero, List.set_cons_succ]
                          refine wpAnyH_done (by kernel_rfl) ?_ _
                          clear hH hK b9 g9 hN hZ
                          go_wp2_with fail
                          go_meet
                          case rel => exact ⟨_, _, _, _, rfl, rfl, rfl, PX⟩
                      · go_simp
                        have hN : Blk w1.drew.heap.size 28 (csL ⟨0, false, 0, 0, 0, 0, 0, 0, 0, 0, 0, 0, 0, 0, 0⟩) (w1.drew.alloc (.cells #[.int .i64 0, .bool false, .int .i64 0, .int .i64 0, .int .i64 0, .int .i64 0, .int .i64 0, .int .i64 0, .int .i64 0, .int .i64 0, .int .i64 0, .int .i64 0, .int .i64 0, .int .i64 0, .int .i64 0] 28)) := Blk.new _ _ _
                        have hG := hH.lts
                        have hp : w.heap.size < w1.drew.heap.size := hH.p.lt
                        refine hK.out _ _ (hH.later (below_alloc _ _)) (fun hH => ?_)
                        refine wpAnyH_ready (rs := [1]) (by kernel_rfl) (by simp) ?_
                        refine AllReadyH.cons (o := { dst := some 57, op := Op.call { callee := Callee.value (Operand.func 13), args := #[Operand.tmp 56], argTypes := #[24] }, type := 24, pos := "outright.go:292", after := #[{ on := 0, ground := Ground.data }], guard := none }) rfl (fun K hK => ?_) AllReadyH.nil
                        go_simp
                        refine (OW.out _ hH.bb).mono ?_
                        rintro e x11 ⟨oa, on, oc, rfl, orow, bX⟩
                        have hN := hN.below bX
                        refine hK.out _ _ (hH.later bX) (fun hH => ?_)
                        refine wpAnyH_ready (rs := [2]) (by kernel_rfl) (by simp) ?_
                        refine AllReadyH.cons (o := { dst := some 58, op := Op.call { callee := Callee.value (Operand.func 11), args := #[], argTypes := #[] }, type := 28, pos := "outright.go:292", after := #[{ on := 1, ground := Ground.chain }], guard := none }) rfl (fun K hK => ?_) AllReadyH.nil
                        go_simp
                        refine (FR.out _).mono ?_
                        rintro e x12 ⟨rfl, bX⟩
                        have hN := hN.below bX
                        have orow := orow.later bX
                        refine hK.out _ _ (hH.later bX) (fun hH => ?_)
                        refine wpAnyH_ready (rs := [7]) (by kernel_rfl) (by simp) ?_
                        refine AllReadyH.cons (o := { dst := some 63, op := Op.call { callee := Callee.value (Operand.func 16), args := #[Operand.tmp 59, Operand.tmp 62], argTypes := #[3, 3] }, type := 35, pos := "outright.go:292", after := #[{ on := 3, ground := Ground.data }, { on := 6, ground := Ground.data }, { on := 2, ground := Ground.chain }], guard := none }) rfl (fun K hK => ?_) AllReadyH.nil
                        go_simp
                        refine (LT.out _ _ _).mono ?_
                        rintro e x13 ⟨rfl, bX⟩
                        have hN := hN.below bX
                        have orow := orow.later bX
                        refine hK.out _ _ (hH.later bX) (fun hH => ?_)
                        refine wpAnyH_ready (rs := [8]) (by kernel_rfl) (by simp) ?_
                        refine AllReadyH.cons (o := { dst := some 64, op := Op.call { callee := Callee.value (Operand.func 12), args := #[Operand.tmp 57, Operand.tmp 58, Operand.tmp 63], argTypes := #[24, 28, 35] }, type := 31, pos := "outright.go:292", after := #[{ on := 1, ground := Ground.data }, { on := 2, ground := Ground.data }, { on := 7, ground := Ground.data }, { on := 7, ground := Ground.chain }], guard := none }) rfl (fun K hK => ?_) AllReadyH.nil
                        go_simp
                        refine (SK1.out _ _ orow.rd).mono ?_
                        rintro e x14 ⟨ra, rn, rc, rfl, rrow, bX⟩
                        have hN := hN.below bX
                        have orow := orow.later bX
                        have rrow := rrow.mono hH.bb.size
                        refine hK.out _ _ (hH.later bX) (fun hH => ?_)
                        refine wpAnyH_take (i := 9) (oi := { dst := some 55, op := Op.move (Operand.tmp 64), type := 31, pos := "outright.go:292", after := #[{ on := 8, ground := Ground.data }], guard := none }) (v := .tuple #[csV c1, .slice ra rn rc, .int .i64 0]) rfl (by kernel_rfl) (by kernel_rfl) (by kernel_rfl) (fun _ _ _ h => h) (Or.inl ⟨by rfl, fun w' h => by go_simp⟩) hH ?_
                        try simp only [Act.put, List.setIfInBounds_toArray, List.set_cons_zero, List.set_cons_succ]
                        refine wpAnyH_take (i := 10) (oi := { dst := some 65, op := Op.extract (Operand.tmp 55) 0, type := 28, pos := "outright.go:292", after := #[{ on := 9, ground := Ground.data }], guard := none }) (v := csV c1) rfl (by kernel_rfl) (by kernel_rfl) (by kernel_rfl) (fun _ _ _ h => h) (Or.inl ⟨by rfl, fun w' h => by go_simp⟩) hH ?_
                        try simp only [Act.put, List.setIfInBounds_toArray, List.set_cons_zero, List.set_cons_succ]
                        refine wpAnyH_take (i := 11) (oi := { dst := some 66, op := Op.extract (Operand.tmp 55) 1, type := 22, pos := "outright.go:292", after := #[{ on := 9, ground := Ground.data }, { on := 14, ground := Ground.gcOnly Departure.lateStores }], guard := none }) (v := .slice ra rn rc) rfl (by kernel_rfl) (by kernel_rfl) (by kernel_rfl) (fun _ _ _ h => h) (Or.inl ⟨by rfl, fun w' h => by go_simp⟩) hH ?_
                        try simp only [Act.put, List.setIfInBounds_toArray, List.set_cons_zero, List.set_cons_succ]
                        refine wpAnyH_take (i := 12) (oi := { dst := some 67, op := Op.extract (Operand.tmp 55) 2, type := 30, pos := "outright.go:292", after := #[{ on := 9, ground := Ground.data }, { on := 15, ground := Ground.gcOnly Departure.lateStores }], guard := none }) (v := .int .i64 0) rfl (by kernel_rfl) (by kernel_rfl) (by kernel_rfl) (fun _ _ _ h => h) (Or.inl ⟨by rfl, fun w' h => by go_simp⟩) hH ?_
                        try simp only [Act.put, List.setIfInBounds_toArray, List.set_cons_zero, List.set_cons_succ]
                        refine wpAnyH_ready (rs := [14]) (by kernel_rfl) (by simp) ?_
                        refine AllReadyH.cons (o := { dst := none, op := Op.store 28 (Operand.tmp 11) (Operand.tmp 65), type := 0, pos := "outright.go:292", after := #[{ on := 13, ground := Ground.data }, { on := 10, ground := Ground.data }, { on := 8, ground := Ground.chain }, { on := 0, ground := Ground.phase }, { on := 1, ground := Ground.phase }, { on := 2, ground := Ground.phase }, { on := 3, ground := Ground.phase }, { on := 4, ground := Ground.phase }, { on := 5, ground := Ground.phase }, { on := 6, ground := Ground.phase }, { on := 7, ground := Ground.phase }, { on := 8, ground := Ground.phase }, { on := 9, ground := Ground.phase }, { on := 10, ground := Ground.phase }, { on := 11, ground := Ground.textOnly Departure.lateStores }, { on := 12, ground := Ground.textOnly Departure.lateStores }, { on := 13, ground := Ground.phase }], guard := none }) rfl (fun K hK => ?_) AllReadyH.nil
                        refine op_putC (zs := csL ⟨0, false, 0, 0, 0, 0, 0, 0, 0, 0, 0, 0, 0, 0, 0⟩) (csL c1) rfl (sizeCsL _) (csL_one _) rfl _ _ rfl _ rfl rfl hN ?_
                        intro w9 b9 g9
                        have hZ := hH.grown hN g9 hG hp
                        have PX : Hid (ZZ w l s [(_, c1)] [(.slice ra rn rc, r1)] w9) := (hZ.addB b9 hp).addR (rowV_blk rrow hN g9 (by decide))
                        refine hK.out _ _ hZ (fun hH => ?_)
                        simp only [Act.put]
                        refine wpAnyH_take (i := 15) (oi := { dst := some 12, op := Op.assign (Operand.tmp 66), type := 22, pos := "outright.go:292", after := #[{ on := 11, ground := Ground.data }, { on := 14, ground := Ground.chain }, { on := 0, ground := Ground.phase }, { on := 1, ground := Ground.phase }, { on := 2, ground := Ground.phase }, { on := 3, ground := Ground.phase }, { on := 4, ground := Ground.phase }, { on := 5, ground := Ground.phase }, { on := 6, ground := Ground.phase }, { on := 7, ground := Ground.phase }, { on := 8, ground := Ground.phase }, { on := 9, ground := Ground.phase }, { on := 10, ground := Ground.phase }, { on := 11, ground := Ground.phase }, { on := 12, ground := Ground.textOnly Departure.lateStores }, { on := 13, ground := Ground.phase }, { on := 14, ground := Ground.phase }], guard := none }) (v := .slice ra rn rc) rfl (by kernel_rfl) (by kernel_rfl) (by kernel_rfl) (fun _ _ _ h => h) (Or.inl ⟨by rfl, fun w' h => by go_simp⟩) hH ?_
                        try simp only [Act.put, List.setIfInBounds_toArray, List.set_cons_zero, List.set_cons_succ]
                        refine wpAnyH_take (i := 16) (oi := { dst := some 13, op := Op.assign (Operand.tmp 67), type := 30, pos := "outright.go:292", after := #[{ on := 12, ground := Ground.data }, { on := 15, ground := Ground.chain }, { on := 0, ground := Ground.phase }, { on := 1, ground := Ground.phase }, { on := 2, ground := Ground.phase }, { on := 3, ground := Ground.phase }, { on := 4, ground := Ground.phase }, { on := 5, ground := Ground.phase }, { on := 6, ground := Ground.phase }, { on := 7, ground := Ground.phase }, { on := 8, ground := Ground.phase }, { on := 9, ground := Ground.phase }, { on := 10, ground := Ground.phase }, { on := 11, ground := Ground.phase }, { on := 12, ground := Ground.phase }, { on := 13, ground := Ground.phase }, { on := 14, ground := Ground.phase }, { on := 15, ground := Ground.phase }], guard := none }) (v := .int .i64 0) rfl (by kernel_rfl) (by kernel_rfl) (by kernel_rfl) (fun _ _ _ h => h) (Or.inl ⟨by rfl, fun w' h => by go_simp⟩) hH ?_
                        try simp only [Act.put, List.setIfInBounds_toArray, List.set_cons_zero, List.set_cons_succ]
                        refine wpAnyH_done (by kernel_rfl) ?_ _
                        clear hH hK b9 g9 hN hZ
                        go_wp2_with fail
                        go_meet
                        case rel => exact ⟨_, _, _, _, rfl, rfl, rfl, PX⟩
                    case rest =>
                      obtain ⟨CB, ra, rn, rc, rfl, rfl, rfl, SA⟩ := hcut
                      have S5 : Hid (ZZ w l s [(CB, c1)] [] wc) := SA.out.sub (by simp) (by simp)
                      clear SA Y1
                      generalize hv12 : Value.slice ra rn rc = v12 at *
                      clear hv12
                      go_upto_region 8 with fail
                      go_cut [13] from 18 to 226 (fun v13 wx => v13 = .int .i64 0 ∧ Hid (ZZ w l s [(CB, c2)] [] wx))
                      case first => as_aux_lemma =>
                        have hu := Try.underlying24
                        have hi := SZ.out
                        have hu2 := Try.underlying28
                        refine wp_region_held_drew (S := fun w' => ∃ c', ZZ w l s [(CB, c')] [] w') (by kernel_rfl) (⟨c1, S5.out.drew⟩) (fun hH => ?_)
                        have hC : ZZ w l s [(CB, c1)] [] wc.drew := S5.out.drew
                        refine wpAnyH_take (i := 0) (oi := { dst := some 71, op := Op.load 24 (Operand.tmp 5), type := 24, pos := "outright.go:296", after := #[], guard := none }) (v := .agg (polL l s).toArray) rfl (by kernel_rfl) (by kernel_rfl) (by kernel_rfl) (fun _ _ _ h => h) (yieldsIf_load_mid (by rfl) _ _ rfl w.heap.size 0 rfl (polL l s) _ (fun w' h => (by obtain ⟨c', h⟩ := h; exact h.p.all)) hu rfl hi) hH ?_
                        try simp only [Act.put, List.setIfInBounds_toArray, List.set_cons_zero, List.set_cons_succ]
                        refine wpAnyH_take (i := 3) (oi := { dst := some 74, op := Op.move (Operand.tmp 1), type := 3, pos := "outright.go:296", after := #[], guard := none }) (v := .int .i64 t) rfl (by kernel_rfl) (by kernel_rfl) (by kernel_rfl) (fun _ _ _ h => h) (Or.inl ⟨by rfl, fun w' h => by go_simp⟩) hH ?_
                        try simp only [Act.put, List.setIfInBounds_toArray, List.set_cons_zero, List.set_cons_succ]
                        refine wpAnyH_take (i := 4) (oi := { dst := some 75, op := Op.move (Operand.tmp 2), type := 3, pos := "outright.go:296", after := #[], guard := none }) (v := .int .i64 d) rfl (by kernel_rfl) (by kernel_rfl) (by kernel_rfl) (fun _ _ _ h => h) (Or.inl ⟨by rfl, fun w' h => by go_simp⟩) hH ?_
                        try simp only [Act.put, List.setIfInBounds_toArray, List.set_cons_zero, List.set_cons_succ]
                        refine wpAnyH_take (i := 5) (oi := { dst := some 76, op := Op.move (Operand.tmp 3), type := 2, pos := "outright.go:296", after := #[], guard := none }) (v := .int .i64 a) rfl (by kernel_rfl) (by kernel_rfl) (by kernel_rfl) (fun _ _ _ h => h) (Or.inl ⟨by rfl, fun w' h => by go_simp⟩) hH ?_
                        try simp only [Act.put, List.setIfInBounds_toArray, List.set_cons_zero, List.set_cons_succ]
                        refine wpAnyH_take (i := 6) (oi := { dst := some 77, op := Op.build 35 #[(0, Operand.const (Value.int IntKind.i64 4)), (1, Operand.tmp 74), (2, Operand.tmp 75), (3, Operand.tmp 76)], type := 35, pos := "outright.go:296", after := #[{ on := 3, ground := Ground.data }, { on := 4, ground := Ground.data }, { on := 5, ground := Ground.data }], guard := none }) (v := .agg #[.int .i64 4, .int .i64 t, .int .i64 d, .int .i64 a]) rfl (by kernel_rfl) (by kernel_rfl) (by kernel_rfl) (fun _ _ _ h => h) (Or.inl ⟨by rfl, fun w' h => by go_simp⟩) hH ?_
                        try simp only [Act.put, List.setIfInBounds_toArray, List.set_cons_zero, List.set_cons_succ]
                        refine wpAnyH_ready (rs := [1, 2]) (by kernel_rfl) (by simp) ?_
                        refine AllReadyH.cons (o := { dst := some 72, op := Op.call { callee := Callee.value (Operand.func 13), args := #[Operand.tmp 71], argTypes := #[24] }, type := 24, pos := "outright.go:296", after := #[{ on := 0, ground := Ground.data }], guard := none }) rfl (fun K hK => ?_) (AllReadyH.cons (o := { dst := some 73, op := Op.load 28 (Operand.tmp 11), type := 28, pos := "outright.go:296", after := #[], guard := none }) rfl (fun K hK => ?_) AllReadyH.nil)
                        · go_simp
                          refine (OW.out _ hC.bb).mono ?_
                          rintro e x1 ⟨oa, on, oc, rfl, orow, bX⟩
                          have hC := hC.later bX
                          refine hK.out _ _ ⟨_, hC⟩ (fun hH => ?_)
                          refine wpAnyH_ready (rs := [2]) (by kernel_rfl) (by simp) ?_
                          refine AllReadyH.cons (o := { dst := some 73, op := Op.load 28 (Operand.tmp 11), type := 28, pos := "outright.go:296", after := #[], guard := none }) rfl (fun K hK => ?_) AllReadyH.nil
                          refine op_loadC rfl 28 _ rfl CB 0 rfl (csL c1) _ (Blk.all (hC.b (CB, c1) (by simp))) Try.underlying28 rfl (sizeCsL _) ?_
                          refine hK.out _ _ ⟨_, hC⟩ (fun hH => ?_)
                          simp only [Act.put]
                          refine wpAnyH_ready (rs := [7]) (by kernel_rfl) (by simp) ?_
                          refine AllReadyH.cons (o := { dst := some 78, op := Op.call { callee := Callee.value (Operand.func 12), args := #[Operand.tmp 72, Operand.tmp 73, Operand.tmp 77], argTypes := #[24, 28, 35] }, type := 31, pos := "outright.go:296", after := #[{ on := 1, ground := Ground.data }, { on := 2, ground := Ground.data }, { on := 6, ground := Ground.data }, { on := 1, ground := Ground.chain }], guard := none }) rfl (fun K hK => ?_) AllReadyH.nil
                          go_simp
                          refine (SK2.out _ _ orow.rd).mono ?_
                          rintro e x9 ⟨ra, rn, rc, rfl, rrow, bX⟩
                          have rrow := rrow.mono hC.bb.size
                          have hC := hC.later bX
                          refine hK.out _ _ ⟨_, hC⟩ (fun hH => ?_)
                          refine wpAnyH_take (i := 8) (oi := { dst := some 70, op := Op.move (Operand.tmp 78), type := 31, pos := "outright.go:296", after := #[{ on := 7, ground := Ground.data }], guard := none }) (v := .tuple #[csV c2, .slice ra rn rc, .int .i64 0]) rfl (by kernel_rfl) (by kernel_rfl) (by kernel_rfl) (fun _ _ _ h => h) (Or.inl ⟨by rfl, fun w' h => by go_simp⟩) hH ?_
                          try simp only [Act.put, List.setIfInBounds_toArray, List.set_cons_zero, List.set_cons_succ]
                          refine wpAnyH_take (i := 9) (oi := { dst := some 79, op := Op.extract (Operand.tmp 70) 0, type := 28, pos := "outright.go:296", after := #[{ on := 8, ground := Ground.data }], guard := none }) (v := csV c2) rfl (by kernel_rfl) (by kernel_rfl) (by kernel_rfl) (fun _ _ _ h => h) (Or.inl ⟨by rfl, fun w' h => by go_simp⟩) hH ?_
                          try simp only [Act.put, List.setIfInBounds_toArray, List.set_cons_zero, List.set_cons_succ]
                          refine wpAnyH_take (i := 10) (oi := { dst := some 80, op := Op.extract (Operand.tmp 70) 1, type := 22, pos := "outright.go:296", after := #[{ on := 8, ground := Ground.data }, { on := 12, ground := Ground.gcOnly Departure.lateStores }], guard := none }) (v := .slice ra rn rc) rfl (by kernel_rfl) (by kernel_rfl) (by kernel_rfl) (fun _ _ _ h => h) (Or.inl ⟨by rfl, fun w' h => by go_simp⟩) hH ?_
                          try simp only [Act.put, List.setIfInBounds_toArray, List.set_cons_zero, List.set_cons_succ]
                          refine wpAnyH_take (i := 11) (oi := { dst := some 81, op := Op.extract (Operand.tmp 70) 2, type := 30, pos := "outright.go:296", after := #[{ on := 8, ground := Ground.data }, { on := 12, ground := Ground.gcOnly Departure.lateStores }], guard := none }) (v := .int .i64 0) rfl (by kernel_rfl) (by kernel_rfl) (by kernel_rfl) (fun _ _ _ h => h) (Or.inl ⟨by rfl, fun w' h => by go_simp⟩) hH ?_
                          try simp only [Act.put, List.setIfInBounds_toArray, List.set_cons_zero, List.set_cons_succ]
                          refine wpAnyH_ready (rs := [12]) (by kernel_rfl) (by simp) ?_
                          refine AllReadyH.cons (o := { dst := none, op := Op.store 28 (Operand.tmp 11) (Operand.tmp 79), type := 0, pos := "outright.go:296", after := #[{ on := 9, ground := Ground.data }, { on := 7, ground := Ground.chain }, { on := 0, ground := Ground.phase }, { on := 1, ground := Ground.phase }, { on := 2, ground := Ground.phase }, { on := 3, ground := Ground.phase }, { on := 4, ground := Ground.phase }, { on := 5, ground := Ground.phase }, { on := 6, ground := Ground.phase }, { on := 7, ground := Ground.phase }, { on := 8, ground := Ground.phase }, { on := 9, ground := Ground.phase }, { on := 10, ground := Ground.textOnly Departure.lateStores }, { on := 11, ground := Ground.textOnly Departure.lateStores }], guard := none }) rfl (fun K hK => ?_) AllReadyH.nil
                          refine op_putC (zs := csL c1) (csL c2) rfl (sizeCsL _) (csL_one _) rfl _ _ rfl _ rfl rfl (hC.b (CB, c1) (by simp)) ?_
                          intro w9 b9 g9
                          have hZ : ZZ w l s [(CB, c2)] [] w9 := hC.put b9 g9 (by simp)
                          have PX : Hid (ZZ w l s [(CB, c2)] [] w9) := hZ
                          have RX : Hid (RowV 3 w.heap.size w9 (.slice ra rn rc) (bkL [])) := rowV_blk rrow (hC.b (CB, c1) (by simp)) g9 (by decide)
                          refine hK.out _ _ ⟨_, hZ⟩ (fun hH => ?_)
                          simp only [Act.put]
                          refine wpAnyH_take (i := 13) (oi := { dst := some 13, op := Op.assign (Operand.tmp 81), type := 30, pos := "outright.go:296", after := #[{ on := 11, ground := Ground.data }, { on := 12, ground := Ground.chain }, { on := 0, ground := Ground.phase }, { on := 1, ground := Ground.phase }, { on := 2, ground := Ground.phase }, { on := 3, ground := Ground.phase }, { on := 4, ground := Ground.phase }, { on := 5, ground := Ground.phase }, { on := 6, ground := Ground.phase }, { on := 7, ground := Ground.phase }, { on := 8, ground := Ground.phase }, { on := 9, ground := Ground.phase }, { on := 10, ground := Ground.phase }, { on := 11, ground := Ground.phase }, { on := 12, ground := Ground.phase }], guard := none }) (v := .int .i64 0) rfl (by kernel_rfl) (by kernel_rfl) (by kernel_rfl) (fun _ _ _ h => h) (Or.inl ⟨by rfl, fun w' h => by go_simp⟩) hH ?_
                          try simp only [Act.put, List.setIfInBounds_toArray, List.set_cons_zero, List.set_cons_succ]
                          refine wpAnyH_done (by kernel_rfl) ?_ _
                          clear hH hK b9 g9 hZ hC
                          go_wp2_with fail
                          go_meet
                          case rel => exact ⟨rfl, PX⟩
                        · refine op_loadC rfl 28 _ rfl CB 0 rfl (csL c1) _ (Blk.all (hC.b (CB, c1) (by simp))) Try.underlying28 rfl (sizeCsL _) ?_
                          refine hK.out _ _ ⟨_, hC⟩ (fun hH => ?_)
                          simp only [Act.put]
                          refine wpAnyH_ready (rs := [1]) (by kernel_rfl) (by simp) ?_
                          refine AllReadyH.cons (o := { dst := some 72, op := Op.call { callee := Callee.value (Operand.func 13), args := #[Operand.tmp 71], argTypes := #[24] }, type := 24, pos := "outright.go:296", after := #[{ on := 0, ground := Ground.data }], guard := none }) rfl (fun K hK => ?_) AllReadyH.nil
                          go_simp
                          refine (OW.out _ hC.bb).mono ?_
                          rintro e x1 ⟨oa, on, oc, rfl, orow, bX⟩
                          have hC := hC.later bX
                          refine hK.out _ _ ⟨_, hC⟩ (fun hH => ?_)
                          refine wpAnyH_ready (rs := [7]) (by kernel_rfl) (by simp) ?_
                          refine AllReadyH.cons (o := { dst := some 78, op := Op.call { callee := Callee.value (Operand.func 12), args := #[Operand.tmp 72, Operand.tmp 73, Operand.tmp 77], argTypes := #[24, 28, 35] }, type := 31, pos := "outright.go:296", after := #[{ on := 1, ground := Ground.data }, { on := 2, ground := Ground.data }, { on := 6, ground := Ground.data }, { on := 1, ground := Ground.chain }], guard := none }) rfl (fun K hK => ?_) AllReadyH.nil
                          go_simp
                          refine (SK2.out _ _ orow.rd).mono ?_
                          rintro e x9 ⟨ra, rn, rc, rfl, rrow, bX⟩
                          have rrow := rrow.mono hC.bb.size
                          have hC := hC.later bX
                          refine hK.out _ _ ⟨_, hC⟩ (fun hH => ?_)
                          refine wpAnyH_take (i := 8) (oi := { dst := some 70, op := Op.move (Operand.tmp 78), type := 31, pos := "outright.go:296", after := #[{ on := 7, ground := Ground.data }], guard := none }) (v := .tuple #[csV c2, .slice ra rn rc, .int .i64 0]) rfl (by kernel_rfl) (by kernel_rfl) (by kernel_rfl) (fun _ _ _ h => h) (Or.inl ⟨by rfl, fun w' h => by go_simp⟩) hH ?_
                          try simp only [Act.put, List.setIfInBounds_toArray, List.set_cons_zero, List.set_cons_succ]
                          refine wpAnyH_take (i := 9) (oi := { dst := some 79, op := Op.extract (Operand.tmp 70) 0, type := 28, pos := "outright.go:296", after := #[{ on := 8, ground := Ground.data }], guard := none }) (v := csV c2) rfl (by kernel_rfl) (by kernel_rfl) (by kernel_rfl) (fun _ _ _ h => h) (Or.inl ⟨by rfl, fun w' h => by go_simp⟩) hH ?_
                          try simp only [Act.put, List.setIfInBounds_toArray, List.set_cons_zero, List.set_cons_succ]
                          refine wpAnyH_take (i := 10) (oi := { dst := some 80, op := Op.extract (Operand.tmp 70) 1, type := 22, pos := "outright.go:296", after := #[{ on := 8, ground := Ground.data }, { on := 12, ground := Ground.gcOnly Departure.lateStores }], guard := none }) (v := .slice ra rn rc) rfl (by kernel_rfl) (by kernel_rfl) (by kernel_rfl) (fun _ _ _ h => h) (Or.inl ⟨by rfl, fun w' h => by go_simp⟩) hH ?_
                          try simp only [Act.put, List.setIfInBounds_toArray, List.set_cons_zero, List.set_cons_succ]
                          refine wpAnyH_take (i := 11) (oi := { dst := some 81, op := Op.extract (Operand.tmp 70) 2, type := 30, pos := "outright.go:296", after := #[{ on := 8, ground := Ground.data }, { on := 12, ground := Ground.gcOnly Departure.lateStores }], guard := none }) (v := .int .i64 0) rfl (by kernel_rfl) (by kernel_rfl) (by kernel_rfl) (fun _ _ _ h => h) (Or.inl ⟨by rfl, fun w' h => by go_simp⟩) hH ?_
                          try simp only [Act.put, List.setIfInBounds_toArray, List.set_cons_zero, List.set_cons_succ]
                          refine wpAnyH_ready (rs := [12]) (by kernel_rfl) (by simp) ?_
                          refine AllReadyH.cons (o := { dst := none, op := Op.store 28 (Operand.tmp 11) (Operand.tmp 79), type := 0, pos := "outright.go:296", after := #[{ on := 9, ground := Ground.data }, { on := 7, ground := Ground.chain }, { on := 0, ground := Ground.phase }, { on := 1, ground := Ground.phase }, { on := 2, ground := Ground.phase }, { on := 3, ground := Ground.phase }, { on := 4, ground := Ground.phase }, { on := 5, ground := Ground.phase }, { on := 6, ground := Ground.phase }, { on := 7, ground := Ground.phase }, { on := 8, ground := Ground.phase }, { on := 9, ground := Ground.phase }, { on := 10, ground := Ground.textOnly Departure.lateStores }, { on := 11, ground := Ground.textOnly Departure.lateStores }], guard := none }) rfl (fun K hK => ?_) AllReadyH.nil
                          refine op_putC (zs := csL c1) (csL c2) rfl (sizeCsL _) (csL_one _) rfl _ _ rfl _ rfl rfl (hC.b (CB, c1) (by simp)) ?_
                          intro w9 b9 g9
                          have hZ : ZZ w l s [(CB, c2)] [] w9 := hC.put b9 g9 (by simp)
                          have PX : Hid (ZZ w l s [(CB, c2)] [] w9) := hZ
                          have RX : Hid (RowV 3 w.heap.size w9 (.slice ra rn rc) (bkL [])) := rowV_blk rrow (hC.b (CB, c1) (by simp)) g9 (by decide)
                          refine hK.out _ _ ⟨_, hZ⟩ (fun hH => ?_)
                          simp only [Act.put]
                          refine wpAnyH_take (i := 13) (oi := { dst := some 13, op := Op.assign (Operand.tmp 81), type := 30, pos := "outright.go:296", after := #[{ on := 11, ground := Ground.data }, { on := 12, ground := Ground.chain }, { on := 0, ground := Ground.phase }, { on := 1, ground := Ground.phase }, { on := 2, ground := Ground.phase }, { on := 3, ground := Ground.phase }, { on := 4, ground := Ground.phase }, { on := 5, ground := Ground.phase }, { on := 6, ground := Ground.phase }, { on := 7, ground := Ground.phase }, { on := 8, ground := Ground.phase }, { on := 9, ground := Ground.phase }, { on := 10, ground := Ground.phase }, { on := 11, ground := Ground.phase }, { on := 12, ground := Ground.phase }], guard := none }) (v := .int .i64 0) rfl (by kernel_rfl) (by kernel_rfl) (by kernel_rfl) (fun _ _ _ h => h) (Or.inl ⟨by rfl, fun w' h => by go_simp⟩) hH ?_
                          try simp only [Act.put, List.setIfInBounds_toArray, List.set_cons_zero, List.set_cons_succ]
                          refine wpAnyH_done (by kernel_rfl) ?_ _
                          clear hH hK b9 g9 hZ hC
                          go_wp2_with fail
                          go_meet
                          case rel => exact ⟨rfl, PX⟩
                      case rest =>
                        obtain ⟨rfl, S8⟩ := hcut
                        clear S5
                        have g0 : wc.cell? ⟨CB, 0, none⟩ = some (.int .i64 4) := by rw [← f1]; exact (S8.out.b (CB, c2) (by simp)).cell 0 _ rfl
                        have g6 : wc.cell? ⟨CB, 6, none⟩ = some (.int .i64 (wrap64 (t + d))) := by rw [← f2]; exact (S8.out.b (CB, c2) (by simp)).cell 6 _ rfl
                        have g4 : wc.cell? ⟨CB, 4, none⟩ = some (.int .i64 (wrap64 (wrap64 (t + CO) + d))) := by rw [← f3]; exact (S8.out.b (CB, c2) (by simp)).cell 4 _ rfl
                        have p3 := PC3.out _ S8.out.p
                        go_upto_region 11 with fail
                        go_cut [13, 14] from 18 to 226 (fun v13 v14 wx => ∃ ra rn rc, v14 = .slice ra rn rc ∧ v13 = .int .i64 0 ∧ Hid (ZZ w l s [(CB, c3)] [] wx) ∧ Hid (RowV 3 w.heap.size wx (.slice ra rn rc) (bkL [])))
                        case first => as_aux_lemma =>
                          have hu := Try.underlying24
                          have hi := SZ.out
                          have hu2 := Try.underlying28
                          refine wp_region_held_drew (S := fun w' => ∃ c', ZZ w l s [(CB, c')] [] w') (by kernel_rfl) (⟨c2, S8.out.drew⟩) (fun hH => ?_)
                          have hC : ZZ w l s [(CB, c2)] [] wc.drew := S8.out.drew
                          refine wpAnyH_take (i := 0) (oi := { dst := some 109, op := Op.load 24 (Operand.tmp 5), type := 24, pos := "outright.go:300", after := #[], guard := none }) (v := .agg (polL l s).toArray) rfl (by kernel_rfl) (by kernel_rfl) (by kernel_rfl) (fun _ _ _ h => h) (yieldsIf_load_mid (by rfl) _ _ rfl w.heap.size 0 rfl (polL l s) _ (fun w' h => (by obtain ⟨c', h⟩ := h; exact h.p.all)) hu rfl hi) hH ?_
                          try simp only [Act.put, List.setIfInBounds_toArray, List.set_cons_zero, List.set_cons_succ]
                          refine wpAnyH_take (i := 3) (oi := { dst := some 112, op := Op.move (Operand.tmp 4), type := 2, pos := "outright.go:300", after := #[], guard := none }) (v := .int .i64 b) rfl (by kernel_rfl) (by kernel_rfl) (by kernel_rfl) (fun _ _ _ h => h) (Or.inl ⟨by rfl, fun w' h => by go_simp⟩) hH ?_
                          try simp only [Act.put, List.setIfInBounds_toArray, List.set_cons_zero, List.set_cons_succ]
                          refine wpAnyH_take (i := 4) (oi := { dst := some 113, op := Op.build 35 #[(0, Operand.const (Value.int IntKind.i64 2)), (2, Operand.const (Value.int IntKind.i64 1)), (3, Operand.tmp 112)], type := 35, pos := "outright.go:300", after := #[{ on := 3, ground := Ground.data }], guard := none }) (v := .agg #[.int .i64 2, .int .i64 0, .int .i64 1, .int .i64 b]) rfl (by kernel_rfl) (by kernel_rfl) (by kernel_rfl) (fun _ _ _ h => h) (Or.inl ⟨by rfl, fun w' h => by go_simp⟩) hH ?_
                          try simp only [Act.put, List.setIfInBounds_toArray, List.set_cons_zero, List.set_cons_succ]
                          refine wpAnyH_ready (rs := [1, 2]) (by kernel_rfl) (by simp) ?_
                          refine AllReadyH.cons (o := { dst := some 110, op := Op.call { callee := Callee.value (Operand.func 13), args := #[Operand.tmp 109], argTypes := #[24] }, type := 24, pos := "outright.go:300", after := #[{ on := 0, ground := Ground.data }], guard := none }) rfl (fun K hK => ?_) (AllReadyH.cons (o := { dst := some 111, op := Op.load 28 (Operand.tmp 11), type := 28, pos := "outright.go:300", after := #[], guard := none }) rfl (fun K hK => ?_) AllReadyH.nil)
                          · go_simp
                            refine (OW.out _ hC.bb).mono ?_
                            rintro e x1 ⟨oa, on, oc, rfl, orow, bX⟩
                            have hC := hC.later bX
                            refine hK.out _ _ ⟨_, hC⟩ (fun hH => ?_)
                            refine wpAnyH_ready (rs := [2]) (by kernel_rfl) (by simp) ?_
                            refine AllReadyH.cons (o := { dst := some 111, op := Op.load 28 (Operand.tmp 11), type := 28, pos := "outright.go:300", after := #[], guard := none }) rfl (fun K hK => ?_) AllReadyH.nil
                            refine op_loadC rfl 28 _ rfl CB 0 rfl (csL c2) _ (Blk.all (hC.b (CB, c2) (by simp))) Try.underlying28 rfl (sizeCsL _) ?_
                            refine hK.out _ _ ⟨_, hC⟩ (fun hH => ?_)
                            simp only [Act.put]
                            refine wpAnyH_ready (rs := [5]) (by kernel_rfl) (by simp) ?_
                            refine AllReadyH.cons (o := { dst := some 114, op := Op.call { callee := Callee.value (Operand.func 12), args := #[Operand.tmp 110, Operand.tmp 111, Operand.tmp 113], argTypes := #[24, 28, 35] }, type := 31, pos := "outright.go:300", after := #[{ on := 1, ground := Ground.data }, { on := 2, ground := Ground.data }, { on := 4, ground := Ground.data }, { on := 1, ground := Ground.chain }], guard := none }) rfl (fun K hK => ?_) AllReadyH.nil
                            go_simp
                            refine (SK3.out _ _ orow.rd).mono ?_
                            rintro e x9 ⟨ra, rn, rc, rfl, rrow, bX⟩
                            have rrow := rrow.mono hC.bb.size
                            have hC := hC.later bX
                            refine hK.out _ _ ⟨_, hC⟩ (fun hH => ?_)
                            refine wpAnyH_take (i := 6) (oi := { dst := some 108, op := Op.move (Operand.tmp 114), type := 31, pos := "outright.go:300", after := #[{ on := 5, ground := Ground.data }], guard := none }) (v := .tuple #[csV c3, .slice ra rn rc, .int .i64 0]) rfl (by kernel_rfl) (by kernel_rfl) (by kernel_rfl) (fun _ _ _ h => h) (Or.inl ⟨by rfl, fun w' h => by go_simp⟩) hH ?_
                            try simp only [Act.put, List.setIfInBounds_toArray, List.set_cons_zero, List.set_cons_succ]
                            refine wpAnyH_take (i := 7) (oi := { dst := some 115, op := Op.extract (Operand.tmp 108) 0, type := 28, pos := "outright.go:300", after := #[{ on := 6, ground := Ground.data }], guard := none }) (v := csV c3) rfl (by kernel_rfl) (by kernel_rfl) (by kernel_rfl) (fun _ _ _ h => h) (Or.inl ⟨by rfl, fun w' h => by go_simp⟩) hH ?_
                            try simp only [Act.put, List.setIfInBounds_toArray, List.set_cons_zero, List.set_cons_succ]
                            refine wpAnyH_take (i := 8) (oi := { dst := some 116, op := Op.extract (Operand.tmp 108) 1, type := 22, pos := "outright.go:300", after := #[{ on := 6, ground := Ground.data }, { on := 10, ground := Ground.gcOnly Departure.lateStores }], guard := none }) (v := .slice ra rn rc) rfl (by kernel_rfl) (by kernel_rfl) (by kernel_rfl) (fun _ _ _ h => h) (Or.inl ⟨by rfl, fun w' h => by go_simp⟩) hH ?_
                            try simp only [Act.put, List.setIfInBounds_toArray, List.set_cons_zero, List.set_cons_succ]
                            refine wpAnyH_take (i := 9) (oi := { dst := some 117, op := Op.extract (Operand.tmp 108) 2, type := 30, pos := "outright.go:300", after := #[{ on := 6, ground := Ground.data }, { on := 11, ground := Ground.gcOnly Departure.lateStores }], guard := none }) (v := .int .i64 0) rfl (by kernel_rfl) (by kernel_rfl) (by kernel_rfl) (fun _ _ _ h => h) (Or.inl ⟨by rfl, fun w' h => by go_simp⟩) hH ?_
                            try simp only [Act.put, List.setIfInBounds_toArray, List.set_cons_zero, List.set_cons_succ]
                            refine wpAnyH_ready (rs := [10]) (by kernel_rfl) (by simp) ?_
                            refine AllReadyH.cons (o := { dst := none, op := Op.store 28 (Operand.tmp 11) (Operand.tmp 115), type := 0, pos := "outright.go:300", after := #[{ on := 7, ground := Ground.data }, { on := 5, ground := Ground.chain }, { on := 0, ground := Ground.phase }, { on := 1, ground := Ground.phase }, { on := 2, ground := Ground.phase }, { on := 3, ground := Ground.phase }, { on := 4, ground := Ground.phase }, { on := 5, ground := Ground.phase }, { on := 6, ground := Ground.phase }, { on := 7, ground := Ground.phase }, { on := 8, ground := Ground.textOnly Departure.lateStores }, { on := 9, ground := Ground.textOnly Departure.lateStores }], guard := none }) rfl (fun K hK => ?_) AllReadyH.nil
                            refine op_putC (zs := csL c2) (csL c3) rfl (sizeCsL _) (csL_one _) rfl _ _ rfl _ rfl rfl (hC.b (CB, c2) (by simp)) ?_
                            intro w9 b9 g9
                            have hZ : ZZ w l s [(CB, c3)] [] w9 := hC.put b9 g9 (by simp)
                            have PX : Hid (ZZ w l s [(CB, c3)] [] w9) := hZ
                            have RX : Hid (RowV 3 w.heap.size w9 (.slice ra rn rc) (bkL [])) := rowV_blk rrow (hC.b (CB, c2) (by simp)) g9 (by decide)
                            refine hK.out _ _ ⟨_, hZ⟩ (fun hH => ?_)
                            simp only [Act.put]
                            refine wpAnyH_take (i := 11) (oi := { dst := some 14, op := Op.assign (Operand.tmp 116), type := 22, pos := "outright.go:300", after := #[{ on := 8, ground := Ground.data }, { on := 10, ground := Ground.chain }, { on := 0, ground := Ground.phase }, { on := 1, ground := Ground.phase }, { on := 2, ground := Ground.phase }, { on := 3, ground := Ground.phase }, { on := 4, ground := Ground.phase }, { on := 5, ground := Ground.phase }, { on := 6, ground := Ground.phase }, { on := 7, ground := Ground.phase }, { on := 8, ground := Ground.phase }, { on := 9, ground := Ground.textOnly Departure.lateStores }, { on := 10, ground := Ground.phase }], guard := none }) (v := .slice ra rn rc) rfl (by kernel_rfl) (by kernel_rfl) (by kernel_rfl) (fun _ _ _ h => h) (Or.inl ⟨by rfl, fun w' h => by go_simp⟩) hH ?_
                            try simp only [Act.put, List.setIfInBounds_toArray, List.set_cons_zero, List.set_cons_succ]
                            refine wpAnyH_take (i := 12) (oi := { dst := some 13, op := Op.assign (Operand.tmp 117), type := 30, pos := "outright.go:300", after := #[{ on := 9, ground := Ground.data }, { on := 11, ground := Ground.chain }, { on := 0, ground := Ground.phase }, { on := 1, ground := Ground.phase }, { on := 2, ground := Ground.phase }, { on := 3, ground := Ground.phase }, { on := 4, ground := Ground.phase }, { on := 5, ground := Ground.phase }, { on := 6, ground := Ground.phase }, { on := 7, ground := Ground.phase }, { on := 8, ground := Ground.phase }, { on := 9, ground := Ground.phase }, { on := 10, ground := Ground.phase }, { on := 11, ground := Ground.phase }], guard := none }) (v := .int .i64 0) rfl (by kernel_rfl) (by kernel_rfl) (by kernel_rfl) (fun _ _ _ h => h) (Or.inl ⟨by rfl, fun w' h => by go_simp⟩) hH ?_
                            try simp only [Act.put, List.setIfInBounds_toArray, List.set_cons_zero, List.set_cons_succ]
                            refine wpAnyH_done (by kernel_rfl) ?_ _
                            clear hH hK b9 g9 hZ hC
                            go_wp2_with fail
                            go_meet
                            case rel => exact ⟨_, _, _, rfl, rfl, PX, RX⟩
                          · refine op_loadC rfl 28 _ rfl CB 0 rfl (csL c2) _ (Blk.all (hC.b (CB, c2) (by simp))) Try.underlying28 rfl (sizeCsL _) ?_
                            refine hK.out _ _ ⟨_, hC⟩ (fun hH => ?_)
                            simp only [Act.put]
                            refine wpAnyH_ready (rs := [1]) (by kernel_rfl) (by simp) ?_
                            refine AllReadyH.cons (o := { dst := some 110, op := Op.call { callee := Callee.value (Operand.func 13), args := #[Operand.tmp 109], argTypes := #[24] }, type := 24, pos := "outright.go:300", after := #[{ on := 0, ground := Ground.data }], guard := none }) rfl (fun K hK => ?_) AllReadyH.nil
                            go_simp
                            refine (OW.out _ hC.bb).mono ?_
                            rintro e x1 ⟨oa, on, oc, rfl, orow, bX⟩
                            have hC := hC.later bX
                            refine hK.out _ _ ⟨_, hC⟩ (fun hH => ?_)
                            refine wpAnyH_ready (rs := [5]) (by kernel_rfl) (by simp) ?_
                            refine AllReadyH.cons (o := { dst := some 114, op := Op.call { callee := Callee.value (Operand.func 12), args := #[Operand.tmp 110, Operand.tmp 111, Operand.tmp 113], argTypes := #[24, 28, 35] }, type := 31, pos := "outright.go:300", after := #[{ on := 1, ground := Ground.data }, { on := 2, ground := Ground.data }, { on := 4, ground := Ground.data }, { on := 1, ground := Ground.chain }], guard := none }) rfl (fun K hK => ?_) AllReadyH.nil
                            go_simp
                            refine (SK3.out _ _ orow.rd).mono ?_
                            rintro e x9 ⟨ra, rn, rc, rfl, rrow, bX⟩
                            have rrow := rrow.mono hC.bb.size
                            have hC := hC.later bX
                            refine hK.out _ _ ⟨_, hC⟩ (fun hH => ?_)
                            refine wpAnyH_take (i := 6) (oi := { dst := some 108, op := Op.move (Operand.tmp 114), type := 31, pos := "outright.go:300", after := #[{ on := 5, ground := Ground.data }], guard := none }) (v := .tuple #[csV c3, .slice ra rn rc, .int .i64 0]) rfl (by kernel_rfl) (by kernel_rfl) (by kernel_rfl) (fun _ _ _ h => h) (Or.inl ⟨by rfl, fun w' h => by go_simp⟩) hH ?_
                            try simp only [Act.put, List.setIfInBounds_toArray, List.set_cons_zero, List.set_cons_succ]
                            refine wpAnyH_take (i := 7) (oi := { dst := some 115, op := Op.extract (Operand.tmp 108) 0, type := 28, pos := "outright.go:300", after := #[{ on := 6, ground := Ground.data }], guard := none }) (v := csV c3) rfl (by kernel_rfl) (by kernel_rfl) (by kernel_rfl) (fun _ _ _ h => h) (Or.inl ⟨by rfl, fun w' h => by go_simp⟩) hH ?_
                            try simp only [Act.put, List.setIfInBounds_toArray, List.set_cons_zero, List.set_cons_succ]
                            refine wpAnyH_take (i := 8) (oi := { dst := some 116, op := Op.extract (Operand.tmp 108) 1, type := 22, pos := "outright.go:300", after := #[{ on := 6, ground := Ground.data }, { on := 10, ground := Ground.gcOnly Departure.lateStores }], guard := none }) (v := .slice ra rn rc) rfl (by kernel_rfl) (by kernel_rfl) (by kernel_rfl) (fun _ _ _ h => h) (Or.inl ⟨by rfl, fun w' h => by go_simp⟩) hH ?_
                            try simp only [Act.put, List.setIfInBounds_toArray, List.set_cons_zero, List.set_cons_succ]
                            refine wpAnyH_take (i := 9) (oi := { dst := some 117, op := Op.extract (Operand.tmp 108) 2, type := 30, pos := "outright.go:300", after := #[{ on := 6, ground := Ground.data }, { on := 11, ground := Ground.gcOnly Departure.lateStores }], guard := none }) (v := .int .i64 0) rfl (by kernel_rfl) (by kernel_rfl) (by kernel_rfl) (fun _ _ _ h => h) (Or.inl ⟨by rfl, fun w' h => by go_simp⟩) hH ?_
                            try simp only [Act.put, List.setIfInBounds_toArray, List.set_cons_zero, List.set_cons_succ]
                            refine wpAnyH_ready (rs := [10]) (by kernel_rfl) (by simp) ?_
                            refine AllReadyH.cons (o := { dst := none, op := Op.store 28 (Operand.tmp 11) (Operand.tmp 115), type := 0, pos := "outright.go:300", after := #[{ on := 7, ground := Ground.data }, { on := 5, ground := Ground.chain }, { on := 0, ground := Ground.phase }, { on := 1, ground := Ground.phase }, { on := 2, ground := Ground.phase }, { on := 3, ground := Ground.phase }, { on := 4, ground := Ground.phase }, { on := 5, ground := Ground.phase }, { on := 6, ground := Ground.phase }, { on := 7, ground := Ground.phase }, { on := 8, ground := Ground.textOnly Departure.lateStores }, { on := 9, ground := Ground.textOnly Departure.lateStores }], guard := none }) rfl (fun K hK => ?_) AllReadyH.nil
                            refine op_putC (zs := csL c2) (csL c3) rfl (sizeCsL _) (csL_one _) rfl _ _ rfl _ rfl rfl (hC.b (CB, c2) (by simp)) ?_
                            intro w9 b9 g9
                            have hZ : ZZ w l s [(CB, c3)] [] w9 := hC.put b9 g9 (by simp)
                            have PX : Hid (ZZ w l s [(CB, c3)] [] w9) := hZ
                            have RX : Hid (RowV 3 w.heap.size w9 (.slice ra rn rc) (bkL [])) := rowV_blk rrow (hC.b (CB, c2) (by simp)) g9 (by decide)
                            refine hK.out _ _ ⟨_, hZ⟩ (fun hH => ?_)
                            simp only [Act.put]
                            refine wpAnyH_take (i := 11) (oi := { dst := some 14, op := Op.assign (Operand.tmp 116), type := 22, pos := "outright.go:300", after := #[{ on := 8, ground := Ground.data }, { on := 10, ground := Ground.chain }, { on := 0, ground := Ground.phase }, { on := 1, ground := Ground.phase }, { on := 2, ground := Ground.phase }, { on := 3, ground := Ground.phase }, { on := 4, ground := Ground.phase }, { on := 5, ground := Ground.phase }, { on := 6, ground := Ground.phase }, { on := 7, ground := Ground.phase }, { on := 8, ground := Ground.phase }, { on := 9, ground := Ground.textOnly Departure.lateStores }, { on := 10, ground := Ground.phase }], guard := none }) (v := .slice ra rn rc) rfl (by kernel_rfl) (by kernel_rfl) (by kernel_rfl) (fun _ _ _ h => h) (Or.inl ⟨by rfl, fun w' h => by go_simp⟩) hH ?_
                            try simp only [Act.put, List.setIfInBounds_toArray, List.set_cons_zero, List.set_cons_succ]
                            refine wpAnyH_take (i := 12) (oi := { dst := some 13, op := Op.assign (Operand.tmp 117), type := 30, pos := "outright.go:300", after := #[{ on := 9, ground := Ground.data }, { on := 11, ground := Ground.chain }, { on := 0, ground := Ground.phase }, { on := 1, ground := Ground.phase }, { on := 2, ground := Ground.phase }, { on := 3, ground := Ground.phase }, { on := 4, ground := Ground.phase }, { on := 5, ground := Ground.phase }, { on := 6, ground := Ground.phase }, { on := 7, ground := Ground.phase }, { on := 8, ground := Ground.phase }, { on := 9, ground := Ground.phase }, { on := 10, ground := Ground.phase }, { on := 11, ground := Ground.phase }], guard := none }) (v := .int .i64 0) rfl (by kernel_rfl) (by kernel_rfl) (by kernel_rfl) (fun _ _ _ h => h) (Or.inl ⟨by rfl, fun w' h => by go_simp⟩) hH ?_
                            try simp only [Act.put, List.setIfInBounds_toArray, List.set_cons_zero, List.set_cons_succ]
                            refine wpAnyH_done (by kernel_rfl) ?_ _
                            clear hH hK b9 g9 hZ hC
                            go_wp2_with fail
                            go_meet
                            case rel => exact ⟨_, _, _, rfl, rfl, PX, RX⟩
                        case rest =>
                          obtain ⟨ra, rn, rc, rfl, rfl, S11, RX⟩ := hcut
                          clear S8 g0 g6 g4 p3
                          have rn0 : rn = 0 := by
                            obtain ⟨a', c', q, _⟩ := RX.out.rd.len
                            injection q with _ q _
                          subst rn0
                          clear RX
                          have g8 : wc.cell? ⟨CB, 8, none⟩ = some (.int .i64 b) := by rw [← f4]; exact (S11.out.b (CB, c3) (by simp)).cell 8 _ rfl
                          go_upto_region 14 with fail
                          go_cut [13, 14, 15] from 18 to 226 (fun v13 v14 v15 wx => ∃ G ra rn rc, v15 = .pointer (some ⟨G, 0, none⟩) ∧ v14 = .slice ra rn rc ∧ v13 = .int .i64 0 ∧ Hid (ZZ w l s [(G, k), (CB, c3)] [(.slice ra rn rc, [5])] wx))
                          case first => as_aux_lemma =>
                            have hu := Try.underlying24
                            have hi := SZ.out
                            have hu2 := Try.underlying28
                            refine wp_region_held_drew (S := fun w' => ZZ w l s [(CB, c3)] [] w') (by kernel_rfl) (S11.out.drew) (fun hH => ?_)
                            refine wpAnyH_take (i := 0) (oi := { dst := some 132, op := Op.load 24 (Operand.tmp 5), type := 24, pos := "outright.go:304", after := #[], guard := none }) (v := .agg (polL l s).toArray) rfl (by kernel_rfl) (by kernel_rfl) (by kernel_rfl) (fun _ _ _ h => h) (yieldsIf_load_mid (by rfl) _ _ rfl w.heap.size 0 rfl (polL l s) _ (fun w' h => h.p.all) hu rfl hi) hH ?_
                            try simp only [Act.put, List.setIfInBounds_toArray, List.set_cons_zero, List.set_cons_succ]
                            refine wpAnyH_take (i := 2) (oi := { dst := some 134, op := Op.load 28 (Operand.tmp 11), type := 28, pos := "outright.go:304", after := #[], guard := none }) (v := .agg (csL c3).toArray) rfl (by kernel_rfl) (by kernel_rfl) (by kernel_rfl) (fun _ _ _ h => h) (yieldsIf_load_mid (by rfl) _ _ rfl CB 0 rfl (csL c3) _ (fun w' h => (h.b (CB, c3) (by simp)).all) hu2 rfl (sizeCsL c3)) hH ?_
                            try simp only [Act.put, List.setIfInBounds_toArray, List.set_cons_zero, List.set_cons_succ]
                            refine wpAnyH_take (i := 3) (oi := { dst := some 135, op := Op.move (Operand.tmp 3), type := 2, pos := "outright.go:304", after := #[], guard := none }) (v := .int .i64 a) rfl (by kernel_rfl) (by kernel_rfl) (by kernel_rfl) (fun _ _ _ h => h) (Or.inl ⟨by rfl, fun w' h => by go_simp⟩) hH ?_
                            try simp only [Act.put, List.setIfInBounds_toArray, List.set_cons_zero, List.set_cons_succ]
                            refine wpAnyH_take (i := 4) (oi := { dst := some 136, op := Op.move (Operand.tmp 4), type := 2, pos := "outright.go:304", after := #[], guard := none }) (v := .int .i64 b) rfl (by kernel_rfl) (by kernel_rfl) (by kernel_rfl) (fun _ _ _ h => h) (Or.inl ⟨by rfl, fun w' h => by go_simp⟩) hH ?_
                            try simp only [Act.put, List.setIfInBounds_toArray, List.set_cons_zero, List.set_cons_succ]
                            refine wpAnyH_take (i := 5) (oi := { dst := some 137, op := Op.binOp BinOp.sub 2 (Operand.tmp 135) (Operand.tmp 136) 2, type := 2, pos := "outright.go:304", after := #[{ on := 3, ground := Ground.data }, { on := 4, ground := Ground.data }], guard := none }) (v := .int .i64 (wrap64 (a - b))) rfl (by kernel_rfl) (by kernel_rfl) (by kernel_rfl) (fun _ _ _ h => h) (Or.inl ⟨by rfl, fun w' h => by have e64 := wrapC (a - b); go_simp⟩) hH ?_
                            try simp only [Act.put, List.setIfInBounds_toArray, List.set_cons_zero, List.set_cons_succ]
                            refine wpAnyH_take (i := 6) (oi := { dst := some 138, op := Op.build 35 #[(0, Operand.const (Value.int IntKind.i64 2)), (2, Operand.const (Value.int IntKind.i64 1)), (3, Operand.tmp 137)], type := 35, pos := "outright.go:304", after := #[{ on := 5, ground := Ground.data }], guard := none }) (v := .agg #[.int .i64 2, .int .i64 0, .int .i64 1, .int .i64 (wrap64 (a - b))]) rfl (by kernel_rfl) (by kernel_rfl) (by kernel_rfl) (fun _ _ _ h => h) (Or.inl ⟨by rfl, fun w' h => by go_simp⟩) hH ?_
                            try simp only [Act.put, List.setIfInBounds_toArray, List.set_cons_zero, List.set_cons_succ]
                            refine wpAnyH_ready (rs := [1, 12]) (by kernel_rfl) (by simp) ?_
                            refine AllReadyH.cons (o := { dst := some 133, op := Op.call { callee := Callee.value (Operand.func 13), args := #[Operand.tmp 132], argTypes := #[24] }, type := 24, pos := "outright.go:304", after := #[{ on := 0, ground := Ground.data }], guard := none }) rfl (fun K hK => ?_) (AllReadyH.cons (o := { dst := some 15, op := Op.alloc 28, type := 0, pos := "outright.go:304", after := #[], guard := none }) rfl (fun K hK => ?_) AllReadyH.nil)
                            · go_simp
                              refine (OW.out _ hH.bb).mono ?_
                              rintro e x1 ⟨oa, on, oc, rfl, orow, bX⟩
                              refine hK.out _ _ (hH.later bX) (fun hH => ?_)
                              refine wpAnyH_ready (rs := [7, 12]) (by kernel_rfl) (by simp) ?_
                              refine AllReadyH.cons (o := { dst := some 139, op := Op.call { callee := Callee.value (Operand.func 12), args := #[Operand.tmp 133, Operand.tmp 134, Operand.tmp 138], argTypes := #[24, 28, 35] }, type := 31, pos := "outright.go:304", after := #[{ on := 1, ground := Ground.data }, { on := 2, ground := Ground.data }, { on := 6, ground := Ground.data }, { on := 1, ground := Ground.chain }], guard := none }) rfl (fun K hK => ?_) (AllReadyH.cons (o := { dst := some 15, op := Op.alloc 28, type := 0, pos := "outright.go:304", after := #[], guard := none }) rfl (fun K hK => ?_) AllReadyH.nil)
                              · go_simp
                                refine (SK4.out _ _ orow.rd).mono ?_
                                rintro e x2 ⟨ra, rn, rc, rfl, rrow, bX⟩
                                have orow := orow.later bX
                                have rrow := rrow.mono hH.bb.size
                                refine hK.out _ _ (hH.later bX) (fun hH => ?_)
                                refine wpAnyH_take (i := 8) (oi := { dst := some 131, op := Op.move (Operand.tmp 139), type := 31, pos := "outright.go:304", after := #[{ on := 7, ground := Ground.data }], guard := none }) (v := .tuple #[csV k, .slice ra rn rc, .int .i64 0]) rfl (by kernel_rfl) (by kernel_rfl) (by kernel_rfl) (fun _ _ _ h => h) (Or.inl ⟨by rfl, fun w' h => by go_simp⟩) hH ?_
                                try simp only [Act.put, List.setIfInBounds_toArray, List.set_cons_zero, List.set_cons_succ]
                                refine wpAnyH_take (i := 9) (oi := { dst := some 140, op := Op.extract (Operand.tmp 131) 0, type := 28, pos := "outright.go:304", after := #[{ on := 8, ground := Ground.data }], guard := none }) (v := csV k) rfl (by kernel_rfl) (by kernel_rfl) (by kernel_rfl) (fun _ _ _ h => h) (Or.inl ⟨by rfl, fun w' h => by go_simp⟩) hH ?_
                                try simp only [Act.put, List.setIfInBounds_toArray, List.set_cons_zero, List.set_cons_succ]
                                refine wpAnyH_take (i := 10) (oi := { dst := some 141, op := Op.extract (Operand.tmp 131) 1, type := 22, pos := "outright.go:304", after := #[{ on := 8, ground := Ground.data }, { on := 13, ground := Ground.gcOnly Departure.lateStores }], guard := none }) (v := .slice ra rn rc) rfl (by kernel_rfl) (by kernel_rfl) (by kernel_rfl) (fun _ _ _ h => h) (Or.inl ⟨by rfl, fun w' h => by go_simp⟩) hH ?_
                                try simp only [Act.put, List.setIfInBounds_toArray, List.set_cons_zero, List.set_cons_succ]
                                refine wpAnyH_take (i := 11) (oi := { dst := some 142, op := Op.extract (Operand.tmp 131) 2, type := 30, pos := "outright.go:304", after := #[{ on := 8, ground := Ground.data }, { on := 14, ground := Ground.gcOnly Departure.lateStores }], guard := none }) (v := .int .i64 0) rfl (by kernel_rfl) (by kernel_rfl) (by kernel_rfl) (fun _ _ _ h => h) (Or.inl ⟨by rfl, fun w' h => by go_simp⟩) hH ?_
                                try simp only [Act.put, List.setIfInBounds_toArray, List.set_cons_zero, List.set_cons_succ]
                                refine wpAnyH_ready (rs := [12]) (by kernel_rfl) (by simp) ?_
                                refine AllReadyH.cons (o := { dst := some 15, op := Op.alloc 28, type := 0, pos := "outright.go:304", after := #[], guard := none }) rfl (fun K hK => ?_) AllReadyH.nil
                                go_simp
                                have hN : Blk x2.heap.size 28 (csL ⟨0, false, 0, 0, 0, 0, 0, 0, 0, 0, 0, 0, 0, 0, 0⟩) (x2.alloc (.cells #[.int .i64 0, .bool false, .int .i64 0, .int .i64 0, .int .i64 0, .int .i64 0, .int .i64 0, .int .i64 0, .int .i64 0, .int .i64 0, .int .i64 0, .int .i64 0, .int .i64 0, .int .i64 0, .int .i64 0] 28)) := Blk.new _ _ _
                                have hG := hH.lts
                                have hp : w.heap.size < x2.heap.size := hH.p.lt
                                have orow := orow.later (below_alloc x2 (.cells #[.int .i64 0, .bool false, .int .i64 0, .int .i64 0, .int .i64 0, .int .i64 0, .int .i64 0, .int .i64 0, .int .i64 0, .int .i64 0, .int .i64 0, .int .i64 0, .int .i64 0, .int .i64 0, .int .i64 0] 28))
                                have rrow := rrow.later (below_alloc x2 (.cells #[.int .i64 0, .bool false, .int .i64 0, .int .i64 0, .int .i64 0, .int .i64 0, .int .i64 0, .int .i64 0, .int .i64 0, .int .i64 0, .int .i64 0, .int .i64 0, .int .i64 0, .int .i64 0, .int .i64 0] 28))
                                refine hK.out _ _ (hH.later (below_alloc _ _)) (fun hH => ?_)
                                refine wpAnyH_ready (rs := [13]) (by kernel_rfl) (by simp) ?_
                                refine AllReadyH.cons (o := { dst := none, op := Op.store 28 (Operand.tmp 15) (Operand.tmp 140), type := 0, pos := "outright.go:304", after := #[{ on := 12, ground := Ground.data }, { on := 9, ground := Ground.data }, { on := 7, ground := Ground.chain }, { on := 0, ground := Ground.phase }, { on := 1, ground := Ground.phase }, { on := 2, ground := Ground.phase }, { on := 3, ground := Ground.phase }, { on := 4, ground := Ground.phase }, { on := 5, ground := Ground.phase }, { on := 6, ground := Ground.phase }, { on := 7, ground := Ground.phase }, { on := 8, ground := Ground.phase }, { on := 9, ground := Ground.phase }, { on := 10, ground := Ground.textOnly Departure.lateStores }, { on := 11, ground := Ground.textOnly Departure.lateStores }, { on := 12, ground := Ground.phase }], guard := none }) rfl (fun K hK => ?_) AllReadyH.nil
                                refine op_putC (zs := csL ⟨0, false, 0, 0, 0, 0, 0, 0, 0, 0, 0, 0, 0, 0, 0⟩) (csL k) rfl (sizeCsL _) (csL_one _) rfl _ _ rfl _ rfl rfl hN ?_
                                intro w9 b9 g9
                                have hZ := hH.grown hN g9 hG hp
                                have PX : Hid (ZZ w l s [(_, k), (CB, c3)] [(.slice ra rn rc, [5])] w9) := (hZ.addB b9 hp).addR (rowV_blk rrow hN g9 (by decide))
                                refine hK.out _ _ hZ (fun hH => ?_)
                                simp only [Act.put]
                                refine wpAnyH_take (i := 14) (oi := { dst := some 14, op := Op.assign (Operand.tmp 141), type := 22, pos := "outright.go:304", after := #[{ on := 10, ground := Ground.data }, { on := 13, ground := Ground.chain }, { on := 0, ground := Ground.phase }, { on := 1, ground := Ground.phase }, { on := 2, ground := Ground.phase }, { on := 3, ground := Ground.phase }, { on := 4, ground := Ground.phase }, { on := 5, ground := Ground.phase }, { on := 6, ground := Ground.phase }, { on := 7, ground := Ground.phase }, { on := 8, ground := Ground.phase }, { on := 9, ground := Ground.phase }, { on := 10, ground := Ground.phase }, { on := 11, ground := Ground.textOnly Departure.lateStores }, { on := 12, ground := Ground.phase }, { on := 13, ground := Ground.phase }], guard := none }) (v := .slice ra rn rc) rfl (by kernel_rfl) (by kernel_rfl) (by kernel_rfl) (fun _ _ _ h => h) (Or.inl ⟨by rfl, fun w' h => by go_simp⟩) hH ?_
                                try simp only [Act.put, List.setIfInBounds_toArray, List.set_cons_zero, List.set_cons_succ]
                                refine wpAnyH_take (i := 15) (oi := { dst := some 13, op := Op.assign (Operand.tmp 142), type := 30, pos := "outright.go:304", after := #[{ on := 11, ground := Ground.data }, { on := 14, ground := Ground.chain }, { on := 0, ground := Ground.phase }, { on := 1, ground := Ground.phase }, { on := 2, ground := Ground.phase }, { on := 3, ground := Ground.phase }, { on := 4, ground := Ground.phase }, { on := 5, ground := Ground.phase }, { on := 6, ground := Ground.phase }, { on := 7, ground := Ground.phase }, { on := 8, ground := Ground.phase }, { on := 9, ground := Ground.phase }, { on := 10, ground := Ground.phase }, { on := 11, ground := Ground.phase }, { on := 12, ground := Ground.phase }, { on := 13, ground := Ground.phase }, { on := 14, ground := Ground.phase }], guard := none }) (v := .int .i64 0) rfl (by kernel_rfl) (by kernel_rfl) (by kernel_rfl) (fun _ _ _ h => h) (Or.inl ⟨by rfl, fun w' h => by go_simp⟩) hH ?_
                                try simp only [Act.put, List.setIfInBounds_toArray, List.set_cons_zero, List.set_cons_succ]
                                refine wpAnyH_done (by kernel_rfl) ?_ _
                                clear hH hK b9 g9 hN hZ
                                go_wp2_with fail
                                go_meet
                                case rel => exact ⟨_, _, _, _, rfl, rfl, rfl, PX⟩
                              · go_simp
                                have hN : Blk x1.heap.size 28 (csL ⟨0, false, 0, 0, 0, 0, 0, 0, 0, 0, 0, 0, 0, 0, 0⟩) (x1.alloc (.cells #[.int .i64 0, .bool false, .int .i64 0, .int .i64 0, .int .i64 0, .int .i64 0, .int .i64 0, .int .i64 0, .int .i64 0, .int .i64 0, .int .i64 0, .int .i64 0, .int .i64 0, .int .i64 0, .int .i64 0] 28)) := Blk.new _ _ _
                                have hG := hH.lts
                                have hp : w.heap.size < x1.heap.size := hH.p.lt
                                have orow := orow.later (below_alloc x1 (.cells #[.int .i64 0, .bool false, .int .i64 0, .int .i64 0, .int .i64 0, .int .i64 0, .int .i64 0, .int .i64 0, .int .i64 0, .int .i64 0, .int .i64 0, .int .i64 0, .int .i64 0, .int .i64 0, .int .i64 0] 28))
                                refine hK.out _ _ (hH.later (below_alloc _ _)) (fun hH => ?_)
                                refine wpAnyH_ready (rs := [7]) (by kernel_rfl) (by simp) ?_
                                refine AllReadyH.cons (o := { dst := some 139, op := Op.call { callee := Callee.value (Operand.func 12), args := #[Operand.tmp 133, Operand.tmp 134, Operand.tmp 138], argTypes := #[24, 28, 35] }, type := 31, pos := "outright.go:304", after := #[{ on := 1, ground := Ground.data }, { on := 2, ground := Ground.data }, { on := 6, ground := Ground.data }, { on := 1, ground := Ground.chain }], guard := none }) rfl (fun K hK => ?_) AllReadyH.nil
                                go_simp
                                refine (SK4.out _ _ orow.rd).mono ?_
                                rintro e x3 ⟨ra, rn, rc, rfl, rrow, bX⟩
                                have orow := orow.later bX
                                have hN := hN.below bX
                                have rrow := rrow.mono hH.bb.size
                                refine hK.out _ _ (hH.later bX) (fun hH => ?_)
                                refine wpAnyH_take (i := 8) (oi := { dst := some 131, op := Op.move (Operand.tmp 139), type := 31, pos := "outright.go:304", after := #[{ on := 7, ground := Ground.data }], guard := none }) (v := .tuple #[csV k, .slice ra rn rc, .int .i64 0]) rfl (by kernel_rfl) (by kernel_rfl) (by kernel_rfl) (fun _ _ _ h => h) (Or.inl ⟨by rfl, fun w' h => by go_simp⟩) hH ?_
                                try simp only [Act.put, List.setIfInBounds_toArray, List.set_cons_zero, List.set_cons_succ]
                                refine wpAnyH_take (i := 9) (oi := { dst := some 140, op := Op.extract (Operand.tmp 131) 0, type := 28, pos := "outright.go:304", after := #[{ on := 8, ground := Ground.data }], guard := none }) (v := csV k) rfl (by kernel_rfl) (by kernel_rfl) (by kernel_rfl) (fun _ _ _ h => h) (Or.inl ⟨by rfl, fun w' h => by go_simp⟩) hH ?_
                                try simp only [Act.put, List.setIfInBounds_toArray, List.set_cons_zero, List.set_cons_succ]
                                refine wpAnyH_take (i := 10) (oi := { dst := some 141, op := Op.extract (Operand.tmp 131) 1, type := 22, pos := "outright.go:304", after := #[{ on := 8, ground := Ground.data }, { on := 13, ground := Ground.gcOnly Departure.lateStores }], guard := none }) (v := .slice ra rn rc) rfl (by kernel_rfl) (by kernel_rfl) (by kernel_rfl) (fun _ _ _ h => h) (Or.inl ⟨by rfl, fun w' h => by go_simp⟩) hH ?_
                                try simp only [Act.put, List.setIfInBounds_toArray, List.set_cons_zero, List.set_cons_succ]
                                refine wpAnyH_take (i := 11) (oi := { dst := some 142, op := Op.extract (Operand.tmp 131) 2, type := 30, pos := "outright.go:304", after := #[{ on := 8, ground := Ground.data }, { on := 14, ground := Ground.gcOnly Departure.lateStores }], guard := none }) (v := .int .i64 0) rfl (by kernel_rfl) (by kernel_rfl) (by kernel_rfl) (fun _ _ _ h => h) (Or.inl ⟨by rfl, fun w' h => by go_simp⟩) hH ?_
                                try simp only [Act.put, List.setIfInBounds_toArray, List.set_cons_zero, List.set_cons_succ]
                                refine wpAnyH_ready (rs := [13]) (by kernel_rfl) (by simp) ?_
                                refine AllReadyH.cons (o := { dst := none, op := Op.store 28 (Operand.tmp 15) (Operand.tmp 140), type := 0, pos := "outright.go:304", after := #[{ on := 12, ground := Ground.data }, { on := 9, ground := Ground.data }, { on := 7, ground := Ground.chain }, { on := 0, ground := Ground.phase }, { on := 1, ground := Ground.phase }, { on := 2, ground := Ground.phase }, { on := 3, ground := Ground.phase }, { on := 4, ground := Ground.phase }, { on := 5, ground := Ground.phase }, { on := 6, ground := Ground.phase }, { on := 7, ground := Ground.phase }, { on := 8, ground := Ground.phase }, { on := 9, ground := Ground.phase }, { on := 10, ground := Ground.textOnly Departure.lateStores }, { on := 11, ground := Ground.textOnly Departure.lateStores }, { on := 12, ground := Ground.phase }], guard := none }) rfl (fun K hK => ?_) AllReadyH.nil
                                refine op_putC (zs := csL ⟨0, false, 0, 0, 0, 0, 0, 0, 0, 0, 0, 0, 0, 0, 0⟩) (csL k) rfl (sizeCsL _) (csL_one _) rfl _ _ rfl _ rfl rfl hN ?_
                                intro w9 b9 g9
                                have hZ := hH.grown hN g9 hG hp
                                have PX : Hid (ZZ w l s [(_, k), (CB, c3)] [(.slice ra rn rc, [5])] w9) := (hZ.addB b9 hp).addR (rowV_blk rrow hN g9 (by decide))
                                refine hK.out _ _ hZ (fun hH => ?_)
                                simp only [Act.put]
                                refine wpAnyH_take (i := 14) (oi := { dst := some 14, op := Op.assign (Operand.tmp 141), type := 22, pos := "outright.go:304", after := #[{ on := 10, ground := Ground.data }, { on := 13, ground := Ground.chain }, { on := 0, ground := Ground.phase }, { on := 1, ground := Ground.phase }, { on := 2, ground := Ground.phase }, { on := 3, ground := Ground.phase }, { on := 4, ground := Ground.phase }, { on := 5, ground := Ground.phase }, { on := 6, ground := Ground.phase }, { on := 7, ground := Ground.phase }, { on := 8, ground := Ground.phase }, { on := 9, ground := Ground.phase }, { on := 10, ground := Ground.phase }, { on := 11, ground := Ground.textOnly Departure.lateStores }, { on := 12, ground := Ground.phase }, { on := 13, ground := Ground.phase }], guard := none }) (v := .slice ra rn rc) rfl (by kernel_rfl) (by kernel_rfl) (by kernel_rfl) (fun _ _ _ h => h) (Or.inl ⟨by rfl, fun w' h => by go_simp⟩) hH ?_
                                try simp only [Act.put, List.setIfInBounds_toArray, List.set_cons_zero, List.set_cons_succ]
                                refine wpAnyH_take (i := 15) (oi := { dst := some 13, op := Op.assign (Operand.tmp 142), type := 30, pos := "outright.go:304", after := #[{ on := 11, ground := Ground.data }, { on := 14, ground := Ground.chain }, { on := 0, ground := Ground.phase }, { on := 1, ground := Ground.phase }, { on := 2, ground := Ground.phase }, { on := 3, ground := Ground.phase }, { on := 4, ground := Ground.phase }, { on := 5, ground := Ground.phase }, { on := 6, ground := Ground.phase }, { on := 7, ground := Ground.phase }, { on := 8, ground := Ground.phase }, { on := 9, ground := Ground.phase }, { on := 10, ground := Ground.phase }, { on := 11, ground := Ground.phase }, { on := 12, ground := Ground.phase }, { on := 13, ground := Ground.phase }, { on := 14, ground := Ground.phase }], guard := none }) (v := .int .i64 0) rfl (by kernel_rfl) (by kernel_rfl) (by kernel_rfl) (fun _ _ _ h => h) (Or.inl ⟨by rfl, fun w' h => by go_simp⟩) hH ?_
                                try simp only [Act.put, List.setIfInBounds_toArray, List.set_cons_zero, List.set_cons_succ]
                                refine wpAnyH_done (by kernel_rfl) ?_ _
                                clear hH hK b9 g9 hN hZ
                                go_wp2_with fail
                                go_meet
                                case rel => exact ⟨_, _, _, _, rfl, rfl, rfl, PX⟩
                            · go_simp
                              have hN : Blk wc.drew.heap.size 28 (csL ⟨0, false, 0, 0, 0, 0, 0, 0, 0, 0, 0, 0, 0, 0, 0⟩) (wc.drew.alloc (.cells #[.int .i64 0, .bool false, .int .i64 0, .int .i64 0, .int .i64 0, .int .i64 0, .int .i64 0, .int .i64 0, .int .i64 0, .int .i64 0, .int .i64 0, .int .i64 0, .int .i64 0, .int .i64 0, .int .i64 0] 28)) := Blk.new _ _ _
                              have hG := hH.lts
                              have hp : w.heap.size < wc.drew.heap.size := hH.p.lt
                              refine hK.out _ _ (hH.later (below_alloc _ _)) (fun hH => ?_)
                              refine wpAnyH_ready (rs := [1]) (by kernel_rfl) (by simp) ?_
                              refine AllReadyH.cons (o := { dst := some 133, op := Op.call { callee := Callee.value (Operand.func 13), args := #[Operand.tmp 132], argTypes := #[24] }, type := 24, pos := "outright.go:304", after := #[{ on := 0, ground := Ground.data }], guard := none }) rfl (fun K hK => ?_) AllReadyH.nil
                              go_simp
                              refine (OW.out _ hH.bb).mono ?_
                              rintro e x4 ⟨oa, on, oc, rfl, orow, bX⟩
                              have hN := hN.below bX
                              refine hK.out _ _ (hH.later bX) (fun hH => ?_)
                              refine wpAnyH_ready (rs := [7]) (by kernel_rfl) (by simp) ?_
                              refine AllReadyH.cons (o := { dst := some 139, op := Op.call { callee := Callee.value (Operand.func 12), args := #[Operand.tmp 133, Operand.tmp 134, Operand.tmp 138], argTypes := #[24, 28, 35] }, type := 31, pos := "outright.go:304", after := #[{ on := 1, ground := Ground.data }, { on := 2, ground := Ground.data }, { on := 6, ground := Ground.data }, { on := 1, ground := Ground.chain }], guard := none }) rfl (fun K hK => ?_) AllReadyH.nil
                              go_simp
                              refine (SK4.out _ _ orow.rd).mono ?_
                              rintro e x5 ⟨ra, rn, rc, rfl, rrow, bX⟩
                              have hN := hN.below bX
                              have orow := orow.later bX
                              have rrow := rrow.mono hH.bb.size
                              refine hK.out _ _ (hH.later bX) (fun hH => ?_)
                              refine wpAnyH_take (i := 8) (oi := { dst := some 131, op := Op.move (Operand.tmp 139), type := 31, pos := "outright.go:304", after := #[{ on := 7, ground := Ground.data }], guard := none }) (v := .tuple #[csV k, .slice ra rn rc, .int .i64 0]) rfl (by kernel_rfl) (by kernel_rfl) (by kernel_rfl) (fun _ _ _ h => h) (Or.inl ⟨by rfl, fun w' h => by go_simp⟩) hH ?_
                              try simp only [Act.put, List.setIfInBounds_toArray, List.set_cons_zero, List.set_cons_succ]
                              refine wpAnyH_take (i := 9) (oi := { dst := some 140, op := Op.extract (Operand.tmp 131) 0, type := 28, pos := "outright.go:304", after := #[{ on := 8, ground := Ground.data }], guard := none }) (v := csV k) rfl (by kernel_rfl) (by kernel_rfl) (by kernel_rfl) (fun _ _ _ h => h) (Or.inl ⟨by rfl, fun w' h => by go_simp⟩) hH ?_
                              try simp only [Act.put, List.setIfInBounds_toArray, List.set_cons_zero, List.set_cons_succ]
                              refine wpAnyH_take (i := 10) (oi := { dst := some 141, op := Op.extract (Operand.tmp 131) 1, type := 22, pos := "outright.go:304", after := #[{ on := 8, ground := Ground.data }, { on := 13, ground := Ground.gcOnly Departure.lateStores }], guard := none }) (v := .slice ra rn rc) rfl (by kernel_rfl) (by kernel_rfl) (by kernel_rfl) (fun _ _ _ h => h) (Or.inl ⟨by rfl, fun w' h => by go_simp⟩) hH ?_
                              try simp only [Act.put, List.setIfInBounds_toArray, List.set_cons_zero, List.set_cons_succ]
                              refine wpAnyH_take (i := 11) (oi := { dst := some 142, op := Op.extract (Operand.tmp 131) 2, type := 30, pos := "outright.go:304", after := #[{ on := 8, ground := Ground.data }, { on := 14, ground := Ground.gcOnly Departure.lateStores }], guard := none }) (v := .int .i64 0) rfl (by kernel_rfl) (by kernel_rfl) (by kernel_rfl) (fun _ _ _ h => h) (Or.inl ⟨by rfl, fun w' h => by go_simp⟩) hH ?_
                              try simp only [Act.put, List.setIfInBounds_toArray, List.set_cons_zero, List.set_cons_succ]
                              refine wpAnyH_ready (rs := [13]) (by kernel_rfl) (by simp) ?_
                              refine AllReadyH.cons (o := { dst := none, op := Op.store 28 (Operand.tmp 15) (Operand.tmp 140), type := 0, pos := "outright.go:304", after := #[{ on := 12, ground := Ground.data }, { on := 9, ground := Ground.data }, { on := 7, ground := Ground.chain }, { on := 0, ground := Ground.phase }, { on := 1, ground := Ground.phase }, { on := 2, ground := Ground.phase }, { on := 3, ground := Ground.phase }, { on := 4, ground := Ground.phase }, { on := 5, ground := Ground.phase }, { on := 6, ground := Ground.phase }, { on := 7, ground := Ground.phase }, { on := 8, ground := Ground.phase }, { on := 9, ground := Ground.phase }, { on := 10, ground := Ground.textOnly Departure.lateStores }, { on := 11, ground := Ground.textOnly Departure.lateStores }, { on := 12, ground := Ground.phase }], guard := none }) rfl (fun K hK => ?_) AllReadyH.nil
                              refine op_putC (zs := csL ⟨0, false, 0, 0, 0, 0, 0, 0, 0, 0, 0, 0, 0, 0, 0⟩) (csL k) rfl (sizeCsL _) (csL_one _) rfl _ _ rfl _ rfl rfl hN ?_
                              intro w9 b9 g9
                              have hZ := hH.grown hN g9 hG hp
                              have PX : Hid (ZZ w l s [(_, k), (CB, c3)] [(.slice ra rn rc, [5])] w9) := (hZ.addB b9 hp).addR (rowV_blk rrow hN g9 (by decide))
                              refine hK.out _ _ hZ (fun hH => ?_)
                              simp only [Act.put]
                              refine wpAnyH_take (i := 14) (oi := { dst := some 14, op := Op.assign (Operand.tmp 141), type := 22, pos := "outright.go:304", after := #[{ on := 10, ground := Ground.data }, { on := 13, ground := Ground.chain }, { on := 0, ground := Ground.phase }, { on := 1, ground := Ground.phase }, { on := 2, ground := Ground.phase }, { on := 3, ground := Ground.phase }, { on := 4, ground := Ground.phase }, { on := 5, ground := Ground.phase }, { on := 6, ground := Ground.phase }, { on := 7, ground := Ground.phase }, { on := 8, ground := Ground.phase }, { on := 9, ground := Ground.phase }, { on := 10, ground := Ground.phase }, { on := 11, ground := Ground.textOnly Departure.lateStores }, { on := 12, ground := Ground.phase }, { on := 13, ground := Ground.phase }], guard := none }) (v := .slice ra rn rc) rfl (by kernel_rfl) (by kernel_rfl) (by kernel_rfl) (fun _ _ _ h => h) (Or.inl ⟨by rfl, fun w' h => by go_simp⟩) hH ?_
                              try simp only [Act.put, List.setIfInBounds_toArray, List.set_cons_zero, List.set_cons_succ]
                              refine wpAnyH_take (i := 15) (oi := { dst := some 13, op := Op.assign (Operand.tmp 142), type := 30, pos := "outright.go:304", after := #[{ on := 11, ground := Ground.data }, { on := 14, ground := Ground.chain }, { on := 0, ground := Ground.phase }, { on := 1, ground := Ground.phase }, { on := 2, ground := Ground.phase }, { on := 3, ground := Ground.phase }, { on := 4, ground := Ground.phase }, { on := 5, ground := Ground.phase }, { on := 6, ground := Ground.phase }, { on := 7, ground := Ground.phase }, { on := 8, ground := Ground.phase }, { on := 9, ground := Ground.phase }, { on := 10, ground := Ground.phase }, { on := 11, ground := Ground.phase }, { on := 12, ground := Ground.phase }, { on := 13, ground := Ground.phase }, { on := 14, ground := Ground.phase }], guard := none }) (v := .int .i64 0) rfl (by kernel_rfl) (by kernel_rfl) (by kernel_rfl) (fun _ _ _ h => h) (Or.inl ⟨by rfl, fun w' h => by go_simp⟩) hH ?_
                              try simp only [Act.put, List.setIfInBounds_toArray, List.set_cons_zero, List.set_cons_succ]
                              refine wpAnyH_done (by kernel_rfl) ?_ _
                              clear hH hK b9 g9 hN hZ
                              go_wp2_with fail
                              go_meet
                              case rel => exact ⟨_, _, _, _, rfl, rfl, rfl, PX⟩
                          case rest =>
                            obtain ⟨KB, ra, rn, rc, rfl, rfl, rfl, S14⟩ := hcut
                            clear S11 g8
                            go_wp2_with fail
                            refine (SM.out [5] _ _ _ (by simp) ((S14.out.r (.slice ra rn rc, [5]) (by simp)).rd.later (below_alloc _ _)) (rd_one _ _)).mono ?_
                            rintro e y1 ⟨rfl, bX⟩
                            have S15 : Hid (ZZ w l s [(KB, k), (CB, c3)] [] y1) := (S14.out.sub (by simp) (by simp)).later (below_trans' (below_alloc _ _) bX)
                            clear bX S14
                            have g9 : y1.cell? ⟨KB, 9, none⟩ = some (.int .i64 1) := by rw [← f5]; exact (S15.out.b (KB, k) (by simp)).cell 9 _ rfl
                            go_wp2_with ((with_reducible refine at_loadG 28 ?_); refine step_loadG rfl 28 _ rfl KB 0 rfl (csL k) _ (Blk.all (S15.out.b (KB, k) (by simp))) Try.underlying28 rfl (sizeCsL _) ?_)
                            refine (O1.out k _).mono ?_
                            rw [F6.out]
                            rintro e y2 ⟨rfl, bX⟩
                            have S16 : Hid (ZZ w l s [(KB, k), (CB, c3)] [] y2) := S15.out.later bX
                            have g0 : y2.cell? ⟨KB, 0, none⟩ = some (.int .i64 k.st) := (S16.out.b (KB, k) (by simp)).cell 0 _ rfl
                            have S17 : Hid (ZZ w l s [(CB, c3)] [] y2) := S16.out.sub (by simp) (by simp)
                            clear bX S15 g9
                            go_upto_region 17 with fail
                            go_cut [13, 14, 16] from 18 to 226 (fun v13 v14 v16 wx => ∃ G ra rn rc, v16 = .pointer (some ⟨G, 0, none⟩) ∧ v14 = .slice ra rn rc ∧ v13 = .int .i64 0 ∧ Hid (ZZ w l s [(G, s6), (CB, c3)] [(.slice ra rn rc, rs)] wx))
                            case first => as_aux_lemma =>
                              have hu := Try.underlying24
                              have hi := SZ.out
                              have hu2 := Try.underlying28
                              refine wp_region_held_drew (S := fun w' => ZZ w l s [(CB, c3)] [] w') (by kernel_rfl) (S17.out.drew) (fun hH => ?_)
                              refine wpAnyH_take (i := 0) (oi := { dst := some 167, op := Op.load 24 (Operand.tmp 5), type := 24, pos := "outright.go:308", after := #[], guard := none }) (v := .agg (polL l s).toArray) rfl (by kernel_rfl) (by kernel_rfl) (by kernel_rfl) (fun _ _ _ h => h) (yieldsIf_load_mid (by rfl) _ _ rfl w.heap.size 0 rfl (polL l s) _ (fun w' h => h.p.all) hu rfl hi) hH ?_
                              try simp only [Act.put, List.setIfInBounds_toArray, List.set_cons_zero, List.set_cons_succ]
                              refine wpAnyH_take (i := 2) (oi := { dst := some 169, op := Op.load 28 (Operand.tmp 11), type := 28, pos := "outright.go:308", after := #[], guard := none }) (v := .agg (csL c3).toArray) rfl (by kernel_rfl) (by kernel_rfl) (by kernel_rfl) (fun _ _ _ h => h) (yieldsIf_load_mid (by rfl) _ _ rfl CB 0 rfl (csL c3) _ (fun w' h => (h.b (CB, c3) (by simp)).all) hu2 rfl (sizeCsL c3)) hH ?_
                              try simp only [Act.put, List.setIfInBounds_toArray, List.set_cons_zero, List.set_cons_succ]
                              refine wpAnyH_take (i := 3) (oi := { dst := some 170, op := Op.move (Operand.tmp 1), type := 3, pos := "outright.go:308", after := #[], guard := none }) (v := .int .i64 t) rfl (by kernel_rfl) (by kernel_rfl) (by kernel_rfl) (fun _ _ _ h => h) (Or.inl ⟨by rfl, fun w' h => by go_simp⟩) hH ?_
                              try simp only [Act.put, List.setIfInBounds_toArray, List.set_cons_zero, List.set_cons_succ]
                              refine wpAnyH_take (i := 4) (oi := { dst := some 171, op := Op.move (Operand.tmp 2), type := 3, pos := "outright.go:308", after := #[], guard := none }) (v := .int .i64 d) rfl (by kernel_rfl) (by kernel_rfl) (by kernel_rfl) (fun _ _ _ h => h) (Or.inl ⟨by rfl, fun w' h => by go_simp⟩) hH ?_
                              try simp only [Act.put, List.setIfInBounds_toArray, List.set_cons_zero, List.set_cons_succ]
                              refine wpAnyH_take (i := 5) (oi := { dst := some 172, op := Op.binOp BinOp.add 3 (Operand.tmp 170) (Operand.tmp 171) 3, type := 3, pos := "outright.go:308", after := #[{ on := 3, ground := Ground.data }, { on := 4, ground := Ground.data }], guard := none }) (v := .int .i64 (wrap64 (t + d))) rfl (by kernel_rfl) (by kernel_rfl) (by kernel_rfl) (fun _ _ _ h => h) (Or.inl ⟨by rfl, fun w' h => by have e64 := wrapC (t + d); go_simp⟩) hH ?_
                              try simp only [Act.put, List.setIfInBounds_toArray, List.set_cons_zero, List.set_cons_succ]
                              refine wpAnyH_ready (rs := [1, 12]) (by kernel_rfl) (by simp) ?_
                              refine AllReadyH.cons (o := { dst := some 168, op := Op.call { callee := Callee.value (Operand.func 13), args := #[Operand.tmp 167], argTypes := #[24] }, type := 24, pos := "outright.go:308", after := #[{ on := 0, ground := Ground.data }], guard := none }) rfl (fun K hK => ?_) (AllReadyH.cons (o := { dst := some 16, op := Op.alloc 28, type := 0, pos := "outright.go:308", after := #[], guard := none }) rfl (fun K hK => ?_) AllReadyH.nil)
                              · go_simp
                                refine (OW.out _ hH.bb).mono ?_
                                rintro e x1 ⟨oa, on, oc, rfl, orow, bX⟩
                                refine hK.out _ _ (hH.later bX) (fun hH => ?_)
                                refine wpAnyH_ready (rs := [6, 12]) (by kernel_rfl) (by simp) ?_
                                refine AllReadyH.cons (o := { dst := some 173, op := Op.call { callee := Callee.value (Operand.func 16), args := #[Operand.tmp 172, Operand.const (Value.int IntKind.i64 1)], argTypes := #[3, 3] }, type := 35, pos := "outright.go:308", after := #[{ on := 5, ground := Ground.data }, { on := 1, ground := Ground.chain }], guard := none }) rfl (fun K hK => ?_) (AllReadyH.cons (o := { dst := some 16, op := Op.alloc 28, type := 0, pos := "outright.go:308", after := #[], guard := none }) rfl (fun K hK => ?_) AllReadyH.nil)
                                · go_simp
                                  refine (LT.out _ _ _).mono ?_
                                  rintro e x2 ⟨rfl, bX⟩
                                  have orow := orow.later bX
                                  refine hK.out _ _ (hH.later bX) (fun hH => ?_)
                                  refine wpAnyH_ready (rs := [7, 12]) (by kernel_rfl) (by simp) ?_
                                  refine AllReadyH.cons (o := { dst := some 174, op := Op.call { callee := Callee.value (Operand.func 12), args := #[Operand.tmp 168, Operand.tmp 169, Operand.tmp 173], argTypes := #[24, 28, 35] }, type := 31, pos := "outright.go:308", after := #[{ on := 1, ground := Ground.data }, { on := 2, ground := Ground.data }, { on := 6, ground := Ground.data }, { on := 6, ground := Ground.chain }], guard := none }) rfl (fun K hK => ?_) (AllReadyH.cons (o := { dst := some 16, op := Op.alloc 28, type := 0, pos := "outright.go:308", after := #[], guard := none }) rfl (fun K hK => ?_) AllReadyH.nil)
                                  · go_simp
                                    refine (SK5.out _ _ orow.rd).mono ?_
                                    rintro e x3 ⟨ra, rn, rc, rfl, rrow, bX⟩
                                    have orow := orow.later bX
                                    have rrow := rrow.mono hH.bb.size
                                    refine hK.out _ _ (hH.later bX) (fun hH => ?_)
                                    refine wpAnyH_take (i := 8) (oi := { dst := some 166, op := Op.move (Operand.tmp 174), type := 31, pos := "outright.go:308", after := #[{ on := 7, ground := Ground.data }], guard := none }) (v := .tuple #[csV s6, .slice ra rn rc, .int .i64 0]) rfl (by kernel_rfl) (by kernel_rfl) (by kernel_rfl) (fun _ _ _ h => h) (Or.inl ⟨by rfl, fun w' h => by go_simp⟩) hH ?_
                                    try simp only [Act.put, List.setIfInBounds_toArray, List.set_cons_zero, List.set_cons_succ]
                                    refine wpAnyH_take (i := 9) (oi := { dst := some 175, op := Op.extract (Operand.tmp 166) 0, type := 28, pos := "outright.go:308", after := #[{ on := 8, ground := Ground.data }], guard := none }) (v := csV s6) rfl (by kernel_rfl) (by kernel_rfl) (by kernel_rfl) (fun _ _ _ h => h) (Or.inl ⟨by rfl, fun w' h => by go_simp⟩) hH ?_
                                    try simp only [Act.put, List.setIfInBounds_toArray, List.set_cons_zero, List.set_cons_succ]
                                    refine wpAnyH_take (i := 10) (oi := { dst := some 176, op := Op.extract (Operand.tmp 166) 1, type := 22, pos := "outright.go:308", after := #[{ on := 8, ground := Ground.data }, { on := 13, ground := Ground.gcOnly Departure.lateStores }], guard := none }) (v := .slice ra rn rc) rfl (by kernel_rfl) (by kernel_rfl) (by kernel_rfl) (fun _ _ _ h => h) (Or.inl ⟨by rfl, fun w' h => by go_simp⟩) hH ?_
                                    try simp only [Act.put, List.setIfInBounds_toArray, List.set_cons_zero, List.set_cons_succ]
                                    refine wpAnyH_take (i := 11) (oi := { dst := some 177, op := Op.extract (Operand.tmp 166) 2, type := 30, pos := "outright.go:308", after := #[{ on := 8, ground := Ground.data }, { on := 14, ground := Ground.gcOnly Departure.lateStores }], guard := none }) (v := .int .i64 0) rfl (by kernel_rfl) (by kernel_rfl) (by kernel_rfl) (fun _ _ _ h => h) (Or.inl ⟨by rfl, fun w' h => by go_simp⟩) hH ?_
                                    try simp only [Act.put, List.setIfInBounds_toArray, List.set_cons_zero, List.set_cons_succ]
                                    refine wpAnyH_ready (rs := [12]) (by kernel_rfl) (by simp) ?_
                                    refine AllReadyH.cons (o := { dst := some 16, op := Op.alloc 28, type := 0, pos := "outright.go:308", after := #[], guard := none }) rfl (fun K hK => ?_) AllReadyH.nil
                                    go_simp
                                    have hN : Blk x3.heap.size 28 (csL ⟨0, false, 0, 0, 0, 0, 0, 0, 0, 0, 0, 0, 0, 0, 0⟩) (x3.alloc (.cells #[.int .i64 0, .bool false, .int .i64 0, .int .i64 0, .int .i64 0, .int .i64 0, .int .i64 0, .int .i64 0, .int .i64 0, .int .i64 0, .int .i64 0, .int .i64 0, .int .i64 0, .int .i64 0, .int .i64 0] 28)) := Blk.new _ _ _
                                    have hG := hH.lts
                                    have hp : w.heap.size < x3.heap.size := hH.p.lt
                                    have orow := orow.later (below_alloc x3 (.cells #[.int .i64 0, .bool false, .int .i64 0, .int .i64 0, .int .i64 0, .int .i64 0, .int .i64 0, .int .i64 0, .int .i64 0, .int .i64 0, .int .i64 0, .int .i64 0, .int .i64 0, .int .i64 0, .int .i64 0] 28))
                                    have rrow := rrow.later (below_alloc x3 (.cells #[.int .i64 0, .bool false, .int .i64 0, .int .i64 0, .int .i64 0, .int .i64 0, .int .i64 0, .int .i64 0, .int .i64 0, .int .i64 0, .int .i64 0, .int .i64 0, .int .i64 0, .int .i64 0, .int .i64 0] 28))
                                    refine hK.out _ _ (hH.later (below_alloc _ _)) (fun hH => ?_)
                                    refine wpAnyH_ready (rs := [13]) (by kernel_rfl) (by simp) ?_
                                    refine AllReadyH.cons (o := { dst := none, op := Op.store 28 (Operand.tmp 16) (Operand.tmp 175), type := 0, pos := "outright.go:308", after := #[{ on := 12, ground := Ground.data }, { on := 9, ground := Ground.data }, { on := 7, ground := Ground.chain }, { on := 0, ground := Ground.phase }, { on := 1, ground := Ground.phase }, { on := 2, ground := Ground.phase }, { on := 3, ground := Ground.phase }, { on := 4, ground := Ground.phase }, { on := 5, ground := Ground.phase }, { on := 6, ground := Ground.phase }, { on := 7, ground := Ground.phase }, { on := 8, ground := Ground.phase }, { on := 9, ground := Ground.phase }, { on := 10, ground := Ground.textOnly Departure.lateStores }, { on := 11, ground := Ground.textOnly Departure.lateStores }, { on := 12, ground := Ground.phase }], guard := none }) rfl (fun K hK => ?_) AllReadyH.nil
                                    refine op_putC (zs := csL ⟨0, false, 0, 0, 0, 0, 0, 0, 0, 0, 0, 0, 0, 0, 0⟩) (csL s6) rfl (sizeCsL _) (csL_one _) rfl _ _ rfl _ rfl rfl hN ?_
                                    intro w9 b9 g9
                                    have hZ := hH.grown hN g9 hG hp
                                    have PX : Hid (ZZ w l s [(_, s6), (CB, c3)] [(.slice ra rn rc, rs)] w9) := (hZ.addB b9 hp).addR (rowV_blk rrow hN g9 (by decide))
                                    refine hK.out _ _ hZ (fun hH => ?_)
                                    simp only [Act.put]
                                    refine wpAnyH_take (i := 14) (oi := { dst := some 14, op := Op.assign (Operand.tmp 176), type := 22, pos := "outright.go:308", after := #[{ on := 10, ground := Ground.data }, { on := 13, ground := Ground.chain }, { on := 0, ground := Ground.phase }, { on := 1, ground := Ground.phase }, { on := 2, ground := Ground.phase }, { on := 3, ground := Ground.phase }, { on := 4, ground := Ground.phase }, { on := 5, ground := Ground.phase }, { on := 6, ground := Ground.phase }, { on := 7, ground := Ground.phase }, { on := 8, ground := Ground.phase }, { on := 9, ground := Ground.phase }, { on := 10, ground := Ground.phase }, { on := 11, ground := Ground.textOnly Departure.lateStores }, { on := 12, ground := Ground.phase }, { on := 13, ground := Ground.phase }], guard := none }) (v := .slice ra rn rc) rfl (by kernel_rfl) (by kernel_rfl) (by kernel_rfl) (fun _ _ _ h => h) (Or.inl ⟨by rfl, fun w' h => by go_simp⟩) hH ?_
                                    try simp only [Act.put, List.setIfInBounds_toArray, List.set_cons_zero, List.set_cons_succ]
                                    refine wpAnyH_take (i := 15) (oi := { dst := some 13, op := Op.assign (Operand.tmp 177), type := 30, pos := "outright.go:308", after := #[{ on := 11, ground := Ground.data }, { on := 14, ground := Ground.chain }, { on := 0, ground := Ground.phase }, { on := 1, ground := Ground.phase }, { on := 2, ground := Ground.phase }, { on := 3, ground := Ground.phase }, { on := 4, ground := Ground.phase }, { on := 5, ground := Ground.phase }, { on := 6, ground := Ground.phase }, { on := 7, ground := Ground.phase }, { on := 8, ground := Ground.phase }, { on := 9, ground := Ground.phase }, { on := 10, ground := Ground.phase }, { on := 11, ground := Ground.phase }, { on := 12, ground := Ground.phase }, { on := 13, ground := Ground.phase }, { on := 14, ground := Ground.phase }], guard := none }) (v := .int .i64 0) rfl (by kernel_rfl) (by kernel_rfl) (by kernel_rfl) (fun _ _ _ h => h) (Or.inl ⟨by rfl, fun w' h => by go_simp⟩) hH ?_
                                    try simp only [Act.put, List.setIfInBounds_toArray, List.set_cons_zero, List.set_cons_succ]
                                    refine wpAnyH_done (by kernel_rfl) ?_ _
                                    clear hH hK b9 g9 hN hZ
                                    go_wp2_with fail
                                    go_meet
                                    case rel => exact ⟨_, _, _, _, rfl, rfl, rfl, PX⟩
                                  · go_simp
                                    have hN : Blk x2.heap.size 28 (csL ⟨0, false, 0, 0, 0, 0, 0, 0, 0, 0, 0, 0, 0, 0, 0⟩) (x2.alloc (.cells #[.int .i64 0, .bool false, .int .i64 0, .int .i64 0, .int .i64 0, .int .i64 0, .int .i64 0, .int .i64 0, .int .i64 0, .int .i64 0, .int .i64 0, .int .i64 0, .int .i64 0, .int .i64 0, .int .i64 0] 28)) := Blk.new _ _ _
                                    have hG := hH.lts
                                    have hp : w.heap.size < x2.heap.size := hH.p.lt
                                    have orow := orow.later (below_alloc x2 (.cells #[.int .i64 0, .bool false, .int .i64 0, .int .i64 0, .int .i64 0, .int .i64 0, .int .i64 0, .int .i64 0, .int .i64 0, .int .i64 0, .int .i64 0, .int .i64 0, .int .i64 0, .int .i64 0, .int .i64 0] 28))
                                    refine hK.out _ _ (hH.later (below_alloc _ _)) (fun hH => ?_)
                                    refine wpAnyH_ready (rs := [7]) (by kernel_rfl) (by simp) ?_
                                    refine AllReadyH.cons (o := { dst := some 174, op := Op.call { callee := Callee.value (Operand.func 12), args := #[Operand.tmp 168, Operand.tmp 169, Operand.tmp 173], argTypes := #[24, 28, 35] }, type := 31, pos := "outright.go:308", after := #[{ on := 1, ground := Ground.data }, { on := 2, ground := Ground.data }, { on := 6, ground := Ground.data }, { on := 6, ground := Ground.chain }], guard := none }) rfl (fun K hK => ?_) AllReadyH.nil
                                    go_simp
                                    refine (SK5.out _ _ orow.rd).mono ?_
                                    rintro e x4 ⟨ra, rn, rc, rfl, rrow, bX⟩
                                    have orow := orow.later bX
                                    have hN := hN.below bX
                                    have rrow := rrow.mono hH.bb.size
                                    refine hK.out _ _ (hH.later bX) (fun hH => ?_)
                                    refine wpAnyH_take (i := 8) (oi := { dst := some 166, op := Op.move (Operand.tmp 174), type := 31, pos := "outright.go:308", after := #[{ on := 7, ground := Ground.data }], guard := none }) (v := .tuple #[csV s6, .slice ra rn rc, .int .i64 0]) rfl (by kernel_rfl) (by kernel_rfl) (by kernel_rfl) (fun _ _ _ h => h) (Or.inl ⟨by rfl, fun w' h => by go_simp⟩) hH ?_
                                    try simp only [Act.put, List.setIfInBounds_toArray, List.set_cons_zero, List.set_cons_succ]
                                    refine wpAnyH_take (i := 9) (oi := { dst := some 175, op := Op.extract (Operand.tmp 166) 0, type := 28, pos := "outright.go:308", after := #[{ on := 8, ground := Ground.data }], guard := none }) (v := csV s6) rfl (by kernel_rfl) (by kernel_rfl) (by kernel_rfl) (fun _ _ _ h => h) (Or.inl ⟨by rfl, fun w' h => by go_simp⟩) hH ?_
                                    try simp only [Act.put, List.setIfInBounds_toArray, List.set_cons_zero, List.set_cons_succ]
                                    refine wpAnyH_take (i := 10) (oi := { dst := some 176, op := Op.extract (Operand.tmp 166) 1, type := 22, pos := "outright.go:308", after := #[{ on := 8, ground := Ground.data }, { on := 13, ground := Ground.gcOnly Departure.lateStores }], guard := none }) (v := .slice ra rn rc) rfl (by kernel_rfl) (by kernel_rfl) (by kernel_rfl) (fun _ _ _ h => h) (Or.inl ⟨by rfl, fun w' h => by go_simp⟩) hH ?_
                                    try simp only [Act.put, List.setIfInBounds_toArray, List.set_cons_zero, List.set_cons_succ]
                                    refine wpAnyH_take (i := 11) (oi := { dst := some 177, op := Op.extract (Operand.tmp 166) 2, type := 30, pos := "outright.go:308", after := #[{ on := 8, ground := Ground.data }, { on := 14, ground := Ground.gcOnly Departure.lateStores }], guard := none }) (v := .int .i64 0) rfl (by kernel_rfl) (by kernel_rfl) (by kernel_rfl) (fun _ _ _ h => h) (Or.inl ⟨by rfl, fun w' h => by go_simp⟩) hH ?_
                                    try simp only [Act.put, List.setIfInBounds_toArray, List.set_cons_zero, List.set_cons_succ]
                                    refine wpAnyH_ready (rs := [13]) (by kernel_rfl) (by simp) ?_
                                    refine AllReadyH.cons (o := { dst := none, op := Op.store 28 (Operand.tmp 16) (Operand.tmp 175), type := 0, pos := "outright.go:308", after := #[{ on := 12, ground := Ground.data }, { on := 9, ground := Ground.data }, { on := 7, ground := Ground.chain }, { on := 0, ground := Ground.phase }, { on := 1, ground := Ground.phase }, { on := 2, ground := Ground.phase }, { on := 3, ground := Ground.phase }, { on := 4, ground := Ground.phase }, { on := 5, ground := Ground.phase }, { on := 6, ground := Ground.phase }, { on := 7, ground := Ground.phase }, { on := 8, ground := Ground.phase }, { on := 9, ground := Ground.phase }, { on := 10, ground := Ground.textOnly Departure.lateStores }, { on := 11, ground := Ground.textOnly Departure.lateStores }, { on := 12, ground := Ground.phase }], guard := none }) rfl (fun K hK => ?_) AllReadyH.nil
                                    refine op_putC (zs := csL ⟨0, false, 0, 0, 0, 0, 0, 0, 0, 0, 0, 0, 0, 0, 0⟩) (csL s6) rfl (sizeCsL _) (csL_one _) rfl _ _ rfl _ rfl rfl hN ?_
                                    intro w9 b9 g9
                                    have hZ := hH.grown hN g9 hG hp
                                    have PX : Hid (ZZ w l s [(_, s6), (CB, c3)] [(.slice ra rn rc, rs)] w9) := (hZ.addB b9 hp).addR (rowV_blk rrow hN g9 (by decide))
                                    refine hK.out _ _ hZ (fun hH => ?_)
                                    simp only [Act.put]
                                    refine wpAnyH_take (i := 14) (oi := { dst := some 14, op := Op.assign (Operand.tmp 176), type := 22, pos := "outright.go:308", after := #[{ on := 10, ground := Ground.data }, { on := 13, ground := Ground.chain }, { on := 0, ground := Ground.phase }, { on := 1, ground := Ground.phase }, { on := 2, ground := Ground.phase }, { on := 3, ground := Ground.phase }, { on := 4, ground := Ground.phase }, { on := 5, ground := Ground.phase }, { on := 6, ground := Ground.phase }, { on := 7, ground := Ground.phase }, { on := 8, ground := Ground.phase }, { on := 9, ground := Ground.phase }, { on := 10, ground := Ground.phase }, { on := 11, ground := Ground.textOnly Departure.lateStores }, { on := 12, ground := Ground.phase }, { on := 13, ground := Ground.phase }], guard := none }) (v := .slice ra rn rc) rfl (by kernel_rfl) (by kernel_rfl) (by kernel_rfl) (fun _ _ _ h => h) (Or.inl ⟨by rfl, fun w' h => by go_simp⟩) hH ?_
                                    try simp only [Act.put, List.setIfInBounds_toArray, List.set_cons_zero, List.set_cons_succ]
                                    refine wpAnyH_take (i := 15) (oi := { dst := some 13, op := Op.assign (Operand.tmp 177), type := 30, pos := "outright.go:308", after := #[{ on := 11, ground := Ground.data }, { on := 14, ground := Ground.chain }, { on := 0, ground := Ground.phase }, { on := 1, ground := Ground.phase }, { on := 2, ground := Ground.phase }, { on := 3, ground := Ground.phase }, { on := 4, ground := Ground.phase }, { on := 5, ground := Ground.phase }, { on := 6, ground := Ground.phase }, { on := 7, ground := Ground.phase }, { on := 8, ground := Ground.phase }, { on := 9, ground := Ground.phase }, { on := 10, ground := Ground.phase }, { on := 11, ground := Ground.phase }, { on := 12, ground := Ground.phase }, { on := 13, ground := Ground.phase }, { on := 14, ground := Ground.phase }], guard := none }) (v := .int .i64 0) rfl (by kernel_rfl) (by kernel_rfl) (by kernel_rfl) (fun _ _ _ h => h) (Or.inl ⟨by rfl, fun w' h => by go_simp⟩) hH ?_
                                    try simp only [Act.put, List.setIfInBounds_toArray, List.set_cons_zero, List.set_cons_succ]
                                    refine wpAnyH_done (by kernel_rfl) ?_ _
                                    clear hH hK b9 g9 hN hZ
                                    go_wp2_with fail
                                    go_meet
                                    case rel => exact ⟨_, _, _, _, rfl, rfl, rfl, PX⟩
                                · go_simp
                                  have hN : Blk x1.heap.size 28 (csL ⟨0, false, 0, 0, 0, 0, 0, 0, 0, 0, 0, 0, 0, 0, 0⟩) (x1.alloc (.cells #[.int .i64 0, .bool false, .int .i64 0, .int .i64 0, .int .i64 0, .int .i64 0, .int .i64 0, .int .i64 0, .int .i64 0, .int .i64 0, .int .i64 0, .int .i64 0, .int .i64 0, .int .i64 0, .int .i64 0] 28)) := Blk.new _ _ _
                                  have hG := hH.lts
                                  have hp : w.heap.size < x1.heap.size := hH.p.lt
                                  have orow := orow.later (below_alloc x1 (.cells #[.int .i64 0, .bool false, .int .i64 0, .int .i64 0, .int .i64 0, .int .i64 0, .int .i64 0, .int .i64 0, .int .i64 0, .int .i64 0, .int .i64 0, .int .i64 0, .int .i64 0, .int .i64 0, .int .i64 0] 28))
                                  refine hK.out _ _ (hH.later (below_alloc _ _)) (fun hH => ?_)
                                  refine wpAnyH_ready (rs := [6]) (by kernel_rfl) (by simp) ?_
                                  refine AllReadyH.cons (o := { dst := some 173, op := Op.call { callee := Callee.value (Operand.func 16), args := #[Operand.tmp 172, Operand.const (Value.int IntKind.i64 1)], argTypes := #[3, 3] }, type := 35, pos := "outright.go:308", after := #[{ on := 5, ground := Ground.data }, { on := 1, ground := Ground.chain }], guard := none }) rfl (fun K hK => ?_) AllReadyH.nil
                                  go_simp
                                  refine (LT.out _ _ _).mono ?_
                                  rintro e x5 ⟨rfl, bX⟩
                                  have orow := orow.later bX
                                  have hN := hN.below bX
                                  refine hK.out _ _ (hH.later bX) (fun hH => ?_)
                                  refine wpAnyH_ready (rs := [7]) (by kernel_rfl) (by simp) ?_
                                  refine AllReadyH.cons (o := { dst := some 174, op := Op.call { callee := Callee.value (Operand.func 12), args := #[Operand.tmp 168, Operand.tmp 169, Operand.tmp 173], argTypes := #[24, 28, 35] }, type := 31, pos := "outright.go:308", after := #[{ on := 1, ground := Ground.data }, { on := 2, ground := Ground.data }, { on := 6, ground := Ground.data }, { on := 6, ground := Ground.chain }], guard := none }) rfl (fun K hK => ?_) AllReadyH.nil
                                  go_simp
                                  refine (SK5.out _ _ orow.rd).mono ?_
                                  rintro e x6 ⟨ra, rn, rc, rfl, rrow, bX⟩
                                  have orow := orow.later bX
                                  have hN := hN.below bX
                                  have rrow := rrow.mono hH.bb.size
                                  refine hK.out _ _ (hH.later bX) (fun hH => ?_)
                                  refine wpAnyH_take (i := 8) (oi := { dst := some 166, op := Op.move (Operand.tmp 174), type := 31, pos := "outright.go:308", after := #[{ on := 7, ground := Ground.data }], guard := none }) (v := .tuple #[csV s6, .slice ra rn rc, .int .i64 0]) rfl (by kernel_rfl) (by kernel_rfl) (by kernel_rfl) (fun _ _ _ h => h) (Or.inl ⟨by rfl, fun w' h => by go_simp⟩) hH ?_
                                  try simp only [Act.put, List.setIfInBounds_toArray, List.set_cons_zero, List.set_cons_succ]
                                  refine wpAnyH_take (i := 9) (oi := { dst := some 175, op := Op.extract (Operand.tmp 166) 0, type := 28, pos := "outright.go:308", after := #[{ on := 8, ground := Ground.data }], guard := none }) (v := csV s6) rfl (by kernel_rfl) (by kernel_rfl) (by kernel_rfl) (fun _ _ _ h => h) (Or.inl ⟨by rfl, fun w' h => by go_simp⟩) hH ?_
                                  try simp only [Act.put, List.setIfInBounds_toArray, List.set_cons_zero, List.set_cons_succ]
                                  refine wpAnyH_take (i := 10) (oi := { dst := some 176, op := Op.extract (Operand.tmp 166) 1, type := 22, pos := "outright.go:308", after := #[{ on := 8, ground := Ground.data }, { on := 13, ground := Ground.gcOnly Departure.lateStores }], guard := none }) (v := .slice ra rn rc) rfl (by kernel_rfl) (by kernel_rfl) (by kernel_rfl) (fun _ _ _ h => h) (Or.inl ⟨by rfl, fun w' h => by go_simp⟩) hH ?_
                                  try simp only [Act.put, List.setIfInBounds_toArray, List.set_cons_zero, List.set_cons_succ]
                                  refine wpAnyH_take (i := 11) (oi := { dst := some 177, op := Op.extract (Operand.tmp 166) 2, type := 30, pos := "outright.go:308", after := #[{ on := 8, ground := Ground.data }, { on := 14, ground := Ground.gcOnly Departure.lateStores }], guard := none }) (v := .int .i64 0) rfl (by kernel_rfl) (by kernel_rfl) (by kernel_rfl) (fun _ _ _ h => h) (Or.inl ⟨by rfl, fun w' h => by go_simp⟩) hH ?_
                                  try simp only [Act.put, List.setIfInBounds_toArray, List.set_cons_zero, List.set_cons_succ]
                                  refine wpAnyH_ready (rs := [13]) (by kernel_rfl) (by simp) ?_
                                  refine AllReadyH.cons (o := { dst := none, op := Op.store 28 (Operand.tmp 16) (Operand.tmp 175), type := 0, pos := "outright.go:308", after := #[{ on := 12, ground := Ground.data }, { on := 9, ground := Ground.data }, { on := 7, ground := Ground.chain }, { on := 0, ground := Ground.phase }, { on := 1, ground := Ground.phase }, { on := 2, ground := Ground.phase }, { on := 3, ground := Ground.phase }, { on := 4, ground := Ground.phase }, { on := 5, ground := Ground.phase }, { on := 6, ground := Ground.phase }, { on := 7, ground := Ground.phase }, { on := 8, ground := Ground.phase }, { on := 9, ground := Ground.phase }, { on := 10, ground := Ground.textOnly Departure.lateStores }, { on := 11, ground := Ground.textOnly Departure.lateStores }, { on := 12, ground := Ground.phase }], guard := none }) rfl (fun K hK => ?_) AllReadyH.nil
                                  refine op_putC (zs := csL ⟨0, false, 0, 0, 0, 0, 0, 0, 0, 0, 0, 0, 0, 0, 0⟩) (csL s6) rfl (sizeCsL _) (csL_one _) rfl _ _ rfl _ rfl rfl hN ?_
                                  intro w9 b9 g9
                                  have hZ := hH.grown hN g9 hG hp
                                  have PX : Hid (ZZ w l s [(_, s6), (CB, c3)] [(.slice ra rn rc, rs)] w9) := (hZ.addB b9 hp).addR (rowV_blk rrow hN g9 (by decide))
                                  refine hK.out _ _ hZ (fun hH => ?_)
                                  simp only [Act.put]
                                  refine wpAnyH_take (i := 14) (oi := { dst := some 14, op := Op.assign (Operand.tmp 176), type := 22, pos := "outright.go:308", after := #[{ on := 10, ground := Ground.data }, { on := 13, ground := Ground.chain }, { on := 0, ground := Ground.phase }, { on := 1, ground := Ground.phase }, { on := 2, ground := Ground.phase }, { on := 3, ground := Ground.phase }, { on := 4, ground := Ground.phase }, { on := 5, ground := Ground.phase }, { on := 6, ground := Ground.phase }, { on := 7, ground := Ground.phase }, { on := 8, ground := Ground.phase }, { on := 9, ground := Ground.phase }, { on := 10, ground := Ground.phase }, { on := 11, ground := Ground.textOnly Departure.lateStores }, { on := 12, ground := Ground.phase }, { on := 13, ground := Ground.phase }], guard := none }) (v := .slice ra rn rc) rfl (by kernel_rfl) (by kernel_rfl) (by kernel_rfl) (fun _ _ _ h => h) (Or.inl ⟨by rfl, fun w' h => by go_simp⟩) hH ?_
                                  try simp only [Act.put, List.setIfInBounds_toArray, List.set_cons_zero, List.set_cons_succ]
                                  refine wpAnyH_take (i := 15) (oi := { dst := some 13, op := Op.assign (Operand.tmp 177), type := 30, pos := "outright.go:308", after := #[{ on := 11, ground := Ground.data }, { on := 14, ground := Ground.chain }, { on := 0, ground := Ground.phase }, { on := 1, ground := Ground.phase }, { on := 2, ground := Ground.phase }, { on := 3, ground := Ground.phase }, { on := 4, ground := Ground.phase }, { on := 5, ground := Ground.phase }, { on := 6, ground := Ground.phase }, { on := 7, ground := Ground.phase }, { on := 8, ground := Ground.phase }, { on := 9, ground := Ground.phase }, { on := 10, ground := Ground.phase }, { on := 11, ground := Ground.phase }, { on := 12, ground := Ground.phase }, { on := 13, ground := Ground.phase }, { on := 14, ground := Ground.phase }], guard := none }) (v := .int .i64 0) rfl (by kernel_rfl) (by kernel_rfl) (by kernel_rfl) (fun _ _ _ h => h) (Or.inl ⟨by rfl, fun w' h => by go_simp⟩) hH ?_
                                  try simp only [Act.put, List.setIfInBounds_toArray, List.set_cons_zero, List.set_cons_succ]
                                  refine wpAnyH_done (by kernel_rfl) ?_ _
                                  clear hH hK b9 g9 hN hZ
                                  go_wp2_with fail
                                  go_meet
                                  case rel => exact ⟨_, _, _, _, rfl, rfl, rfl, PX⟩
                              · go_simp
                                have hN : Blk y2.drew.heap.size 28 (csL ⟨0, false, 0, 0, 0, 0, 0, 0, 0, 0, 0, 0, 0, 0, 0⟩) (y2.drew.alloc (.cells #[.int .i64 0, .bool false, .int .i64 0, .int .i64 0, .int .i64 0, .int .i64 0, .int .i64 0, .int .i64 0, .int .i64 0, .int .i64 0, .int .i64 0, .int .i64 0, .int .i64 0, .int .i64 0, .int .i64 0] 28)) := Blk.new _ _ _
                                have hG := hH.lts
                                have hp : w.heap.size < y2.drew.heap.size := hH.p.lt
                                refine hK.out _ _ (hH.later (below_alloc _ _)) (fun hH => ?_)
                                refine wpAnyH_ready (rs := [1]) (by kernel_rfl) (by simp) ?_
                                refine AllReadyH.cons (o := { dst := some 168, op := Op.call { callee := Callee.value (Operand.func 13), args := #[Operand.tmp 167], argTypes := #[24] }, type := 24, pos := "outright.go:308", after := #[{ on := 0, ground := Ground.data }], guard := none }) rfl (fun K hK => ?_) AllReadyH.nil
                                go_simp
                                refine (OW.out _ hH.bb).mono ?_
                                rintro e x7 ⟨oa, on, oc, rfl, orow, bX⟩
                                have hN := hN.below bX
                                refine hK.out _ _ (hH.later bX) (fun hH => ?_)
                                refine wpAnyH_ready (rs := [6]) (by kernel_rfl) (by simp) ?_
                                refine AllReadyH.cons (o := { dst := some 173, op := Op.call { callee := Callee.value (Operand.func 16), args := #[Operand.tmp 172, Operand.const (Value.int IntKind.i64 1)], argTypes := #[3, 3] }, type := 35, pos := "outright.go:308", after := #[{ on := 5, ground := Ground.data }, { on := 1, ground := Ground.chain }], guard := none }) rfl (fun K hK => ?_) AllReadyH.nil
                                go_simp
                                refine (LT.out _ _ _).mono ?_
                                rintro e x8 ⟨rfl, bX⟩
                                have hN := hN.below bX
                                have orow := orow.later bX
                                refine hK.out _ _ (hH.later bX) (fun hH => ?_)
                                refine wpAnyH_ready (rs := [7]) (by kernel_rfl) (by simp) ?_
                                refine AllReadyH.cons (o := { dst := some 174, op := Op.call { callee := Callee.value (Operand.func 12), args := #[Operand.tmp 168, Operand.tmp 169, Operand.tmp 173], argTypes := #[24, 28, 35] }, type := 31, pos := "outright.go:308", after := #[{ on := 1, ground := Ground.data }, { on := 2, ground := Ground.data }, { on := 6, ground := Ground.data }, { on := 6, ground := Ground.chain }], guard := none }) rfl (fun K hK => ?_) AllReadyH.nil
                                go_simp
                                refine (SK5.out _ _ orow.rd).mono ?_
                                rintro e x9 ⟨ra, rn, rc, rfl, rrow, bX⟩
                                have hN := hN.below bX
                                have orow := orow.later bX
                                have rrow := rrow.mono hH.bb.size
                                refine hK.out _ _ (hH.later bX) (fun hH => ?_)
                                refine wpAnyH_take (i := 8) (oi := { dst := some 166, op := Op.move (Operand.tmp 174), type := 31, pos := "outright.go:308", after := #[{ on := 7, ground := Ground.data }], guard := none }) (v := .tuple #[csV s6, .slice ra rn rc, .int .i64 0]) rfl (by kernel_rfl) (by kernel_rfl) (by kernel_rfl) (fun _ _ _ h => h) (Or.inl ⟨by rfl, fun w' h => by go_simp⟩) hH ?_
                                try simp only [Act.put, List.setIfInBounds_toArray, List.set_cons_zero, List.set_cons_succ]
                                refine wpAnyH_take (i := 9) (oi := { dst := some 175, op := Op.extract (Operand.tmp 166) 0, type := 28, pos := "outright.go:308", after := #[{ on := 8, ground := Ground.data }], guard := none }) (v := csV s6) rfl (by kernel_rfl) (by kernel_rfl) (by kernel_rfl) (fun _ _ _ h => h) (Or.inl ⟨by rfl, fun w' h => by go_simp⟩) hH ?_
                                try simp only [Act.put, List.setIfInBounds_toArray, List.set_cons_zero, List.set_cons_succ]
                                refine wpAnyH_take (i := 10) (oi := { dst := some 176, op := Op.extract (Operand.tmp 166) 1, type := 22, pos := "outright.go:308", after := #[{ on := 8, ground := Ground.data }, { on := 13, ground := Ground.gcOnly Departure.lateStores }], guard := none }) (v := .slice ra rn rc) rfl (by kernel_rfl) (by kernel_rfl) (by kernel_rfl) (fun _ _ _ h => h) (Or.inl ⟨by rfl, fun w' h => by go_simp⟩) hH ?_
                                try simp only [Act.put, List.setIfInBounds_toArray, List.set_cons_zero, List.set_cons_succ]
                                refine wpAnyH_take (i := 11) (oi := { dst := some 177, op := Op.extract (Operand.tmp 166) 2, type := 30, pos := "outright.go:308", after := #[{ on := 8, ground := Ground.data }, { on := 14, ground := Ground.gcOnly Departure.lateStores }], guard := none }) (v := .int .i64 0) rfl (by kernel_rfl) (by kernel_rfl) (by kernel_rfl) (fun _ _ _ h => h) (Or.inl ⟨by rfl, fun w' h => by go_simp⟩) hH ?_
                                try simp only [Act.put, List.setIfInBounds_toArray, List.set_cons_zero, List.set_cons_succ]
                                refine wpAnyH_ready (rs := [13]) (by kernel_rfl) (by simp) ?_
                                refine AllReadyH.cons (o := { dst := none, op := Op.store 28 (Operand.tmp 16) (Operand.tmp 175), type := 0, pos := "outright.go:308", after := #[{ on := 12, ground := Ground.data }, { on := 9, ground := Ground.data }, { on := 7, ground := Ground.chain }, { on := 0, ground := Ground.phase }, { on := 1, ground := Ground.phase }, { on := 2, ground := Ground.phase }, { on := 3, ground := Ground.phase }, { on := 4, ground := Ground.phase }, { on := 5, ground := Ground.phase }, { on := 6, ground := Ground.phase }, { on := 7, ground := Ground.phase }, { on := 8, ground := Ground.phase }, { on := 9, ground := Ground.phase }, { on := 10, ground := Ground.textOnly Departure.lateStores }, { on := 11, ground := Ground.textOnly Departure.lateStores }, { on := 12, ground := Ground.phase }], guard := none }) rfl (fun K hK => ?_) AllReadyH.nil
                                refine op_putC (zs := csL ⟨0, false, 0, 0, 0, 0, 0, 0, 0, 0, 0, 0, 0, 0, 0⟩) (csL s6) rfl (sizeCsL _) (csL_one _) rfl _ _ rfl _ rfl rfl hN ?_
                                intro w9 b9 g9
                                have hZ := hH.grown hN g9 hG hp
                                have PX : Hid (ZZ w l s [(_, s6), (CB, c3)] [(.slice ra rn rc, rs)] w9) := (hZ.addB b9 hp).addR (rowV_blk rrow hN g9 (by decide))
                                refine hK.out _ _ hZ (fun hH => ?_)
                                simp only [Act.put]
                                refine wpAnyH_take (i := 14) (oi := { dst := some 14, op := Op.assign (Operand.tmp 176), type := 22, pos := "outright.go:308", after := #[{ on := 10, ground := Ground.data }, { on := 13, ground := Ground.chain }, { on := 0, ground := Ground.phase }, { on := 1, ground := Ground.phase }, { on := 2, ground := Ground.phase }, { on := 3, ground := Ground.phase }, { on := 4, ground := Ground.phase }, { on := 5, ground := Ground.phase }, { on := 6, ground := Ground.phase }, { on := 7, ground := Ground.phase }, { on := 8, ground := Ground.phase }, { on := 9, ground := Ground.phase }, { on := 10, ground := Ground.phase }, { on := 11, ground := Ground.textOnly Departure.lateStores }, { on := 12, ground := Ground.phase }, { on := 13, ground := Ground.phase }], guard := none }) (v := .slice ra rn rc) rfl (by kernel_rfl) (by kernel_rfl) (by kernel_rfl) (fun _ _ _ h => h) (Or.inl ⟨by rfl, fun w' h => by go_simp⟩) hH ?_
                                try simp only [Act.put, List.setIfInBounds_toArray, List.set_cons_zero, List.set_cons_succ]
                                refine wpAnyH_take (i := 15) (oi := { dst := some 13, op := Op.assign (Operand.tmp 177), type := 30, pos := "outright.go:308", after := #[{ on := 11, ground := Ground.data }, { on := 14, ground := Ground.chain }, { on := 0, ground := Ground.phase }, { on := 1, ground := Ground.phase }, { on := 2, ground := Ground.phase }, { on := 3, ground := Ground.phase }, { on := 4, ground := Ground.phase }, { on := 5, ground := Ground.phase }, { on := 6, ground := Ground.phase }, { on := 7, ground := Ground.phase }, { on := 8, ground := Ground.phase }, { on := 9, ground := Ground.phase }, { on := 10, ground := Ground.phase }, { on := 11, ground := Ground.phase }, { on := 12, ground := Ground.phase }, { on := 13, ground := Ground.phase }, { on := 14, ground := Ground.phase }], guard := none }) (v := .int .i64 0) rfl (by kernel_rfl) (by kernel_rfl) (by kernel_rfl) (fun _ _ _ h => h) (Or.inl ⟨by rfl, fun w' h => by go_simp⟩) hH ?_
                                try simp only [Act.put, List.setIfInBounds_toArray, List.set_cons_zero, List.set_cons_succ]
                                refine wpAnyH_done (by kernel_rfl) ?_ _
                                clear hH hK b9 g9 hN hZ
                                go_wp2_with fail
                                go_meet
                                case rel => exact ⟨_, _, _, _, rfl, rfl, rfl, PX⟩
                            case rest =>
                              obtain ⟨SB, ra, rn, rc, rfl, rfl, rfl, S18⟩ := hcut
                              clear S17 S16 g0
                              have g0 : wc.cell? ⟨SB, 0, none⟩ = some (.int .i64 4) := by rw [← f8]; exact (S18.out.b (SB, s6) (by simp)).cell 0 _ rfl
                              go_wp2_with fail
                              refine (CN.out rs _ _ (S18.out.r (.slice ra rn rc, rs) (by simp)).rd (by have := F12.out; omega)).mono ?_
                              rintro e y3 ⟨rfl, hy⟩
                              rw [hy, F9.out]
                              clear hy y3
                              have S19 : Hid (ZZ w l s [(CB, c3)] [] wc) := S18.out.sub (by simp) (by simp)
                              go_upto_region 20 with fail
                              go_cut [13, 14, 17] from 18 to 226 (fun v13 v14 v17 wx => ∃ G ra rn rc, v17 = .pointer (some ⟨G, 0, none⟩) ∧ v14 = .slice ra rn rc ∧ v13 = .int .i64 0 ∧ Hid (ZZ w l s [(G, z), (CB, c3)] [(.slice ra rn rc, 1 :: rz)] wx))
                              case first => as_aux_lemma =>
                                have hu := Try.underlying24
                                have hi := SZ.out
                                have hu2 := Try.underlying28
                                refine wp_region_held_drew (S := fun w' => ZZ w l s [(CB, c3)] [] w') (by kernel_rfl) (S19.out.drew) (fun hH => ?_)
                                refine wpAnyH_take (i := 0) (oi := { dst := some 191, op := Op.load 24 (Operand.tmp 5), type := 24, pos := "outright.go:312", after := #[], guard := none }) (v := .agg (polL l s).toArray) rfl (by kernel_rfl) (by kernel_rfl) (by kernel_rfl) (fun _ _ _ h => h) (yieldsIf_load_mid (by rfl) _ _ rfl w.heap.size 0 rfl (polL l s) _ (fun w' h => h.p.all) hu rfl hi) hH ?_
                                try simp only [Act.put, List.setIfInBounds_toArray, List.set_cons_zero, List.set_cons_succ]
                                refine wpAnyH_take (i := 2) (oi := { dst := some 193, op := Op.load 28 (Operand.tmp 11), type := 28, pos := "outright.go:312", after := #[], guard := none }) (v := .agg (csL c3).toArray) rfl (by kernel_rfl) (by kernel_rfl) (by kernel_rfl) (fun _ _ _ h => h) (yieldsIf_load_mid (by rfl) _ _ rfl CB 0 rfl (csL c3) _ (fun w' h => (h.b (CB, c3) (by simp)).all) hu2 rfl (sizeCsL c3)) hH ?_
                                try simp only [Act.put, List.setIfInBounds_toArray, List.set_cons_zero, List.set_cons_succ]
                                refine wpAnyH_take (i := 3) (oi := { dst := some 194, op := Op.move (Operand.tmp 1), type := 3, pos := "outright.go:312", after := #[], guard := none }) (v := .int .i64 t) rfl (by kernel_rfl) (by kernel_rfl) (by kernel_rfl) (fun _ _ _ h => h) (Or.inl ⟨by rfl, fun w' h => by go_simp⟩) hH ?_
                                try simp only [Act.put, List.setIfInBounds_toArray, List.set_cons_zero, List.set_cons_succ]
                                refine wpAnyH_take (i := 4) (oi := { dst := some 195, op := Op.move (Operand.tmp 2), type := 3, pos := "outright.go:312", after := #[], guard := none }) (v := .int .i64 d) rfl (by kernel_rfl) (by kernel_rfl) (by kernel_rfl) (fun _ _ _ h => h) (Or.inl ⟨by rfl, fun w' h => by go_simp⟩) hH ?_
                                try simp only [Act.put, List.setIfInBounds_toArray, List.set_cons_zero, List.set_cons_succ]
                                refine wpAnyH_take (i := 5) (oi := { dst := some 196, op := Op.binOp BinOp.add 3 (Operand.tmp 194) (Operand.tmp 195) 3, type := 3, pos := "outright.go:312", after := #[{ on := 3, ground := Ground.data }, { on := 4, ground := Ground.data }], guard := none }) (v := .int .i64 (wrap64 (t + d))) rfl (by kernel_rfl) (by kernel_rfl) (by kernel_rfl) (fun _ _ _ h => h) (Or.inl ⟨by rfl, fun w' h => by have e64 := wrapC (t + d); go_simp⟩) hH ?_
                                try simp only [Act.put, List.setIfInBounds_toArray, List.set_cons_zero, List.set_cons_succ]
                                refine wpAnyH_take (i := 6) (oi := { dst := some 197, op := Op.binOp BinOp.add 3 (Operand.tmp 196) (Operand.const (Value.int IntKind.i64 1)) 3, type := 3, pos := "outright.go:312", after := #[{ on := 5, ground := Ground.data }], guard := none }) (v := .int .i64 (wrap64 (wrap64 (t + d) + 1))) rfl (by kernel_rfl) (by kernel_rfl) (by kernel_rfl) (fun _ _ _ h => h) (Or.inl ⟨by rfl, fun w' h => by have e64 := wrapC (wrap64 (t + d) + 1); go_simp⟩) hH ?_
                                try simp only [Act.put, List.setIfInBounds_toArray, List.set_cons_zero, List.set_cons_succ]
                                refine wpAnyH_ready (rs := [1, 13]) (by kernel_rfl) (by simp) ?_
                                refine AllReadyH.cons (o := { dst := some 192, op := Op.call { callee := Callee.value (Operand.func 13), args := #[Operand.tmp 191], argTypes := #[24] }, type := 24, pos := "outright.go:312", after := #[{ on := 0, ground := Ground.data }], guard := none }) rfl (fun K hK => ?_) (AllReadyH.cons (o := { dst := some 17, op := Op.alloc 28, type := 0, pos := "outright.go:312", after := #[], guard := none }) rfl (fun K hK => ?_) AllReadyH.nil)
                                · go_simp
                                  refine (OW.out _ hH.bb).mono ?_
                                  rintro e x1 ⟨oa, on, oc, rfl, orow, bX⟩
                                  refine hK.out _ _ (hH.later bX) (fun hH => ?_)
                                  refine wpAnyH_ready (rs := [7, 13]) (by kernel_rfl) (by simp) ?_
                                  refine AllReadyH.cons (o := { dst := some 198, op := Op.call { callee := Callee.value (Operand.func 16), args := #[Operand.tmp 197, Operand.const (Value.int IntKind.i64 1)], argTypes := #[3, 3] }, type := 35, pos := "outright.go:312", after := #[{ on := 6, ground := Ground.data }, { on := 1, ground := Ground.chain }], guard := none }) rfl (fun K hK => ?_) (AllReadyH.cons (o := { dst := some 17, op := Op.alloc 28, type := 0, pos := "outright.go:312", after := #[], guard := none }) rfl (fun K hK => ?_) AllReadyH.nil)
                                  · go_simp
                                    refine (LT.out _ _ _).mono ?_
                                    rintro e x2 ⟨rfl, bX⟩
                                    have orow := orow.later bX
                                    refine hK.out _ _ (hH.later bX) (fun hH => ?_)
                                    refine wpAnyH_ready (rs := [8, 13]) (by kernel_rfl) (by simp) ?_
                                    refine AllReadyH.cons (o := { dst := some 199, op := Op.call { callee := Callee.value (Operand.func 12), args := #[Operand.tmp 192, Operand.tmp 193, Operand.tmp 198], argTypes := #[24, 28, 35] }, type := 31, pos := "outright.go:312", after := #[{ on := 1, ground := Ground.data }, { on := 2, ground := Ground.data }, { on := 7, ground := Ground.data }, { on := 7, ground := Ground.chain }], guard := none }) rfl (fun K hK => ?_) (AllReadyH.cons (o := { dst := some 17, op := Op.alloc 28, type := 0, pos := "outright.go:312", after := #[], guard := none }) rfl (fun K hK => ?_) AllReadyH.nil)
                                    · go_simp
                                      refine (SK6.out _ _ orow.rd).mono ?_
                                      rintro e x3 ⟨ra, rn, rc, rfl, rrow, bX⟩
                                      have orow := orow.later bX
                                      have rrow := rrow.mono hH.bb.size
                                      refine hK.out _ _ (hH.later bX) (fun hH => ?_)
                                      refine wpAnyH_take (i := 9) (oi := { dst := some 190, op := Op.move (Operand.tmp 199), type := 31, pos := "outright.go:312", after := #[{ on := 8, ground := Ground.data }], guard := none }) (v := .tuple #[csV z, .slice ra rn rc, .int .i64 0]) rfl (by kernel_rfl) (by kernel_rfl) (by kernel_rfl) (fun _ _ _ h => h) (Or.inl ⟨by rfl, fun w' h => by go_simp⟩) hH ?_
                                      try simp only [Act.put, List.setIfInBounds_toArray, List.set_cons_zero, List.set_cons_succ]
                                      refine wpAnyH_take (i := 10) (oi := { dst := some 200, op := Op.extract (Operand.tmp 190) 0, type := 28, pos := "outright.go:312", after := #[{ on := 9, ground := Ground.data }], guard := none }) (v := csV z) rfl (by kernel_rfl) (by kernel_rfl) (by kernel_rfl) (fun _ _ _ h => h) (Or.inl ⟨by rfl, fun w' h => by go_simp⟩) hH ?_
                                      try simp only [Act.put, List.setIfInBounds_toArray, List.set_cons_zero, List.set_cons_succ]
                                      refine wpAnyH_take (i := 11) (oi := { dst := some 201, op := Op.extract (Operand.tmp 190) 1, type := 22, pos := "outright.go:312", after := #[{ on := 9, ground := Ground.data }, { on := 14, ground := Ground.gcOnly Departure.lateStores }], guard := none }) (v := .slice ra rn rc) rfl (by kernel_rfl) (by kernel_rfl) (by kernel_rfl) (fun _ _ _ h => h) (Or.inl ⟨by rfl, fun w' h => by go_simp⟩) hH ?_
                                      try simp only [Act.put, List.setIfInBounds_toArray, List.set_cons_zero, List.set_cons_succ]
                                      refine wpAnyH_take (i := 12) (oi := { dst := some 202, op := Op.extract (Operand.tmp 190) 2, type := 30, pos := "outright.go:312", after := #[{ on := 9, ground := Ground.data }, { on := 15, ground := Ground.gcOnly Departure.lateStores }], guard := none }) (v := .int .i64 0) rfl (by kernel_rfl) (by kernel_rfl) (by kernel_rfl) (fun _ _ _ h => h) (Or.inl ⟨by rfl, fun w' h => by go_simp⟩) hH ?_
                                      try simp only [Act.put, List.setIfInBounds_toArray, List.set_cons_zero, List.set_cons_succ]
                                      refine wpAnyH_ready (rs := [13]) (by kernel_rfl) (by simp) ?_
                                      refine AllReadyH.cons (o := { dst := some 17, op := Op.alloc 28, type := 0, pos := "outright.go:312", after := #[], guard := none }) rfl (fun K hK => ?_) AllReadyH.nil
                                      go_simp
                                      have hN : Blk x3.heap.size 28 (csL ⟨0, false, 0, 0, 0, 0, 0, 0, 0, 0, 0, 0, 0, 0, 0⟩) (x3.alloc (.cells #[.int .i64 0, .bool false, .int .i64 0, .int .i64 0, .int .i64 0, .int .i64 0, .int .i64 0, .int .i64 0, .int .i64 0, .int .i64 0, .int .i64 0, .int .i64 0, .int .i64 0, .int .i64 0, .int .i64 0] 28)) := Blk.new _ _ _
                                      have hG := hH.lts
                                      have hp : w.heap.size < x3.heap.size := hH.p.lt
                                      have orow := orow.later (below_alloc x3 (.cells #[.int .i64 0, .bool false, .int .i64 0, .int .i64 0, .int .i64 0, .int .i64 0, .int .i64 0, .int .i64 0, .int .i64 0, .int .i64 0, .int .i64 0, .int .i64 0, .int .i64 0, .int .i64 0, .int .i64 0] 28))
                                      have rrow := rrow.later (below_alloc x3 (.cells #[.int .i64 0, .bool false, .int .i64 0, .int .i64 0, .int .i64 0, .int .i64 0, .int .i64 0, .int .i64 0, .int .i64 0, .int .i64 0, .int .i64 0, .int .i64 0, .int .i64 0, .int .i64 0, .int .i64 0] 28))
                                      refine hK.out _ _ (hH.later (below_alloc _ _)) (fun hH => ?_)
                                      refine wpAnyH_ready (rs := [14]) (by kernel_rfl) (by simp) ?_
                                      refine AllReadyH.cons (o := { dst := none, op := Op.store 28 (Operand.tmp 17) (Operand.tmp 200), type := 0, pos := "outright.go:312", after := #[{ on := 13, ground := Ground.data }, { on := 10, ground := Ground.data }, { on := 8, ground := Ground.chain }, { on := 0, ground := Ground.phase }, { on := 1, ground := Ground.phase }, { on := 2, ground := Ground.phase }, { on := 3, ground := Ground.phase }, { on := 4, ground := Ground.phase }, { on := 5, ground := Ground.phase }, { on := 6, ground := Ground.phase }, { on := 7, ground := Ground.phase }, { on := 8, ground := Ground.phase }, { on := 9, ground := Ground.phase }, { on := 10, ground := Ground.phase }, { on := 11, ground := Ground.textOnly Departure.lateStores }, { on := 12, ground := Ground.textOnly Departure.lateStores }, { on := 13, ground := Ground.phase }], guard := none }) rfl (fun K hK => ?_) AllReadyH.nil
                                      refine op_putC (zs := csL ⟨0, false, 0, 0, 0, 0, 0, 0, 0, 0, 0, 0, 0, 0, 0⟩) (csL z) rfl (sizeCsL _) (csL_one _) rfl _ _ rfl _ rfl rfl hN ?_
                                      intro w9 b9 g9
                                      have hZ := hH.grown hN g9 hG hp
                                      have PX : Hid (ZZ w l s [(_, z), (CB, c3)] [(.slice ra rn rc, 1 :: rz)] w9) := (hZ.addB b9 hp).addR (rowV_blk rrow hN g9 (by decide))
                                      refine hK.out _ _ hZ (fun hH => ?_)
                                      simp only [Act.put]
                                      refine wpAnyH_take (i := 15) (oi := { dst := some 14, op := Op.assign (Operand.tmp 201), type := 22, pos := "outright.go:312", after := #[{ on := 11, ground := Ground.data }, { on := 14, ground := Ground.chain }, { on := 0, ground := Ground.phase }, { on := 1, ground := Ground.phase }, { on := 2, ground := Ground.phase }, { on := 3, ground := Ground.phase }, { on := 4, ground := Ground.phase }, { on := 5, ground := Ground.phase }, { on := 6, ground := Ground.phase }, { on := 7, ground := Ground.phase }, { on := 8, ground := Ground.phase }, { on := 9, ground := Ground.phase }, { on := 10, ground := Ground.phase }, { on := 11, ground := Ground.phase }, { on := 12, ground := Ground.textOnly Departure.lateStores }, { on := 13, ground := Ground.phase }, { on := 14, ground := Ground.phase }], guard := none }) (v := .slice ra rn rc) rfl (by kernel_rfl) (by kernel_rfl) (by kernel_rfl) (fun _ _ _ h => h) (Or.inl ⟨by rfl, fun w' h => by go_simp⟩) hH ?_
                                      try simp only [Act.put, List.setIfInBounds_toArray, List.set_cons_zero, List.set_cons_succ]
                                      refine wpAnyH_take (i := 16) (oi := { dst := some 13, op := Op.assign (Operand.tmp 202), type := 30, pos := "outright.go:312", after := #[{ on := 12, ground := Ground.data }, { on := 15, ground := Ground.chain }, { on := 0, ground := Ground.phase }, { on := 1, ground := Ground.phase }, { on := 2, ground := Ground.phase }, { on := 3, ground := Ground.phase }, { on := 4, ground := Ground.phase }, { on := 5, ground := Ground.phase }, { on := 6, ground := Ground.phase }, { on := 7, ground := Ground.phase }, { on := 8, ground := Ground.phase }, { on := 9, ground := Ground.phase }, { on := 10, ground := Ground.phase }, { on := 11, ground := Ground.phase }, { on := 12, ground := Ground.phase }, { on := 13, ground := Ground.phase }, { on := 14, ground := Ground.phase }, { on := 15, ground := Ground.phase }], guard := none }) (v := .int .i64 0) rfl (by kernel_rfl) (by kernel_rfl) (by kernel_rfl) (fun _ _ _ h => h) (Or.inl ⟨by rfl, fun w' h => by go_simp⟩) hH ?_
                                      try simp only [Act.put, List.setIfInBounds_toArray, List.set_cons_zero, List.set_cons_succ]
                                      refine wpAnyH_done (by kernel_rfl) ?_ _
                                      clear hH hK b9 g9 hN hZ
                                      go_wp2_with fail
                                      go_meet
                                      case rel => exact ⟨_, _, _, _, rfl, rfl, rfl, PX⟩
                                    · go_simp
                                      have hN : Blk x2.heap.size 28 (csL ⟨0, false, 0, 0, 0, 0, 0, 0, 0, 0, 0, 0, 0, 0, 0⟩) (x2.alloc (.cells #[.int .i64 0, .bool false, .int .i64 0, .int .i64 0, .int .i64 0, .int .i64 0, .int .i64 0, .int .i64 0, .int .i64 0, .int .i64 0, .int .i64 0, .int .i64 0, .int .i64 0, .int .i64 0, .int .i64 0] 28)) := Blk.new _ _ _
                                      have hG := hH.lts
                                      have hp : w.heap.size < x2.heap.size := hH.p.lt
                                      have orow := orow.later (below_alloc x2 (.cells #[.int .i64 0, .bool false, .int .i64 0, .int .i64 0, .int .i64 0, .int .i64 0, .int .i64 0, .int .i64 0, .int .i64 0, .int .i64 0, .int .i64 0, .int .i64 0, .int .i64 0, .int .i64 0, .int .i64 0] 28))
                                      refine hK.out _ _ (hH.later (below_alloc _ _)) (fun hH => ?_)
                                      refine wpAnyH_ready (rs := [8]) (by kernel_rfl) (by simp) ?_
                                      refine AllReadyH.cons (o := { dst := some 199, op := Op.call { callee := Callee.value (Operand.func 12), args := #[Operand.tmp 192, Operand.tmp 193, Operand.tmp 198], argTypes := #[24, 28, 35] }, type := 31, pos := "outright.go:312", after := #[{ on := 1, ground := Ground.data }, { on := 2, ground := Ground.data }, { on := 7, ground := Ground.data }, { on := 7, ground := Ground.chain }], guard := none }) rfl (fun K hK => ?_) AllReadyH.nil
                                      go_simp
                                      refine (SK6.out _ _ orow.rd).mono ?_
                                      rintro e x4 ⟨ra, rn, rc, rfl, rrow, bX⟩
                                      have orow := orow.later bX
                                      have hN := hN.below bX
                                      have rrow := rrow.mono hH.bb.size
                                      refine hK.out _ _ (hH.later bX) (fun hH => ?_)
                                      refine wpAnyH_take (i := 9) (oi := { dst := some 190, op := Op.move (Operand.tmp 199), type := 31, pos := "outright.go:312", after := #[{ on := 8, ground := Ground.data }], guard := none }) (v := .tuple #[csV z, .slice ra rn rc, .int .i64 0]) rfl (by kernel_rfl) (by kernel_rfl) (by kernel_rfl) (fun _ _ _ h => h) (Or.inl ⟨by rfl, fun w' h => by go_simp⟩) hH ?_
                                      try simp only [Act.put, List.setIfInBounds_toArray, List.set_cons_zero, List.set_cons_succ]
                                      refine wpAnyH_take (i := 10) (oi := { dst := some 200, op := Op.extract (Operand.tmp 190) 0, type := 28, pos := "outright.go:312", after := #[{ on := 9, ground := Ground.data }], guard := none }) (v := csV z) rfl (by kernel_rfl) (by kernel_rfl) (by kernel_rfl) (fun _ _ _ h => h) (Or.inl ⟨by rfl, fun w' h => by go_simp⟩) hH ?_
                                      try simp only [Act.put, List.setIfInBounds_toArray, List.set_cons_zero, List.set_cons_succ]
                                      refine wpAnyH_take (i := 11) (oi := { dst := some 201, op := Op.extract (Operand.tmp 190) 1, type := 22, pos := "outright.go:312", after := #[{ on := 9, ground := Ground.data }, { on := 14, ground := Ground.gcOnly Departure.lateStores }], guard := none }) (v := .slice ra rn rc) rfl (by kernel_rfl) (by kernel_rfl) (by kernel_rfl) (fun _ _ _ h => h) (Or.inl ⟨by rfl, fun w' h => by go_simp⟩) hH ?_
                                      try simp only [Act.put, List.setIfInBounds_toArray, List.set_cons_zero, List.set_cons_succ]
                                      refine wpAnyH_take (i := 12) (oi := { dst := some 202, op := Op.extract (Operand.tmp 190) 2, type := 30, pos := "outright.go:312", after := #[{ on := 9, ground := Ground.data }, { on := 15, ground := Ground.gcOnly Departure.lateStores }], guard := none }) (v := .int .i64 0) rfl (by kernel_rfl) (by kernel_rfl) (by kernel_rfl) (fun _ _ _ h => h) (Or.inl ⟨by rfl, fun w' h => by go_simp⟩) hH ?_
                                      try simp only [Act.put, List.setIfInBounds_toArray, List.set_cons_zero, List.set_cons_succ]
                                      refine wpAnyH_ready (rs := [14]) (by kernel_rfl) (by simp) ?_
                                      refine AllReadyH.cons (o := { dst := none, op := Op.store 28 (Operand.tmp 17) (Operand.tmp 200), type := 0, pos := "outright.go:312", after := #[{ on := 13, ground := Ground.data }, { on := 10, ground := Ground.data }, { on := 8, ground := Ground.chain }, { on := 0, ground := Ground.phase }, { on := 1, ground := Ground.phase }, { on := 2, ground := Ground.phase }, { on := 3, ground := Ground.phase }, { on := 4, ground := Ground.phase }, { on := 5, ground := Ground.phase }, { on := 6, ground := Ground.phase }, { on := 7, ground := Ground.phase }, { on := 8, ground := Ground.phase }, { on := 9, ground := Ground.phase }, { on := 10, ground := Ground.phase }, { on := 11, ground := Ground.textOnly Departure.lateStores }, { on := 12, ground := Ground.textOnly Departure.lateStores }, { on := 13, ground := Ground.phase }], guard := none }) rfl (fun K hK => ?_) AllReadyH.nil
                                      refine op_putC (zs := csL ⟨0, false, 0, 0, 0, 0, 0, 0, 0, 0, 0, 0, 0, 0, 0⟩) (csL z) rfl (sizeCsL _) (csL_one _) rfl _ _ rfl _ rfl rfl hN ?_
                                      intro w9 b9 g9
                                      have hZ := hH.grown hN g9 hG hp
                                      have PX : Hid (ZZ w l s [(_, z), (CB, c3)] [(.slice ra rn rc, 1 :: rz)] w9) := (hZ.addB b9 hp).addR (rowV_blk rrow hN g9 (by decide))
                                      refine hK.out _ _ hZ (fun hH => ?_)
                                      simp only [Act.put]
                                      refine wpAnyH_take (i := 15) (oi := { dst := some 14, op := Op.assign (Operand.tmp 201), type := 22, pos := "outright.go:312", after := #[{ on := 11, ground := Ground.data }, { on := 14, ground := Ground.chain }, { on := 0, ground := Ground.phase }, { on := 1, ground := Ground.phase }, { on := 2, ground := Ground.phase }, { on := 3, ground := Ground.phase }, { on := 4, ground := Ground.phase }, { on := 5, ground := Ground.phase }, { on := 6, ground := Ground.phase }, { on := 7, ground := Ground.phase }, { on := 8, ground := Ground.phase }, { on := 9, ground := Ground.phase }, { on := 10, ground := Ground.phase }, { on := 11, ground := Ground.phase }, { on := 12, ground := Ground.textOnly Departure.lateStores }, { on := 13, ground := Ground.phase }, { on := 14, ground := Ground.phase }], guard := none }) (v := .slice ra rn rc) rfl (by kernel_rfl) (by kernel_rfl) (by kernel_rfl) (fun _ _ _ h => h) (Or.inl ⟨by rfl, fun w' h => by go_simp⟩) hH ?_
                                      try simp only [Act.put, List.setIfInBounds_toArray, List.set_cons_zero, List.set_cons_succ]
                                      refine wpAnyH_take (i := 16) (oi := { dst := some 13, op := Op.assign (Operand.tmp 202), type := 30, pos := "outright.go:312", after := #[{ on := 12, ground := Ground.data }, { on := 15, ground := Ground.chain }, { on := 0, ground := Ground.phase }, { on := 1, ground := Ground.phase }, { on := 2, ground := Ground.phase }, { on := 3, ground := Ground.phase }, { on := 4, ground := Ground.phase }, { on := 5, ground := Ground.phase }, { on := 6, ground := Ground.phase }, { on := 7, ground := Ground.phase }, { on := 8, ground := Ground.phase }, { on := 9, ground := Ground.phase }, { on := 10, ground := Ground.phase }, { on := 11, ground := Ground.phase }, { on := 12, ground := Ground.phase }, { on := 13, ground := Ground.phase }, { on := 14, ground := Ground.phase }, { on := 15, ground := Ground.phase }], guard := none }) (v := .int .i64 0) rfl (by kernel_rfl) (by kernel_rfl) (by kernel_rfl) (fun _ _ _ h => h) (Or.inl ⟨by rfl, fun w' h => by go_simp⟩) hH ?_
                                      try simp only [Act.put, List.setIfInBounds_toArray, List.set_cons_zero, List.set_cons_succ]
                                      refine wpAnyH_done (by kernel_rfl) ?_ _
                                      clear hH hK b9 g9 hN hZ
                                      go_wp2_with fail
                                      go_meet
                                      case rel => exact ⟨_, _, _, _, rfl, rfl, rfl, PX⟩
                                  · go_simp
                                    have hN : Blk x1.heap.size 28 (csL ⟨0, false, 0, 0, 0, 0, 0, 0, 0, 0, 0, 0, 0, 0, 0⟩) (x1.alloc (.cells #[.int .i64 0, .bool false, .int .i64 0, .int .i64 0, .int .i64 0, .int .i64 0, .int .i64 0, .int .i64 0, .int .i64 0, .int .i64 0, .int .i64 0, .int .i64 0, .int .i64 0, .int .i64 0, .int .i64 0] 28)) := Blk.new _ _ _
                                    have hG := hH.lts
                                    have hp : w.heap.size < x1.heap.size := hH.p.lt
                                    have orow := orow.later (below_alloc x1 (.cells #[.int .i64 0, .bool false, .int .i64 0, .int .i64 0, .int .i64 0, .int .i64 0, .int .i64 0, .int .i64 0, .int .i64 0, .int .i64 0, .int .i64 0, .int .i64 0, .int .i64 0, .int .i64 0, .int .i64 0] 28))
                                    refine hK.out _ _ (hH.later (below_alloc _ _)) (fun hH => ?_)
                                    refine wpAnyH_ready (rs := [7]) (by kernel_rfl) (by simp) ?_
                                    refine AllReadyH.cons (o := { dst := some 198, op := Op.call { callee := Callee.value (Operand.func 16), args := #[Operand.tmp 197, Operand.const (Value.int IntKind.i64 1)], argTypes := #[3, 3] }, type := 35, pos := "outright.go:312", after := #[{ on := 6, ground := Ground.data }, { on := 1, ground := Ground.chain }], guard := none }) rfl (fun K hK => ?_) AllReadyH.nil
                                    go_simp
                                    refine (LT.out _ _ _).mono ?_
                                    rintro e x5 ⟨rfl, bX⟩
                                    have orow := orow.later bX
                                    have hN := hN.below bX
                                    refine hK.out _ _ (hH.later bX) (fun hH => ?_)
                                    refine wpAnyH_ready (rs := [8]) (by kernel_rfl) (by simp) ?_
                                    refine AllReadyH.cons (o := { dst := some 199, op := Op.call { callee := Callee.value (Operand.func 12), args := #[Operand.tmp 192, Operand.tmp 193, Operand.tmp 198], argTypes := #[24, 28, 35] }, type := 31, pos := "outright.go:312", after := #[{ on := 1, ground := Ground.data }, { on := 2, ground := Ground.data }, { on := 7, ground := Ground.data }, { on := 7, ground := Ground.chain }], guard := none }) rfl (fun K hK => ?_) AllReadyH.nil
                                    go_simp
                                    refine (SK6.out _ _ orow.rd).mono ?_
                                    rintro e x6 ⟨ra, rn, rc, rfl, rrow, bX⟩
                                    have orow := orow.later bX
                                    have hN := hN.below bX
                                    have rrow := rrow.mono hH.bb.size
                                    refine hK.out _ _ (hH.later bX) (fun hH => ?_)
                                    refine wpAnyH_take (i := 9) (oi := { dst := some 190, op := Op.move (Operand.tmp 199), type := 31, pos := "outright.go:312", after := #[{ on := 8, ground := Ground.data }], guard := none }) (v := .tuple #[csV z, .slice ra rn rc, .int .i64 0]) rfl (by kernel_rfl) (by kernel_rfl) (by kernel_rfl) (fun _ _ _ h => h) (Or.inl ⟨by rfl, fun w' h => by go_simp⟩) hH ?_
                                    try simp only [Act.put, List.setIfInBounds_toArray, List.set_cons_zero, List.set_cons_succ]
                                    refine wpAnyH_take (i := 10) (oi := { dst := some 200, op := Op.extract (Operand.tmp 190) 0, type := 28, pos := "outright.go:312", after := #[{ on := 9, ground := Ground.data }], guard := none }) (v := csV z) rfl (by kernel_rfl) (by kernel_rfl) (by kernel_rfl) (fun _ _ _ h => h) (Or.inl ⟨by rfl, fun w' h => by go_simp⟩) hH ?_
                                    try simp only [Act.put, List.setIfInBounds_toArray, List.set_cons_zero, List.set_cons_succ]
                                    refine wpAnyH_take (i := 11) (oi := { dst := some 201, op := Op.extract (Operand.tmp 190) 1, type := 22, pos := "outright.go:312", after := #[{ on := 9, ground := Ground.data }, { on := 14, ground := Ground.gcOnly Departure.lateStores }], guard := none }) (v := .slice ra rn rc) rfl (by kernel_rfl) (by kernel_rfl) (by kernel_rfl) (fun _ _ _ h => h) (Or.inl ⟨by rfl, fun w' h => by go_simp⟩) hH ?_
                                    try simp only [Act.put, List.setIfInBounds_toArray, List.set_cons_zero, List.set_cons_succ]
                                    refine wpAnyH_take (i := 12) (oi := { dst := some 202, op := Op.extract (Operand.tmp 190) 2, type := 30, pos := "outright.go:312", after := #[{ on := 9, ground := Ground.data }, { on := 15, ground := Ground.gcOnly Departure.lateStores }], guard := none }) (v := .int .i64 0) rfl (by kernel_rfl) (by kernel_rfl) (by kernel_rfl) (fun _ _ _ h => h) (Or.inl ⟨by rfl, fun w' h => by go_simp⟩) hH ?_
                                    try simp only [Act.put, List.setIfInBounds_toArray, List.set_cons_zero, List.set_cons_succ]
                                    refine wpAnyH_ready (rs := [14]) (by kernel_rfl) (by simp) ?_
                                    refine AllReadyH.cons (o := { dst := none, op := Op.store 28 (Operand.tmp 17) (Operand.tmp 200), type := 0, pos := "outright.go:312", after := #[{ on := 13, ground := Ground.data }, { on := 10, ground := Ground.data }, { on := 8, ground := Ground.chain }, { on := 0, ground := Ground.phase }, { on := 1, ground := Ground.phase }, { on := 2, ground := Ground.phase }, { on := 3, ground := Ground.phase }, { on := 4, ground := Ground.phase }, { on := 5, ground := Ground.phase }, { on := 6, ground := Ground.phase }, { on := 7, ground := Ground.phase }, { on := 8, ground := Ground.phase }, { on := 9, ground := Ground.phase }, { on := 10, ground := Ground.phase }, { on := 11, ground := Ground.textOnly Departure.lateStores }, { on := 12, ground := Ground.textOnly Departure.lateStores }, { on := 13, ground := Ground.phase }], guard := none }) rfl (fun K hK => ?_) AllReadyH.nil
                                    refine op_putC (zs := csL ⟨0, false, 0, 0, 0, 0, 0, 0, 0, 0, 0, 0, 0, 0, 0⟩) (csL z) rfl (sizeCsL _) (csL_one _) rfl _ _ rfl _ rfl rfl hN ?_
                                    intro w9 b9 g9
                                    have hZ := hH.grown hN g9 hG hp
                                    have PX : Hid (ZZ w l s [(_, z), (CB, c3)] [(.slice ra rn rc, 1 :: rz)] w9) := (hZ.addB b9 hp).addR (rowV_blk rrow hN g9 (by decide))
                                    refine hK.out _ _ hZ (fun hH => ?_)
                                    simp only [Act.put]
                                    refine wpAnyH_take (i := 15) (oi := { dst := some 14, op := Op.assign (Operand.tmp 201), type := 22, pos := "outright.go:312", after := #[{ on := 11, ground := Ground.data }, { on := 14, ground := Ground.chain }, { on := 0, ground := Ground.phase }, { on := 1, ground := Ground.phase }, { on := 2, ground := Ground.phase }, { on := 3, ground := Ground.phase }, { on := 4, ground := Ground.phase }, { on := 5, ground := Ground.phase }, { on := 6, ground := Ground.phase }, { on := 7, ground := Ground.phase }, { on := 8, ground := Ground.phase }, { on := 9, ground := Ground.phase }, { on := 10, ground := Ground.phase }, { on := 11, ground := Ground.phase }, { on := 12, ground := Ground.textOnly Departure.lateStores }, { on := 13, ground := Ground.phase }, { on := 14, ground := Ground.phase }], guard := none }) (v := .slice ra rn rc) rfl (by kernel_rfl) (by kernel_rfl) (by kernel_rfl) (fun _ _ _ h => h) (Or.inl ⟨by rfl, fun w' h => by go_simp⟩) hH ?_
                                    try simp only [Act.put, List.setIfInBounds_toArray, List.set_cons_zero, List.set_cons_succ]
                                    refine wpAnyH_take (i := 16) (oi := { dst := some 13, op := Op.assign (Operand.tmp 202), type := 30, pos := "outright.go:312", after := #[{ on := 12, ground := Ground.data }, { on := 15, ground := Ground.chain }, { on := 0, ground := Ground.phase }, { on := 1, ground := Ground.phase }, { on := 2, ground := Ground.phase }, { on := 3, ground := Ground.phase }, { on := 4, ground := Ground.phase }, { on := 5, ground := Ground.phase }, { on := 6, ground := Ground.phase }, { on := 7, ground := Ground.phase }, { on := 8, ground := Ground.phase }, { on := 9, ground := Ground.phase }, { on := 10, ground := Ground.phase }, { on := 11, ground := Ground.phase }, { on := 12, ground := Ground.phase }, { on := 13, ground := Ground.phase }, { on := 14, ground := Ground.phase }, { on := 15, ground := Ground.phase }], guard := none }) (v := .int .i64 0) rfl (by kernel_rfl) (by kernel_rfl) (by kernel_rfl) (fun _ _ _ h => h) (Or.inl ⟨by rfl, fun w' h => by go_simp⟩) hH ?_
                                    try simp only [Act.put, List.setIfInBounds_toArray, List.set_cons_zero, List.set_cons_succ]
                                    refine wpAnyH_done (by kernel_rfl) ?_ _
                                    clear hH hK b9 g9 hN hZ
                                    go_wp2_with fail
                                    go_meet
                                    case rel => exact ⟨_, _, _, _, rfl, rfl, rfl, PX⟩
                                · go_simp
                                  have hN : Blk wc.drew.heap.size 28 (csL ⟨0, false, 0, 0, 0, 0, 0, 0, 0, 0, 0, 0, 0, 0, 0⟩) (wc.drew.alloc (.cells #[.int .i64 0, .bool false, .int .i64 0, .int .i64 0, .int .i64 0, .int .i64 0, .int .i64 0, .int .i64 0, .int .i64 0, .int .i64 0, .int .i64 0, .int .i64 0, .int .i64 0, .int .i64 0, .int .i64 0] 28)) := Blk.new _ _ _
                                  have hG := hH.lts
                                  have hp : w.heap.size < wc.drew.heap.size := hH.p.lt
                                  refine hK.out _ _ (hH.later (below_alloc _ _)) (fun hH => ?_)
                                  refine wpAnyH_ready (rs := [1]) (by kernel_rfl) (by simp) ?_
                                  refine AllReadyH.cons (o := { dst := some 192, op := Op.call { callee := Callee.value (Operand.func 13), args := #[Operand.tmp 191], argTypes := #[24] }, type := 24, pos := "outright.go:312", after := #[{ on := 0, ground := Ground.data }], guard := none }) rfl (fun K hK => ?_) AllReadyH.nil
                                  go_simp
                                  refine (OW.out _ hH.bb).mono ?_
                                  rintro e x7 ⟨oa, on, oc, rfl, orow, bX⟩
                                  have hN := hN.below bX
                                  refine hK.out _ _ (hH.later bX) (fun hH => ?_)
                                  refine wpAnyH_ready (rs := [7]) (by kernel_rfl) (by simp) ?_
                                  refine AllReadyH.cons (o := { dst := some 198, op := Op.call { callee := Callee.value (Operand.func 16), args := #[Operand.tmp 197, Operand.const (Value.int IntKind.i64 1)], argTypes := #[3, 3] }, type := 35, pos := "outright.go:312", after := #[{ on := 6, ground := Ground.data }, { on := 1, ground := Ground.chain }], guard := none }) rfl (fun K hK => ?_) AllReadyH.nil
                                  go_simp
                                  refine (LT.out _ _ _).mono ?_
                                  rintro e x8 ⟨rfl, bX⟩
                                  have hN := hN.below bX
                                  have orow := orow.later bX
                                  refine hK.out _ _ (hH.later bX) (fun hH => ?_)
                                  refine wpAnyH_ready (rs := [8]) (by kernel_rfl) (by simp) ?_
                                  refine AllReadyH.cons (o := { dst := some 199, op := Op.call { callee := Callee.value (Operand.func 12), args := #[Operand.tmp 192, Operand.tmp 193, Operand.tmp 198], argTypes := #[24, 28, 35] }, type := 31, pos := "outright.go:312", after := #[{ on := 1, ground := Ground.data }, { on := 2, ground := Ground.data }, { on := 7, ground := Ground.data }, { on := 7, ground := Ground.chain }], guard := none }) rfl (fun K hK => ?_) AllReadyH.nil
                                  go_simp
                                  refine (SK6.out _ _ orow.rd).mono ?_
                                  rintro e x9 ⟨ra, rn, rc, rfl, rrow, bX⟩
                                  have hN := hN.below bX
                                  have orow := orow.later bX
                                  have rrow := rrow.mono hH.bb.size
                                  refine hK.out _ _ (hH.later bX) (fun hH => ?_)
                                  refine wpAnyH_take (i := 9) (oi := { dst := some 190, op := Op.move (Operand.tmp 199), type := 31, pos := "outright.go:312", after := #[{ on := 8, ground := Ground.data }], guard := none }) (v := .tuple #[csV z, .slice ra rn rc, .int .i64 0]) rfl (by kernel_rfl) (by kernel_rfl) (by kernel_rfl) (fun _ _ _ h => h) (Or.inl ⟨by rfl, fun w' h => by go_simp⟩) hH ?_
                                  try simp only [Act.put, List.setIfInBounds_toArray, List.set_cons_zero, List.set_cons_succ]
                                  refine wpAnyH_take (i := 10) (oi := { dst := some 200, op := Op.extract (Operand.tmp 190) 0, type := 28, pos := "outright.go:312", after := #[{ on := 9, ground := Ground.data }], guard := none }) (v := csV z) rfl (by kernel_rfl) (by kernel_rfl) (by kernel_rfl) (fun _ _ _ h => h) (Or.inl ⟨by rfl, fun w' h => by go_simp⟩) hH ?_
                                  try simp only [Act.put, List.setIfInBounds_toArray, List.set_cons_zero, List.set_cons_succ]
                                  refine wpAnyH_take (i := 11) (oi := { dst := some 201, op := Op.extract (Operand.tmp 190) 1, type := 22, pos := "outright.go:312", after := #[{ on := 9, ground := Ground.data }, { on := 14, ground := Ground.gcOnly Departure.lateStores }], guard := none }) (v := .slice ra rn rc) rfl (by kernel_rfl) (by kernel_rfl) (by kernel_rfl) (fun _ _ _ h => h) (Or.inl ⟨by rfl, fun w' h => by go_simp⟩) hH ?_
                                  try simp only [Act.put, List.setIfInBounds_toArray, List.set_cons_zero, List.set_cons_succ]
                                  refine wpAnyH_take (i := 12) (oi := { dst := some 202, op := Op.extract (Operand.tmp 190) 2, type := 30, pos := "outright.go:312", after := #[{ on := 9, ground := Ground.data }, { on := 15, ground := Ground.gcOnly Departure.lateStores }], guard := none }) (v := .int .i64 0) rfl (by kernel_rfl) (by kernel_rfl) (by kernel_rfl) (fun _ _ _ h => h) (Or.inl ⟨by rfl, fun w' h => by go_simp⟩) hH ?_
                                  try simp only [Act.put, List.setIfInBounds_toArray, List.set_cons_zero, List.set_cons_succ]
                                  refine wpAnyH_ready (rs := [14]) (by kernel_rfl) (by simp) ?_
                                  refine AllReadyH.cons (o := { dst := none, op := Op.store 28 (Operand.tmp 17) (Operand.tmp 200), type := 0, pos := "outright.go:312", after := #[{ on := 13, ground := Ground.data }, { on := 10, ground := Ground.data }, { on := 8, ground := Ground.chain }, { on := 0, ground := Ground.phase }, { on := 1, ground := Ground.phase }, { on := 2, ground := Ground.phase }, { on := 3, ground := Ground.phase }, { on := 4, ground := Ground.phase }, { on := 5, ground := Ground.phase }, { on := 6, ground := Ground.phase }, { on := 7, ground := Ground.phase }, { on := 8, ground := Ground.phase }, { on := 9, ground := Ground.phase }, { on := 10, ground := Ground.phase }, { on := 11, ground := Ground.textOnly Departure.lateStores }, { on := 12, ground := Ground.textOnly Departure.lateStores }, { on := 13, ground := Ground.phase }], guard := none }) rfl (fun K hK => ?_) AllReadyH.nil
                                  refine op_putC (zs := csL ⟨0, false, 0, 0, 0, 0, 0, 0, 0, 0, 0, 0, 0, 0, 0⟩) (csL z) rfl (sizeCsL _) (csL_one _) rfl _ _ rfl _ rfl rfl hN ?_
                                  intro w9 b9 g9
                                  have hZ := hH.grown hN g9 hG hp
                                  have PX : Hid (ZZ w l s [(_, z), (CB, c3)] [(.slice ra rn rc, 1 :: rz)] w9) := (hZ.addB b9 hp).addR (rowV_blk rrow hN g9 (by decide))
                                  refine hK.out _ _ hZ (fun hH => ?_)
                                  simp only [Act.put]
                                  refine wpAnyH_take (i := 15) (oi := { dst := some 14, op := Op.assign (Operand.tmp 201), type := 22, pos := "outright.go:312", after := #[{ on := 11, ground := Ground.data }, { on := 14, ground := Ground.chain }, { on := 0, ground := Ground.phase }, { on := 1, ground := Ground.phase }, { on := 2, ground := Ground.phase }, { on := 3, ground := Ground.phase }, { on := 4, ground := Ground.phase }, { on := 5, ground := Ground.phase }, { on := 6, ground := Ground.phase }, { on := 7, ground := Ground.phase }, { on := 8, ground := Ground.phase }, { on := 9, ground := Ground.phase }, { on := 10, ground := Ground.phase }, { on := 11, ground := Ground.phase }, { on := 12, ground := Ground.textOnly Departure.lateStores }, { on := 13, ground := Ground.phase }, { on := 14, ground := Ground.phase }], guard := none }) (v := .slice ra rn rc) rfl (by kernel_rfl) (by kernel_rfl) (by kernel_rfl) (fun _ _ _ h => h) (Or.inl ⟨by rfl, fun w' h => by go_simp⟩) hH ?_
                                  try simp only [Act.put, List.setIfInBounds_toArray, List.set_cons_zero, List.set_cons_succ]
                                  refine wpAnyH_take (i := 16) (oi := { dst := some 13, op := Op.assign (Operand.tmp 202), type := 30, pos := "outright.go:312", after := #[{ on := 12, ground := Ground.data }, { on := 15, ground := Ground.chain }, { on := 0, ground := Ground.phase }, { on := 1, ground := Ground.phase }, { on := 2, ground := Ground.phase }, { on := 3, ground := Ground.phase }, { on := 4, ground := Ground.phase }, { on := 5, ground := Ground.phase }, { on := 6, ground := Ground.phase }, { on := 7, ground := Ground.phase }, { on := 8, ground := Ground.phase }, { on := 9, ground := Ground.phase }, { on := 10, ground := Ground.phase }, { on := 11, ground := Ground.phase }, { on := 12, ground := Ground.phase }, { on := 13, ground := Ground.phase }, { on := 14, ground := Ground.phase }, { on := 15, ground := Ground.phase }], guard := none }) (v := .int .i64 0) rfl (by kernel_rfl) (by kernel_rfl) (by kernel_rfl) (fun _ _ _ h => h) (Or.inl ⟨by rfl, fun w' h => by go_simp⟩) hH ?_
                                  try simp only [Act.put, List.setIfInBounds_toArray, List.set_cons_zero, List.set_cons_succ]
                                  refine wpAnyH_done (by kernel_rfl) ?_ _
                                  clear hH hK b9 g9 hN hZ
                                  go_wp2_with fail
                                  go_meet
                                  case rel => exact ⟨_, _, _, _, rfl, rfl, rfl, PX⟩
                              case rest =>
                                obtain ⟨ZB, ra, rn, rc, rfl, rfl, rfl, S20⟩ := hcut
                                clear S19 S18 g0
                                obtain ⟨g, rfl, hn, -, hcell⟩ := slice_some (S20.out.r (.slice ra rn rc, 1 :: rz) (by simp)) (by simp [bkL])
                                have k0 : wc.cell? ⟨g, 0, none⟩ = some (.int .i64 1) := hcell 0 _ rfl
                                have g10 : wc.cell? ⟨ZB, 10, none⟩ = some (.int .i64 1) := by rw [← f10]; exact (S20.out.b (ZB, z) (by simp)).cell 10 _ rfl
                                have g0 : wc.cell? ⟨ZB, 0, none⟩ = some (.int .i64 z.st) := (S20.out.b (ZB, z) (by simp)).cell 0 _ rfl
                                have n1 : (0 : Int) < (rn : Int) := by
                                  have e1 : rn = rz.length + 1 := by rw [hn]; simp [bkL]
                                  omega
                                have n2 : 0 < rn := by omega
                                clear hcell hn
                                go_wp2_with fail
                                go_ret
                                exact ⟨rfl, S20.out.bb⟩
end Go.Proofs.Ytmhjghaipfijdaa
