/-
  Ours: the walk of the statements' ran (gen_coran.py: THE SEAT's OWN NUMBERS).
-/
import Derived.Test.YtmbbigkpeefjjabDoorCoRan0
namespace Go.Proofs.YtmbbigkpeefjjabDoor
open Go.RowKit LedM PolM CoM
set_option maxRecDepth 20000 in
set_option maxHeartbeats 16000000 in
theorem ran_at (l hs : List Int) (s : Value) (c : Cs) (ea eb : Ev) (w0 w : World) (SB : Nat) (vL vG : Value) (vs us : List Value) (hl : l.length = 17) (hr : Rd w0 s (bkL hs)) (hb : hs.length * 8 ≤ 140737488355328) (b0 : Below w0.heap.size w0 w) (hsh : SH w0.heap.size SB w vL vG vs us) (hv : vs.length + 2 ≤ 4194304)
    (hq1 : ∀ k, k ≤ 2 → good l hs = true → FQ l (rk l hs c [ea, eb] k).1) (hq2 : ∀ k, k ≤ 2 → good l hs = true → FQ l (rk l hs c [eb, ea] k).1) :
    Calls Tryd.prog 10 #[PV l s, prV c c, evV ea, evV eb, .pointer (some ⟨SB, 0, none⟩)] w (StdAns w0 SB vs.length (rk l hs c [ea, eb] 2).1 w) := by
  show Calls _ _ #[.agg (polL l s).toArray, .agg (prL c c).toArray, .agg (evL ea).toArray, .agg (evL eb).toArray, _] _ _
  have OW : Hid (∀ w', Below w0.heap.size w0 w' → Calls Tryd.prog 16 #[PV l s] w' (OwnAns l hs w')) := fun w' h => own_at l hs s w' hl (hr.later h) hb
  have SM : Hid (∀ (L : List Int) v v' w', L.length ≤ 1152921504606846976 → Rd w' v (bkL L) → Rd w' v' (bkL L) → Calls Tryd.prog 18 #[v, v'] w' fun e w'' => e = .returned (.bool true) ∧ Below w'.heap.size w' w'') := fun L v v' w' hb h h' => same_at L v v' w' h h' hb
  have RU1 : Hid (∀ s' v' w', Rd w' s' (bkL hs) → RdV w' v' [ea, eb] → Calls Tryd.prog 15 #[PV l s', csV c, v'] w' (RunAns (rk l hs c [ea, eb] 2) w')) := fun s' v' w' h h' => run_at l hs s' v' c [ea, eb] w' hl h hb h' (by simp)
  have RU2 : Hid (∀ s' v' w', Rd w' s' (bkL hs) → RdV w' v' [eb, ea] → Calls Tryd.prog 15 #[PV l s', csV c, v'] w' (RunAns (rk l hs c [eb, ea] 2) w')) := fun s' v' w' h h' => run_at l hs s' v' c [eb, ea] w' hl h hb h' (by simp)
  have RR1 : Hid (∀ v' w', Below w0.heap.size w0 w' → RdV w' v' [ea, eb] → Calls Tryd.prog 17 #[PV l s, csV c, v'] w' (RunAns (rk l hs c [ea, eb] 2) w')) := fun v' w' h h' => rrun_at l hs s v' c [ea, eb] w' hl (hr.later h) (by omega) h' (by simp) hq1
  have RR2 : Hid (∀ v' w', Below w0.heap.size w0 w' → RdV w' v' [eb, ea] → Calls Tryd.prog 17 #[PV l s, csV c, v'] w' (RunAns (rk l hs c [eb, ea] 2) w')) := fun v' w' h h' => rrun_at l hs s v' c [eb, ea] w' hl (hr.later h) (by omega) h' (by simp) hq2
  have SZ : Hid ((Tryd.prog.info? 24).map (·.size) = some (polL l s).length) := by show _ = _; rw [polL_len hl]; exact sizeP
  have LN1 := rk_len l hs c [ea, eb] 2
  have LN2 := rk_len l hs c [eb, ea] 2
  have HV1 : Hid (vs.length ≤ 4194304) := by show _ ≤ _; omega
  have HV2 : Hid (∀ x : Value, (vs ++ [x]).length ≤ 4194304) := fun x => by rw [List.length_append]; simp; omega
  have BB : Below w.heap.size w (((((w.alloc (.cells (polL l s).toArray 24)).alloc (.cells (prL c c).toArray 29)).alloc (.cells (evL ea).toArray 37)).alloc (.cells (evL eb).toArray 37)).alloc (.cells #[.int .i64 0, .bool false, .int .i64 0, .int .i64 0, .int .i64 0, .int .i64 0, .int .i64 0, .int .i64 0, .int .i64 0, .int .i64 0, .int .i64 0, .int .i64 0, .int .i64 0, .int .i64 0, .int .i64 0, .int .i64 0, .bool false, .int .i64 0, .int .i64 0, .int .i64 0, .int .i64 0, .int .i64 0, .int .i64 0, .int .i64 0, .int .i64 0, .int .i64 0, .int .i64 0, .int .i64 0, .int .i64 0, .int .i64 0] 29)) := below_trans (below_trans (below_trans (below_trans (below_alloc _ _) (below_alloc _ _)) (below_alloc _ _)) (below_alloc _ _)) (below_alloc _ _)
  have K0 : KD w0 [(w.heap.size, 24, polL l s), (w.heap.size + 1, 29, prL c c), (w.heap.size + 1 + 1, 37, evL ea), (w.heap.size + 1 + 1 + 1, 37, evL eb), (w.heap.size + 1 + 1 + 1 + 1, 29, prL ⟨0, false, 0, 0, 0, 0, 0, 0, 0, 0, 0, 0, 0, 0, 0⟩ ⟨0, false, 0, 0, 0, 0, 0, 0, 0, 0, 0, 0, 0, 0, 0⟩)] (((((w.alloc (.cells (polL l s).toArray 24)).alloc (.cells (prL c c).toArray 29)).alloc (.cells (evL ea).toArray 37)).alloc (.cells (evL eb).toArray 37)).alloc (.cells #[.int .i64 0, .bool false, .int .i64 0, .int .i64 0, .int .i64 0, .int .i64 0, .int .i64 0, .int .i64 0, .int .i64 0, .int .i64 0, .int .i64 0, .int .i64 0, .int .i64 0, .int .i64 0, .int .i64 0, .int .i64 0, .bool false, .int .i64 0, .int .i64 0, .int .i64 0, .int .i64 0, .int .i64 0, .int .i64 0, .int .i64 0, .int .i64 0, .int .i64 0, .int .i64 0, .int .i64 0, .int .i64 0, .int .i64 0] 29)) := by
    have k0 : KD w0 [] w := ⟨b0, fun k q hq => by simp at hq, fun j k q q' hq => by simp at hq⟩
    have := ((((k0.new 24 (polL l s)).new 29 (prL c c)).new 37 (evL ea)).new 37 (evL eb)).new 29 (prL ⟨0, false, 0, 0, 0, 0, 0, 0, 0, 0, 0, 0, 0, 0, 0⟩ ⟨0, false, 0, 0, 0, 0, 0, 0, 0, 0, 0, 0, 0, 0, 0⟩)
    simp only [size_al, List.nil_append, List.cons_append] at this
    exact this
  have S0 : Hid (SD w0 w [(w.heap.size, 24, polL l s), (w.heap.size + 1, 29, prL c c), (w.heap.size + 1 + 1, 37, evL ea), (w.heap.size + 1 + 1 + 1, 37, evL eb), (w.heap.size + 1 + 1 + 1 + 1, 29, prL ⟨0, false, 0, 0, 0, 0, 0, 0, 0, 0, 0, 0, 0, 0, 0⟩ ⟨0, false, 0, 0, 0, 0, 0, 0, 0, 0, 0, 0, 0, 0, 0⟩)] SB vL vG vs us (.slice none 0 0) (.slice none 0 0) (.slice none 0 0) (.slice none 0 0) [] [] [] [] (((((w.alloc (.cells (polL l s).toArray 24)).alloc (.cells (prL c c).toArray 29)).alloc (.cells (evL ea).toArray 37)).alloc (.cells (evL eb).toArray 37)).alloc (.cells #[.int .i64 0, .bool false, .int .i64 0, .int .i64 0, .int .i64 0, .int .i64 0, .int .i64 0, .int .i64 0, .int .i64 0, .int .i64 0, .int .i64 0, .int .i64 0, .int .i64 0, .int .i64 0, .int .i64 0, .int .i64 0, .bool false, .int .i64 0, .int .i64 0, .int .i64 0, .int .i64 0, .int .i64 0, .int .i64 0, .int .i64 0, .int .i64 0, .int .i64 0, .int .i64 0, .int .i64 0, .int .i64 0, .int .i64 0] 29))) :=
    ⟨K0, hsh.later BB, RowV.nil _ _ _, RowV.nil _ _ _, RowV.nil _ _ _, RowV.nil _ _ _, Apt.nil _, Apt.nil _, Apt.nil _, Apt.nil _, Apt.nil _, far_nil _ _, far_nil _ _, far_nil _ _, fun G T cs _ _ _ h => h.below BB⟩
  obtain ⟨sa, sc, rfl, -, -, -⟩ := hr
  clear hl hb b0 hsh hv hq1 hq2 K0 BB
  generalize rk l hs c [ea, eb] 2 = x1 at *
  generalize rk l hs c [eb, ea] 2 = x2 at *
  obtain ⟨d1, a1⟩ := x1
  obtain ⟨d2, a2⟩ := x2
  dsimp only at LN1 LN2
  have LA1 : Hid (a1.length ≤ 1152921504606846976) := by show _ ≤ _; omega
  have LB1 : Hid (a1.length ≤ 1000) := by show _ ≤ _; omega
  have LA2 : Hid (a2.length ≤ 1152921504606846976) := by show _ ≤ _; omega
  clear LN1 LN2
  generalize (bkL hs).length = sn at *
  go_enter Tryd.func10, Tryd.ntmps10
  go_upto_region 1 with fail
  generalize ((((w.alloc (.cells (polL l (.slice sa sn sc)).toArray 24)).alloc (.cells (prL c c).toArray 29)).alloc (.cells (evL ea).toArray 37)).alloc (.cells (evL eb).toArray 37)).alloc (.cells #[.int .i64 0, .bool false, .int .i64 0, .int .i64 0, .int .i64 0, .int .i64 0, .int .i64 0, .int .i64 0, .int .i64 0, .int .i64 0, .int .i64 0, .int .i64 0, .int .i64 0, .int .i64 0, .int .i64 0, .int .i64 0, .bool false, .int .i64 0, .int .i64 0, .int .i64 0, .int .i64 0, .int .i64 0, .int .i64 0, .int .i64 0, .int .i64 0, .int .i64 0, .int .i64 0, .int .i64 0, .int .i64 0, .int .i64 0] 29) = w1 at *
  go_upto_region 2 with (first
  | ((with_reducible refine at_loadT 37 ?_); refine step_load rfl 37 _ rfl (w.heap.size + 1 + 1) 0 rfl [.int .i64 ea.k, .int .i64 ea.t, .int .i64 ea.d, .int .i64 ea.a] _ (Blk.all (S0.out.kd.at 2 rfl)) Tryd.underlying37 rfl (sizeEvL ea) ?_)
  | ((with_reducible refine at_loadT 37 ?_); refine step_load rfl 37 _ rfl (w.heap.size + 1 + 1 + 1) 0 rfl [.int .i64 eb.k, .int .i64 eb.t, .int .i64 eb.d, .int .i64 eb.a] _ (Blk.all (S0.out.kd.at 3 rfl)) Tryd.underlying37 rfl (sizeEvL eb) ?_))
  have S1 : Hid (SD w0 w [(w.heap.size, 24, polL l (.slice sa sn sc)), (w.heap.size + 1, 29, prL c c), (w.heap.size + 1 + 1, 37, evL ea), (w.heap.size + 1 + 1 + 1, 37, evL eb), (w.heap.size + 1 + 1 + 1 + 1, 29, prL ⟨0, false, 0, 0, 0, 0, 0, 0, 0, 0, 0, 0, 0, 0, 0⟩ ⟨0, false, 0, 0, 0, 0, 0, 0, 0, 0, 0, 0, 0, 0, 0⟩), (w1.heap.size, 37, evL ea ++ (evL eb ++ evL ⟨-7, 0, 0, 0⟩))] SB vL vG vs us (.slice none 0 0) (.slice none 0 0) (.slice none 0 0) (.slice none 0 0) [] [] [] [] (w1.alloc (.cells #[.int .i64 ea.k, .int .i64 ea.t, .int .i64 ea.d, .int .i64 ea.a, .int .i64 eb.k, .int .i64 eb.t, .int .i64 eb.d, .int .i64 eb.a, .int .i64 (-7), .int .i64 0, .int .i64 0, .int .i64 0] 37))) := S0.out.addN (Blk.new 37 (evL ea ++ (evL eb ++ evL ⟨-7, 0, 0, 0⟩)) w1)
  have FBW : Hid (w.heap.size ≤ w1.heap.size) := Nat.le_of_lt (S0.out.kd.lt 0 rfl)
  clear S0
  generalize w1.alloc (.cells #[.int .i64 ea.k, .int .i64 ea.t, .int .i64 ea.d, .int .i64 ea.a, .int .i64 eb.k, .int .i64 eb.t, .int .i64 eb.d, .int .i64 eb.a, .int .i64 (-7), .int .i64 0, .int .i64 0, .int .i64 0] 37) = w2 at *
  obtain ⟨FB, hFB⟩ : ∃ B, w1.heap.size = B := ⟨_, rfl⟩
  rw [hFB] at S1 FBW
  rw [hFB]
  clear hFB
  go_upto_region 3 with fail
  go_upto_region 3 with fail
  try simp only [Act.put]
  go_cut [14, 15] from 25 to 138 (fun v14 v15 wx => ∃ G ra rn rc, v14 = .pointer (some ⟨G, 0, none⟩) ∧ v15 = .slice ra rn rc ∧ Hid (SD w0 w [(w.heap.size, 24, polL l (.slice sa sn sc)), (w.heap.size + 1, 29, prL c c), (w.heap.size + 1 + 1, 37, evL ea), (w.heap.size + 1 + 1 + 1, 37, evL eb), (w.heap.size + 1 + 1 + 1 + 1, 29, prL ⟨0, false, 0, 0, 0, 0, 0, 0, 0, 0, 0, 0, 0, 0, 0⟩ ⟨0, false, 0, 0, 0, 0, 0, 0, 0, 0, 0, 0, 0, 0, 0⟩), (FB, 37, evL ea ++ (evL eb ++ evL ⟨-7, 0, 0, 0⟩)), (G, 27, csL d1)] SB vL vG vs us (.slice none 0 0) (.slice ra rn rc) (.slice none 0 0) (.slice none 0 0) [] a1 [] [] wx))
  case first => as_aux_lemma =>
    have hu := Tryd.underlying24
    have hi := SZ.out
    have hu2 := Tryd.underlying27
    have hi2 := sizeCsL c
    have hu3 := Tryd.underlying37
    have hu4 := Tryd.underlying29
    refine wp_region_held_drew (S := fun w' => SD w0 w [(w.heap.size, 24, polL l (.slice sa sn sc)), (w.heap.size + 1, 29, prL c c), (w.heap.size + 1 + 1, 37, evL ea), (w.heap.size + 1 + 1 + 1, 37, evL eb), (w.heap.size + 1 + 1 + 1 + 1, 29, prL ⟨0, false, 0, 0, 0, 0, 0, 0, 0, 0, 0, 0, 0, 0, 0⟩ ⟨0, false, 0, 0, 0, 0, 0, 0, 0, 0, 0, 0, 0, 0, 0⟩), (FB, 37, evL ea ++ (evL eb ++ evL ⟨-7, 0, 0, 0⟩))] SB vL vG vs us (.slice none 0 0) (.slice none 0 0) (.slice none 0 0) (.slice none 0 0) [] [] [] [] w') (by kernel_rfl) (S1.out.drew) (fun hH => ?_)
    refine wpAnyH_take (i := 0) (oi := { dst := some 32, op := Op.load 24 (Operand.tmp 5), type := 24, pos := "law.go:116", after := #[], guard := none }) (v := .agg (polL l (.slice sa sn sc)).toArray) rfl (by kernel_rfl) (by kernel_rfl) (by kernel_rfl) (fun _ _ _ h => h) (yieldsIf_load_mid (by rfl) _ _ rfl w.heap.size 0 rfl (polL l (.slice sa sn sc)) _ (fun w' h => (Blk.all (h.kd.at 0 rfl))) hu rfl hi) hH ?_
    try simp only [Act.put, List.setIfInBounds_toArray, List.set_cons_zero, List.set_cons_succ]
    refine wpAnyH_take (i := 2) (oi := { dst := some 34, op := Op.fieldAddr 29 (Operand.tmp 6) 0, type := 0, pos := "law.go:116", after := #[], guard := none }) (v := .pointer (some ⟨w.heap.size + 1, 0, none⟩)) rfl (by kernel_rfl) (by kernel_rfl) (by kernel_rfl) (fun _ _ _ h => h) (Or.inl ⟨by rfl, fun w' h => by go_simp⟩) hH ?_
    try simp only [Act.put, List.setIfInBounds_toArray, List.set_cons_zero, List.set_cons_succ]
    refine wpAnyH_take (i := 3) (oi := { dst := some 35, op := Op.load 27 (Operand.tmp 34), type := 27, pos := "law.go:116", after := #[{ on := 2, ground := Ground.data }], guard := none }) (v := .agg (csL c).toArray) rfl (by kernel_rfl) (by kernel_rfl) (by kernel_rfl) (fun _ _ _ h => h) (yieldsIf_load_mid (by rfl) _ _ rfl (w.heap.size + 1) 0 rfl (csL c) _ (fun w' h => (pr_c (h.kd.at 1 rfl))) hu2 rfl hi2) hH ?_
    try simp only [Act.put, List.setIfInBounds_toArray, List.set_cons_zero, List.set_cons_succ]
    refine wpAnyH_take (i := 4) (oi := { dst := some 36, op := Op.move (Operand.tmp 13), type := 49, pos := "law.go:116", after := #[], guard := none }) (v := .slice (some ⟨FB, 0, none⟩) 2 3) rfl (by kernel_rfl) (by kernel_rfl) (by kernel_rfl) (fun _ _ _ h => h) (Or.inl ⟨by rfl, fun w' h => by go_simp⟩) hH ?_
    try simp only [Act.put, List.setIfInBounds_toArray, List.set_cons_zero, List.set_cons_succ]
    refine wpAnyH_ready (rs := [1, 9]) (by kernel_rfl) (by simp) ?_
    refine AllReadyH.cons (o := { dst := some 33, op := Op.call { callee := Callee.value (Operand.func 16), args := #[Operand.tmp 32], argTypes := #[24] }, type := 24, pos := "law.go:116", after := #[{ on := 0, ground := Ground.data }], guard := none }) rfl (fun K hK => ?_) (AllReadyH.cons (o := { dst := some 14, op := Op.alloc 27, type := 0, pos := "law.go:116", after := #[], guard := none }) rfl (fun K hK => ?_) AllReadyH.nil)
    · go_simp
      refine (OW.out _ hH.kd.bb).mono ?_
      rintro e x1 ⟨oa, on, oc, rfl, orow, bX⟩
      refine hK.out _ _ (hH.later bX) (fun hH => ?_)
      refine wpAnyH_ready (rs := [5, 9]) (by kernel_rfl) (by simp) ?_
      refine AllReadyH.cons (o := { dst := some 37, op := Op.call { callee := Callee.value (Operand.func 15), args := #[Operand.tmp 33, Operand.tmp 35, Operand.tmp 36], argTypes := #[24, 27, 49] }, type := 50, pos := "law.go:116", after := #[{ on := 1, ground := Ground.data }, { on := 3, ground := Ground.data }, { on := 4, ground := Ground.data }, { on := 1, ground := Ground.chain }], guard := none }) rfl (fun K hK => ?_) (AllReadyH.cons (o := { dst := some 14, op := Op.alloc 27, type := 0, pos := "law.go:116", after := #[], guard := none }) rfl (fun K hK => ?_) AllReadyH.nil)
      · go_simp
        refine (RU1.out _ _ _ orow.rd (rdv2 (hH.kd.at 5 rfl))).mono ?_
        rintro e x2 ⟨ra, rn, rc, rfl, rrow, bX⟩
        have orow := orow.later bX
        have fN : Far (.slice ra rn rc) vs us := far_new hH.sh rrow
        have rrow := rrow.mono hH.kd.bb.size
        refine hK.out _ _ (hH.later bX) (fun hH => ?_)
        refine wpAnyH_take (i := 6) (oi := { dst := some 31, op := Op.move (Operand.tmp 37), type := 50, pos := "law.go:116", after := #[{ on := 5, ground := Ground.data }], guard := none }) (v := .tuple #[csV d1, .slice ra rn rc]) rfl (by kernel_rfl) (by kernel_rfl) (by kernel_rfl) (fun _ _ _ h => h) (Or.inl ⟨by rfl, fun w' h => by go_simp⟩) hH ?_
        try simp only [Act.put, List.setIfInBounds_toArray, List.set_cons_zero, List.set_cons_succ]
        refine wpAnyH_take (i := 7) (oi := { dst := some 38, op := Op.extract (Operand.tmp 31) 0, type := 27, pos := "law.go:116", after := #[{ on := 6, ground := Ground.data }], guard := none }) (v := csV d1) rfl (by kernel_rfl) (by kernel_rfl) (by kernel_rfl) (fun _ _ _ h => h) (Or.inl ⟨by rfl, fun w' h => by go_simp⟩) hH ?_
        try simp only [Act.put, List.setIfInBounds_toArray, List.set_cons_zero, List.set_cons_succ]
        refine wpAnyH_take (i := 8) (oi := { dst := some 39, op := Op.extract (Operand.tmp 31) 1, type := 22, pos := "law.go:116", after := #[{ on := 6, ground := Ground.data }, { on := 10, ground := Ground.gcOnly Departure.lateStores }], guard := none }) (v := .slice ra rn rc) rfl (by kernel_rfl) (by kernel_rfl) (by kernel_rfl) (fun _ _ _ h => h) (Or.inl ⟨by rfl, fun w' h => by go_simp⟩) hH ?_
        try simp only [Act.put, List.setIfInBounds_toArray, List.set_cons_zero, List.set_cons_succ]
        refine wpAnyH_ready (rs := [9]) (by kernel_rfl) (by simp) ?_
        refine AllReadyH.cons (o := { dst := some 14, op := Op.alloc 27, type := 0, pos := "law.go:116", after := #[], guard := none }) rfl (fun K hK => ?_) AllReadyH.nil
        go_simp
        have hN : Blk x2.heap.size 27 (csL ⟨0, false, 0, 0, 0, 0, 0, 0, 0, 0, 0, 0, 0, 0, 0⟩) (x2.alloc (.cells #[.int .i64 0, .bool false, .int .i64 0, .int .i64 0, .int .i64 0, .int .i64 0, .int .i64 0, .int .i64 0, .int .i64 0, .int .i64 0, .int .i64 0, .int .i64 0, .int .i64 0, .int .i64 0, .int .i64 0] 27)) := Blk.new _ _ _
        have hG : w0.heap.size ≤ x2.heap.size := hH.kd.bb.size
        have hwG : w.heap.size < x2.heap.size := hH.kd.lt 0 rfl
        have hne : ∀ (k : Nat) (q : Nat × TypeId × List Value), [(w.heap.size, 24, polL l (.slice sa sn sc)), (w.heap.size + 1, 29, prL c c), (w.heap.size + 1 + 1, 37, evL ea), (w.heap.size + 1 + 1 + 1, 37, evL eb), (w.heap.size + 1 + 1 + 1 + 1, 29, prL ⟨0, false, 0, 0, 0, 0, 0, 0, 0, 0, 0, 0, 0, 0, 0⟩ ⟨0, false, 0, 0, 0, 0, 0, 0, 0, 0, 0, 0, 0, 0, 0⟩), (FB, 37, evL ea ++ (evL eb ++ evL ⟨-7, 0, 0, 0⟩))][k]? = some q → q.1 ≠ x2.heap.size := fun k q hq => Nat.ne_of_lt (hH.kd.lt k hq)
        have orow := orow.later (below_alloc x2 (.cells #[.int .i64 0, .bool false, .int .i64 0, .int .i64 0, .int .i64 0, .int .i64 0, .int .i64 0, .int .i64 0, .int .i64 0, .int .i64 0, .int .i64 0, .int .i64 0, .int .i64 0, .int .i64 0, .int .i64 0] 27))
        have rrow := rrow.later (below_alloc x2 (.cells #[.int .i64 0, .bool false, .int .i64 0, .int .i64 0, .int .i64 0, .int .i64 0, .int .i64 0, .int .i64 0, .int .i64 0, .int .i64 0, .int .i64 0, .int .i64 0, .int .i64 0, .int .i64 0, .int .i64 0] 27))
        refine hK.out _ _ (hH.later (below_alloc _ _)) (fun hH => ?_)
        refine wpAnyH_ready (rs := [10]) (by kernel_rfl) (by simp) ?_
        refine AllReadyH.cons (o := { dst := none, op := Op.store 27 (Operand.tmp 14) (Operand.tmp 38), type := 0, pos := "law.go:116", after := #[{ on := 9, ground := Ground.data }, { on := 7, ground := Ground.data }, { on := 5, ground := Ground.chain }, { on := 0, ground := Ground.phase }, { on := 1, ground := Ground.phase }, { on := 2, ground := Ground.phase }, { on := 3, ground := Ground.phase }, { on := 4, ground := Ground.phase }, { on := 5, ground := Ground.phase }, { on := 6, ground := Ground.phase }, { on := 7, ground := Ground.phase }, { on := 8, ground := Ground.textOnly Departure.lateStores }, { on := 9, ground := Ground.phase }], guard := none }) rfl (fun K hK => ?_) AllReadyH.nil
        refine op_putC (zs := csL ⟨0, false, 0, 0, 0, 0, 0, 0, 0, 0, 0, 0, 0, 0, 0⟩) (csL d1) rfl (sizeCsL _) (csL_one _) rfl _ _ rfl _ rfl rfl hN ?_
        intro w9 b9 g9
        have hZ := hH.addG hN hne hG hwG b9 g9
        have PX : Hid (SD w0 w [(w.heap.size, 24, polL l (.slice sa sn sc)), (w.heap.size + 1, 29, prL c c), (w.heap.size + 1 + 1, 37, evL ea), (w.heap.size + 1 + 1 + 1, 37, evL eb), (w.heap.size + 1 + 1 + 1 + 1, 29, prL ⟨0, false, 0, 0, 0, 0, 0, 0, 0, 0, 0, 0, 0, 0, 0⟩ ⟨0, false, 0, 0, 0, 0, 0, 0, 0, 0, 0, 0, 0, 0, 0⟩), (FB, 37, evL ea ++ (evL eb ++ evL ⟨-7, 0, 0, 0⟩)), (_, 27, csL d1)] SB vL vG vs us (.slice none 0 0) (.slice ra rn rc) (.slice none 0 0) (.slice none 0 0) [] a1 [] [] w9) := hZ.mkX (rowV_blk rrow hN g9 int_ne_case) (Apt.nil _) fN
        refine hK.out _ _ (hH.oth hN hne hG hwG g9) (fun hH => ?_)
        simp only [Act.put]
        refine wpAnyH_take (i := 11) (oi := { dst := some 15, op := Op.assign (Operand.tmp 39), type := 22, pos := "law.go:116", after := #[{ on := 8, ground := Ground.data }, { on := 10, ground := Ground.chain }, { on := 0, ground := Ground.phase }, { on := 1, ground := Ground.phase }, { on := 2, ground := Ground.phase }, { on := 3, ground := Ground.phase }, { on := 4, ground := Ground.phase }, { on := 5, ground := Ground.phase }, { on := 6, ground := Ground.phase }, { on := 7, ground := Ground.phase }, { on := 8, ground := Ground.phase }, { on := 9, ground := Ground.phase }, { on := 10, ground := Ground.phase }], guard := none }) (v := .slice ra rn rc) rfl (by kernel_rfl) (by kernel_rfl) (by kernel_rfl) (fun _ _ _ h => h) (Or.inl ⟨by rfl, fun w' h => by go_simp⟩) hH ?_
        try simp only [Act.put, List.setIfInBounds_toArray, List.set_cons_zero, List.set_cons_succ]
        refine wpAnyH_done (by kernel_rfl) ?_ _
        clear hH hK b9 g9 hN hZ
        go_wp2_with fail
        go_meet
        case rel => exact ⟨_, _, _, _, rfl, rfl, PX⟩
      · go_simp
        have hN : Blk x1.heap.size 27 (csL ⟨0, false, 0, 0, 0, 0, 0, 0, 0, 0, 0, 0, 0, 0, 0⟩) (x1.alloc (.cells #[.int .i64 0, .bool false, .int .i64 0, .int .i64 0, .int .i64 0, .int .i64 0, .int .i64 0, .int .i64 0, .int .i64 0, .int .i64 0, .int .i64 0, .int .i64 0, .int .i64 0, .int .i64 0, .int .i64 0] 27)) := Blk.new _ _ _
        have hG : w0.heap.size ≤ x1.heap.size := hH.kd.bb.size
        have hwG : w.heap.size < x1.heap.size := hH.kd.lt 0 rfl
        have hne : ∀ (k : Nat) (q : Nat × TypeId × List Value), [(w.heap.size, 24, polL l (.slice sa sn sc)), (w.heap.size + 1, 29, prL c c), (w.heap.size + 1 + 1, 37, evL ea), (w.heap.size + 1 + 1 + 1, 37, evL eb), (w.heap.size + 1 + 1 + 1 + 1, 29, prL ⟨0, false, 0, 0, 0, 0, 0, 0, 0, 0, 0, 0, 0, 0, 0⟩ ⟨0, false, 0, 0, 0, 0, 0, 0, 0, 0, 0, 0, 0, 0, 0⟩), (FB, 37, evL ea ++ (evL eb ++ evL ⟨-7, 0, 0, 0⟩))][k]? = some q → q.1 ≠ x1.heap.size := fun k q hq => Nat.ne_of_lt (hH.kd.lt k hq)
        have orow := orow.later (below_alloc x1 (.cells #[.int .i64 0, .bool false, .int .i64 0, .int .i64 0, .int .i64 0, .int .i64 0, .int .i64 0, .int .i64 0, .int .i64 0, .int .i64 0, .int .i64 0, .int .i64 0, .int .i64 0, .int .i64 0, .int .i64 0] 27))
        refine hK.out _ _ (hH.later (below_alloc _ _)) (fun hH => ?_)
        refine wpAnyH_ready (rs := [5]) (by kernel_rfl) (by simp) ?_
        refine AllReadyH.cons (o := { dst := some 37, op := Op.call { callee := Callee.value (Operand.func 15), args := #[Operand.tmp 33, Operand.tmp 35, Operand.tmp 36], argTypes := #[24, 27, 49] }, type := 50, pos := "law.go:116", after := #[{ on := 1, ground := Ground.data }, { on := 3, ground := Ground.data }, { on := 4, ground := Ground.data }, { on := 1, ground := Ground.chain }], guard := none }) rfl (fun K hK => ?_) AllReadyH.nil
        go_simp
        refine (RU1.out _ _ _ orow.rd (rdv2 (hH.kd.at 5 rfl))).mono ?_
        rintro e x3 ⟨ra, rn, rc, rfl, rrow, bX⟩
        have orow := orow.later bX
        have hN := hN.below bX
        have fN : Far (.slice ra rn rc) vs us := far_new hH.sh rrow
        have rrow := rrow.mono hH.kd.bb.size
        refine hK.out _ _ (hH.later bX) (fun hH => ?_)
        refine wpAnyH_take (i := 6) (oi := { dst := some 31, op := Op.move (Operand.tmp 37), type := 50, pos := "law.go:116", after := #[{ on := 5, ground := Ground.data }], guard := none }) (v := .tuple #[csV d1, .slice ra rn rc]) rfl (by kernel_rfl) (by kernel_rfl) (by kernel_rfl) (fun _ _ _ h => h) (Or.inl ⟨by rfl, fun w' h => by go_simp⟩) hH ?_
        try simp only [Act.put, List.setIfInBounds_toArray, List.set_cons_zero, List.set_cons_succ]
        refine wpAnyH_take (i := 7) (oi := { dst := some 38, op := Op.extract (Operand.tmp 31) 0, type := 27, pos := "law.go:116", after := #[{ on := 6, ground := Ground.data }], guard := none }) (v := csV d1) rfl (by kernel_rfl) (by kernel_rfl) (by kernel_rfl) (fun _ _ _ h => h) (Or.inl ⟨by rfl, fun w' h => by go_simp⟩) hH ?_
        try simp only [Act.put, List.setIfInBounds_toArray, List.set_cons_zero, List.set_cons_succ]
        refine wpAnyH_take (i := 8) (oi := { dst := some 39, op := Op.extract (Operand.tmp 31) 1, type := 22, pos := "law.go:116", after := #[{ on := 6, ground := Ground.data }, { on := 10, ground := Ground.gcOnly Departure.lateStores }], guard := none }) (v := .slice ra rn rc) rfl (by kernel_rfl) (by kernel_rfl) (by kernel_rfl) (fun _ _ _ h => h) (Or.inl ⟨by rfl, fun w' h => by go_simp⟩) hH ?_
        try simp only [Act.put, List.setIfInBounds_toArray, List.set_cons_zero, List.set_cons_succ]
        refine wpAnyH_ready (rs := [10]) (by kernel_rfl) (by simp) ?_
        refine AllReadyH.cons (o := { dst := none, op := Op.store 27 (Operand.tmp 14) (Operand.tmp 38), type := 0, pos := "law.go:116", after := #[{ on := 9, ground := Ground.data }, { on := 7, ground := Ground.data }, { on := 5, ground := Ground.chain }, { on := 0, ground := Ground.phase }, { on := 1, ground := Ground.phase }, { on := 2, ground := Ground.phase }, { on := 3, ground := Ground.phase }, { on := 4, ground := Ground.phase }, { on := 5, ground := Ground.phase }, { on := 6, ground := Ground.phase }, { on := 7, ground := Ground.phase }, { on := 8, ground := Ground.textOnly Departure.lateStores }, { on := 9, ground := Ground.phase }], guard := none }) rfl (fun K hK => ?_) AllReadyH.nil
        refine op_putC (zs := csL ⟨0, false, 0, 0, 0, 0, 0, 0, 0, 0, 0, 0, 0, 0, 0⟩) (csL d1) rfl (sizeCsL _) (csL_one _) rfl _ _ rfl _ rfl rfl hN ?_
        intro w9 b9 g9
        have hZ := hH.addG hN hne hG hwG b9 g9
        have PX : Hid (SD w0 w [(w.heap.size, 24, polL l (.slice sa sn sc)), (w.heap.size + 1, 29, prL c c), (w.heap.size + 1 + 1, 37, evL ea), (w.heap.size + 1 + 1 + 1, 37, evL eb), (w.heap.size + 1 + 1 + 1 + 1, 29, prL ⟨0, false, 0, 0, 0, 0, 0, 0, 0, 0, 0, 0, 0, 0, 0⟩ ⟨0, false, 0, 0, 0, 0, 0, 0, 0, 0, 0, 0, 0, 0, 0⟩), (FB, 37, evL ea ++ (evL eb ++ evL ⟨-7, 0, 0, 0⟩)), (_, 27, csL d1)] SB vL vG vs us (.slice none 0 0) (.slice ra rn rc) (.slice none 0 0) (.slice none 0 0) [] a1 [] [] w9) := hZ.mkX (rowV_blk rrow hN g9 int_ne_case) (Apt.nil _) fN
        refine hK.out _ _ (hH.oth hN hne hG hwG g9) (fun hH => ?_)
        simp only [Act.put]
        refine wpAnyH_take (i := 11) (oi := { dst := some 15, op := Op.assign (Operand.tmp 39), type := 22, pos := "law.go:116", after := #[{ on := 8, ground := Ground.data }, { on := 10, ground := Ground.chain }, { on := 0, ground := Ground.phase }, { on := 1, ground := Ground.phase }, { on := 2, ground := Ground.phase }, { on := 3, ground := Ground.phase }, { on := 4, ground := Ground.phase }, { on := 5, ground := Ground.phase }, { on := 6, ground := Ground.phase }, { on := 7, ground := Ground.phase }, { on := 8, ground := Ground.phase }, { on := 9, ground := Ground.phase }, { on := 10, ground := Ground.phase }], guard := none }) (v := .slice ra rn rc) rfl (by kernel_rfl) (by kernel_rfl) (by kernel_rfl) (fun _ _ _ h => h) (Or.inl ⟨by rfl, fun w' h => by go_simp⟩) hH ?_
        try simp only [Act.put, List.setIfInBounds_toArray, List.set_cons_zero, List.set_cons_succ]
        refine wpAnyH_done (by kernel_rfl) ?_ _
        clear hH hK b9 g9 hN hZ
        go_wp2_with fail
        go_meet
        case rel => exact ⟨_, _, _, _, rfl, rfl, PX⟩
    · go_simp
      have hN : Blk w2.drew.heap.size 27 (csL ⟨0, false, 0, 0, 0, 0, 0, 0, 0, 0, 0, 0, 0, 0, 0⟩) (w2.drew.alloc (.cells #[.int .i64 0, .bool false, .int .i64 0, .int .i64 0, .int .i64 0, .int .i64 0, .int .i64 0, .int .i64 0, .int .i64 0, .int .i64 0, .int .i64 0, .int .i64 0, .int .i64 0, .int .i64 0, .int .i64 0] 27)) := Blk.new _ _ _
      have hG : w0.heap.size ≤ w2.drew.heap.size := hH.kd.bb.size
      have hwG : w.heap.size < w2.drew.heap.size := hH.kd.lt 0 rfl
      have hne : ∀ (k : Nat) (q : Nat × TypeId × List Value), [(w.heap.size, 24, polL l (.slice sa sn sc)), (w.heap.size + 1, 29, prL c c), (w.heap.size + 1 + 1, 37, evL ea), (w.heap.size + 1 + 1 + 1, 37, evL eb), (w.heap.size + 1 + 1 + 1 + 1, 29, prL ⟨0, false, 0, 0, 0, 0, 0, 0, 0, 0, 0, 0, 0, 0, 0⟩ ⟨0, false, 0, 0, 0, 0, 0, 0, 0, 0, 0, 0, 0, 0, 0⟩), (FB, 37, evL ea ++ (evL eb ++ evL ⟨-7, 0, 0, 0⟩))][k]? = some q → q.1 ≠ w2.drew.heap.size := fun k q hq => Nat.ne_of_lt (hH.kd.lt k hq)
      refine hK.out _ _ (hH.later (below_alloc _ _)) (fun hH => ?_)
      refine wpAnyH_ready (rs := [1]) (by kernel_rfl) (by simp) ?_
      refine AllReadyH.cons (o := { dst := some 33, op := Op.call { callee := Callee.value (Operand.func 16), args := #[Operand.tmp 32], argTypes := #[24] }, type := 24, pos := "law.go:116", after := #[{ on := 0, ground := Ground.data }], guard := none }) rfl (fun K hK => ?_) AllReadyH.nil
      go_simp
      refine (OW.out _ hH.kd.bb).mono ?_
      rintro e x4 ⟨oa, on, oc, rfl, orow, bX⟩
      have hN := hN.below bX
      refine hK.out _ _ (hH.later bX) (fun hH => ?_)
      refine wpAnyH_ready (rs := [5]) (by kernel_rfl) (by simp) ?_
      refine AllReadyH.cons (o := { dst := some 37, op := Op.call { callee := Callee.value (Operand.func 15), args := #[Operand.tmp 33, Operand.tmp 35, Operand.tmp 36], argTypes := #[24, 27, 49] }, type := 50, pos := "law.go:116", after := #[{ on := 1, ground := Ground.data }, { on := 3, ground := Ground.data }, { on := 4, ground := Ground.data }, { on := 1, ground := Ground.chain }], guard := none }) rfl (fun K hK => ?_) AllReadyH.nil
      go_simp
      refine (RU1.out _ _ _ orow.rd (rdv2 (hH.kd.at 5 rfl))).mono ?_
      rintro e x5 ⟨ra, rn, rc, rfl, rrow, bX⟩
      have hN := hN.below bX
      have orow := orow.later bX
      have fN : Far (.slice ra rn rc) vs us := far_new hH.sh rrow
      have rrow := rrow.mono hH.kd.bb.size
      refine hK.out _ _ (hH.later bX) (fun hH => ?_)
      refine wpAnyH_take (i := 6) (oi := { dst := some 31, op := Op.move (Operand.tmp 37), type := 50, pos := "law.go:116", after := #[{ on := 5, ground := Ground.data }], guard := none }) (v := .tuple #[csV d1, .slice ra rn rc]) rfl (by kernel_rfl) (by kernel_rfl) (by kernel_rfl) (fun _ _ _ h => h) (Or.inl ⟨by rfl, fun w' h => by go_simp⟩) hH ?_
      try simp only [Act.put, List.setIfInBounds_toArray, List.set_cons_zero, List.set_cons_succ]
      refine wpAnyH_take (i := 7) (oi := { dst := some 38, op := Op.extract (Operand.tmp 31) 0, type := 27, pos := "law.go:116", after := #[{ on := 6, ground := Ground.data }], guard := none }) (v := csV d1) rfl (by kernel_rfl) (by kernel_rfl) (by kernel_rfl) (fun _ _ _ h => h) (Or.inl ⟨by rfl, fun w' h => by go_simp⟩) hH ?_
      try simp only [Act.put, List.setIfInBounds_toArray, List.set_cons_zero, List.set_cons_succ]
      refine wpAnyH_take (i := 8) (oi := { dst := some 39, op := Op.extract (Operand.tmp 31) 1, type := 22, pos := "law.go:116", after := #[{ on := 6, ground := Ground.data }, { on := 10, ground := Ground.gcOnly Departure.lateStores }], guard := none }) (v := .slice ra rn rc) rfl (by kernel_rfl) (by kernel_rfl) (by kernel_rfl) (fun _ _ _ h => h) (Or.inl ⟨by rfl, fun w' h => by go_simp⟩) hH ?_
      try simp only [Act.put, List.setIfInBounds_toArray, List.set_cons_zero, List.set_cons_succ]
      refine wpAnyH_ready (rs := [10]) (by kernel_rfl) (by simp) ?_
      refine AllReadyH.cons (o := { dst := none, op := Op.store 27 (Operand.tmp 14) (Operand.tmp 38), type := 0, pos := "law.go:116", after := #[{ on := 9, ground := Ground.data }, { on := 7, ground := Ground.data }, { on := 5, ground := Ground.chain }, { on := 0, ground := Ground.phase }, { on := 1, ground := Ground.phase }, { on := 2, ground := Ground.phase }, { on := 3, ground := Ground.phase }, { on := 4, ground := Ground.phase }, { on := 5, ground := Ground.phase }, { on := 6, ground := Ground.phase }, { on := 7, ground := Ground.phase }, { on := 8, ground := Ground.textOnly Departure.lateStores }, { on := 9, ground := Ground.phase }], guard := none }) rfl (fun K hK => ?_) AllReadyH.nil
      refine op_putC (zs := csL ⟨0, false, 0, 0, 0, 0, 0, 0, 0, 0, 0, 0, 0, 0, 0⟩) (csL d1) rfl (sizeCsL _) (csL_one _) rfl _ _ rfl _ rfl rfl hN ?_
      intro w9 b9 g9
      have hZ := hH.addG hN hne hG hwG b9 g9
      have PX : Hid (SD w0 w [(w.heap.size, 24, polL l (.slice sa sn sc)), (w.heap.size + 1, 29, prL c c), (w.heap.size + 1 + 1, 37, evL ea), (w.heap.size + 1 + 1 + 1, 37, evL eb), (w.heap.size + 1 + 1 + 1 + 1, 29, prL ⟨0, false, 0, 0, 0, 0, 0, 0, 0, 0, 0, 0, 0, 0, 0⟩ ⟨0, false, 0, 0, 0, 0, 0, 0, 0, 0, 0, 0, 0, 0, 0⟩), (FB, 37, evL ea ++ (evL eb ++ evL ⟨-7, 0, 0, 0⟩)), (_, 27, csL d1)] SB vL vG vs us (.slice none 0 0) (.slice ra rn rc) (.slice none 0 0) (.slice none 0 0) [] a1 [] [] w9) := hZ.mkX (rowV_blk rrow hN g9 int_ne_case) (Apt.nil _) fN
      refine hK.out _ _ (hH.oth hN hne hG hwG g9) (fun hH => ?_)
      simp only [Act.put]
      refine wpAnyH_take (i := 11) (oi := { dst := some 15, op := Op.assign (Operand.tmp 39), type := 22, pos := "law.go:116", after := #[{ on := 8, ground := Ground.data }, { on := 10, ground := Ground.chain }, { on := 0, ground := Ground.phase }, { on := 1, ground := Ground.phase }, { on := 2, ground := Ground.phase }, { on := 3, ground := Ground.phase }, { on := 4, ground := Ground.phase }, { on := 5, ground := Ground.phase }, { on := 6, ground := Ground.phase }, { on := 7, ground := Ground.phase }, { on := 8, ground := Ground.phase }, { on := 9, ground := Ground.phase }, { on := 10, ground := Ground.phase }], guard := none }) (v := .slice ra rn rc) rfl (by kernel_rfl) (by kernel_rfl) (by kernel_rfl) (fun _ _ _ h => h) (Or.inl ⟨by rfl, fun w' h => by go_simp⟩) hH ?_
      try simp only [Act.put, List.setIfInBounds_toArray, List.set_cons_zero, List.set_cons_succ]
      refine wpAnyH_done (by kernel_rfl) ?_ _
      clear hH hK b9 g9 hN hZ
      go_wp2_with fail
      go_meet
      case rel => exact ⟨_, _, _, _, rfl, rfl, PX⟩
  case rest =>
    obtain ⟨AB, xa, xn, xc, rfl, rfl, S3⟩ := hcut
    clear S1
    go_upto_region 4 with fail
    try simp only [Act.put]
    go_cut [16, 17] from 25 to 138 (fun v16 v17 wx => ∃ G ra rn rc, v16 = .pointer (some ⟨G, 0, none⟩) ∧ v17 = .slice ra rn rc ∧ Hid (SD w0 w [(w.heap.size, 24, polL l (.slice sa sn sc)), (w.heap.size + 1, 29, prL c c), (w.heap.size + 1 + 1, 37, evL ea), (w.heap.size + 1 + 1 + 1, 37, evL eb), (w.heap.size + 1 + 1 + 1 + 1, 29, prL ⟨0, false, 0, 0, 0, 0, 0, 0, 0, 0, 0, 0, 0, 0, 0⟩ ⟨0, false, 0, 0, 0, 0, 0, 0, 0, 0, 0, 0, 0, 0, 0⟩), (FB, 37, evL ea ++ (evL eb ++ evL ⟨-7, 0, 0, 0⟩)), (AB, 27, csL d1), (G, 27, csL d1)] SB vL vG vs us (.slice none 0 0) (.slice xa xn xc) (.slice ra rn rc) (.slice none 0 0) [] a1 a1 [] wx))
    case first => as_aux_lemma =>
      have hu := Tryd.underlying24
      have hi := SZ.out
      have hu2 := Tryd.underlying27
      have hi2 := sizeCsL c
      have hu3 := Tryd.underlying37
      have hu4 := Tryd.underlying29
      refine wp_region_held_drew (S := fun w' => SD w0 w [(w.heap.size, 24, polL l (.slice sa sn sc)), (w.heap.size + 1, 29, prL c c), (w.heap.size + 1 + 1, 37, evL ea), (w.heap.size + 1 + 1 + 1, 37, evL eb), (w.heap.size + 1 + 1 + 1 + 1, 29, prL ⟨0, false, 0, 0, 0, 0, 0, 0, 0, 0, 0, 0, 0, 0, 0⟩ ⟨0, false, 0, 0, 0, 0, 0, 0, 0, 0, 0, 0, 0, 0, 0⟩), (FB, 37, evL ea ++ (evL eb ++ evL ⟨-7, 0, 0, 0⟩)), (AB, 27, csL d1)] SB vL vG vs us (.slice none 0 0) (.slice xa xn xc) (.slice none 0 0) (.slice none 0 0) [] a1 [] [] w') (by kernel_rfl) (S3.out.drew) (fun hH => ?_)
      refine wpAnyH_take (i := 0) (oi := { dst := some 41, op := Op.load 24 (Operand.tmp 5), type := 24, pos := "law.go:117", after := #[], guard := none }) (v := .agg (polL l (.slice sa sn sc)).toArray) rfl (by kernel_rfl) (by kernel_rfl) (by kernel_rfl) (fun _ _ _ h => h) (yieldsIf_load_mid (by rfl) _ _ rfl w.heap.size 0 rfl (polL l (.slice sa sn sc)) _ (fun w' h => (Blk.all (h.kd.at 0 rfl))) hu rfl hi) hH ?_
      try simp only [Act.put, List.setIfInBounds_toArray, List.set_cons_zero, List.set_cons_succ]
      refine wpAnyH_take (i := 2) (oi := { dst := some 43, op := Op.fieldAddr 29 (Operand.tmp 6) 0, type := 0, pos := "law.go:117", after := #[], guard := none }) (v := .pointer (some ⟨w.heap.size + 1, 0, none⟩)) rfl (by kernel_rfl) (by kernel_rfl) (by kernel_rfl) (fun _ _ _ h => h) (Or.inl ⟨by rfl, fun w' h => by go_simp⟩) hH ?_
      try simp only [Act.put, List.setIfInBounds_toArray, List.set_cons_zero, List.set_cons_succ]
      refine wpAnyH_take (i := 3) (oi := { dst := some 44, op := Op.load 27 (Operand.tmp 43), type := 27, pos := "law.go:117", after := #[{ on := 2, ground := Ground.data }], guard := none }) (v := .agg (csL c).toArray) rfl (by kernel_rfl) (by kernel_rfl) (by kernel_rfl) (fun _ _ _ h => h) (yieldsIf_load_mid (by rfl) _ _ rfl (w.heap.size + 1) 0 rfl (csL c) _ (fun w' h => (pr_c (h.kd.at 1 rfl))) hu2 rfl hi2) hH ?_
      try simp only [Act.put, List.setIfInBounds_toArray, List.set_cons_zero, List.set_cons_succ]
      refine wpAnyH_take (i := 4) (oi := { dst := some 45, op := Op.move (Operand.tmp 13), type := 49, pos := "law.go:117", after := #[], guard := none }) (v := .slice (some ⟨FB, 0, none⟩) 2 3) rfl (by kernel_rfl) (by kernel_rfl) (by kernel_rfl) (fun _ _ _ h => h) (Or.inl ⟨by rfl, fun w' h => by go_simp⟩) hH ?_
      try simp only [Act.put, List.setIfInBounds_toArray, List.set_cons_zero, List.set_cons_succ]
      refine wpAnyH_ready (rs := [1, 9]) (by kernel_rfl) (by simp) ?_
      refine AllReadyH.cons (o := { dst := some 42, op := Op.call { callee := Callee.value (Operand.func 16), args := #[Operand.tmp 41], argTypes := #[24] }, type := 24, pos := "law.go:117", after := #[{ on := 0, ground := Ground.data }], guard := none }) rfl (fun K hK => ?_) (AllReadyH.cons (o := { dst := some 16, op := Op.alloc 27, type := 0, pos := "law.go:117", after := #[], guard := none }) rfl (fun K hK => ?_) AllReadyH.nil)
      · go_simp
        refine (OW.out _ hH.kd.bb).mono ?_
        rintro e x1 ⟨oa, on, oc, rfl, orow, bX⟩
        refine hK.out _ _ (hH.later bX) (fun hH => ?_)
        refine wpAnyH_ready (rs := [5, 9]) (by kernel_rfl) (by simp) ?_
        refine AllReadyH.cons (o := { dst := some 46, op := Op.call { callee := Callee.value (Operand.func 15), args := #[Operand.tmp 42, Operand.tmp 44, Operand.tmp 45], argTypes := #[24, 27, 49] }, type := 50, pos := "law.go:117", after := #[{ on := 1, ground := Ground.data }, { on := 3, ground := Ground.data }, { on := 4, ground := Ground.data }, { on := 1, ground := Ground.chain }], guard := none }) rfl (fun K hK => ?_) (AllReadyH.cons (o := { dst := some 16, op := Op.alloc 27, type := 0, pos := "law.go:117", after := #[], guard := none }) rfl (fun K hK => ?_) AllReadyH.nil)
        · go_simp
          refine (RU1.out _ _ _ orow.rd (rdv2 (hH.kd.at 5 rfl))).mono ?_
          rintro e x2 ⟨ra, rn, rc, rfl, rrow, bX⟩
          have orow := orow.later bX
          have fN : Far (.slice ra rn rc) vs us := far_new hH.sh rrow
          have apx : Apt (.slice xa xn xc) (.slice ra rn rc) := apt_new hH.rx rrow
          have rrow := rrow.mono hH.kd.bb.size
          refine hK.out _ _ (hH.later bX) (fun hH => ?_)
          refine wpAnyH_take (i := 6) (oi := { dst := some 40, op := Op.move (Operand.tmp 46), type := 50, pos := "law.go:117", after := #[{ on := 5, ground := Ground.data }], guard := none }) (v := .tuple #[csV d1, .slice ra rn rc]) rfl (by kernel_rfl) (by kernel_rfl) (by kernel_rfl) (fun _ _ _ h => h) (Or.inl ⟨by rfl, fun w' h => by go_simp⟩) hH ?_
          try simp only [Act.put, List.setIfInBounds_toArray, List.set_cons_zero, List.set_cons_succ]
          refine wpAnyH_take (i := 7) (oi := { dst := some 47, op := Op.extract (Operand.tmp 40) 0, type := 27, pos := "law.go:117", after := #[{ on := 6, ground := Ground.data }], guard := none }) (v := csV d1) rfl (by kernel_rfl) (by kernel_rfl) (by kernel_rfl) (fun _ _ _ h => h) (Or.inl ⟨by rfl, fun w' h => by go_simp⟩) hH ?_
          try simp only [Act.put, List.setIfInBounds_toArray, List.set_cons_zero, List.set_cons_succ]
          refine wpAnyH_take (i := 8) (oi := { dst := some 48, op := Op.extract (Operand.tmp 40) 1, type := 22, pos := "law.go:117", after := #[{ on := 6, ground := Ground.data }, { on := 10, ground := Ground.gcOnly Departure.lateStores }], guard := none }) (v := .slice ra rn rc) rfl (by kernel_rfl) (by kernel_rfl) (by kernel_rfl) (fun _ _ _ h => h) (Or.inl ⟨by rfl, fun w' h => by go_simp⟩) hH ?_
          try simp only [Act.put, List.setIfInBounds_toArray, List.set_cons_zero, List.set_cons_succ]
          refine wpAnyH_ready (rs := [9]) (by kernel_rfl) (by simp) ?_
          refine AllReadyH.cons (o := { dst := some 16, op := Op.alloc 27, type := 0, pos := "law.go:117", after := #[], guard := none }) rfl (fun K hK => ?_) AllReadyH.nil
          go_simp
          have hN : Blk x2.heap.size 27 (csL ⟨0, false, 0, 0, 0, 0, 0, 0, 0, 0, 0, 0, 0, 0, 0⟩) (x2.alloc (.cells #[.int .i64 0, .bool false, .int .i64 0, .int .i64 0, .int .i64 0, .int .i64 0, .int .i64 0, .int .i64 0, .int .i64 0, .int .i64 0, .int .i64 0, .int .i64 0, .int .i64 0, .int .i64 0, .int .i64 0] 27)) := Blk.new _ _ _
          have hG : w0.heap.size ≤ x2.heap.size := hH.kd.bb.size
          have hwG : w.heap.size < x2.heap.size := hH.kd.lt 0 rfl
          have hne : ∀ (k : Nat) (q : Nat × TypeId × List Value), [(w.heap.size, 24, polL l (.slice sa sn sc)), (w.heap.size + 1, 29, prL c c), (w.heap.size + 1 + 1, 37, evL ea), (w.heap.size + 1 + 1 + 1, 37, evL eb), (w.heap.size + 1 + 1 + 1 + 1, 29, prL ⟨0, false, 0, 0, 0, 0, 0, 0, 0, 0, 0, 0, 0, 0, 0⟩ ⟨0, false, 0, 0, 0, 0, 0, 0, 0, 0, 0, 0, 0, 0, 0⟩), (FB, 37, evL ea ++ (evL eb ++ evL ⟨-7, 0, 0, 0⟩)), (AB, 27, csL d1)][k]? = some q → q.1 ≠ x2.heap.size := fun k q hq => Nat.ne_of_lt (hH.kd.lt k hq)
          have orow := orow.later (below_alloc x2 (.cells #[.int .i64 0, .bool false, .int .i64 0, .int .i64 0, .int .i64 0, .int .i64 0, .int .i64 0, .int .i64 0, .int .i64 0, .int .i64 0, .int .i64 0, .int .i64 0, .int .i64 0, .int .i64 0, .int .i64 0] 27))
          have rrow := rrow.later (below_alloc x2 (.cells #[.int .i64 0, .bool false, .int .i64 0, .int .i64 0, .int .i64 0, .int .i64 0, .int .i64 0, .int .i64 0, .int .i64 0, .int .i64 0, .int .i64 0, .int .i64 0, .int .i64 0, .int .i64 0, .int .i64 0] 27))
          refine hK.out _ _ (hH.later (below_alloc _ _)) (fun hH => ?_)
          refine wpAnyH_ready (rs := [10]) (by kernel_rfl) (by simp) ?_
          refine AllReadyH.cons (o := { dst := none, op := Op.store 27 (Operand.tmp 16) (Operand.tmp 47), type := 0, pos := "law.go:117", after := #[{ on := 9, ground := Ground.data }, { on := 7, ground := Ground.data }, { on := 5, ground := Ground.chain }, { on := 0, ground := Ground.phase }, { on := 1, ground := Ground.phase }, { on := 2, ground := Ground.phase }, { on := 3, ground := Ground.phase }, { on := 4, ground := Ground.phase }, { on := 5, ground := Ground.phase }, { on := 6, ground := Ground.phase }, { on := 7, ground := Ground.phase }, { on := 8, ground := Ground.textOnly Departure.lateStores }, { on := 9, ground := Ground.phase }], guard := none }) rfl (fun K hK => ?_) AllReadyH.nil
          refine op_putC (zs := csL ⟨0, false, 0, 0, 0, 0, 0, 0, 0, 0, 0, 0, 0, 0, 0⟩) (csL d1) rfl (sizeCsL _) (csL_one _) rfl _ _ rfl _ rfl rfl hN ?_
          intro w9 b9 g9
          have hZ := hH.addG hN hne hG hwG b9 g9
          have PX : Hid (SD w0 w [(w.heap.size, 24, polL l (.slice sa sn sc)), (w.heap.size + 1, 29, prL c c), (w.heap.size + 1 + 1, 37, evL ea), (w.heap.size + 1 + 1 + 1, 37, evL eb), (w.heap.size + 1 + 1 + 1 + 1, 29, prL ⟨0, false, 0, 0, 0, 0, 0, 0, 0, 0, 0, 0, 0, 0, 0⟩ ⟨0, false, 0, 0, 0, 0, 0, 0, 0, 0, 0, 0, 0, 0, 0⟩), (FB, 37, evL ea ++ (evL eb ++ evL ⟨-7, 0, 0, 0⟩)), (AB, 27, csL d1), (_, 27, csL d1)] SB vL vG vs us (.slice none 0 0) (.slice xa xn xc) (.slice ra rn rc) (.slice none 0 0) [] a1 a1 [] w9) := hZ.mkY (rowV_blk rrow hN g9 int_ne_case) (Apt.nil _) apx fN
          refine hK.out _ _ (hH.oth hN hne hG hwG g9) (fun hH => ?_)
          simp only [Act.put]
          refine wpAnyH_take (i := 11) (oi := { dst := some 17, op := Op.assign (Operand.tmp 48), type := 22, pos := "law.go:117", after := #[{ on := 8, ground := Ground.data }, { on := 10, ground := Ground.chain }, { on := 0, ground := Ground.phase }, { on := 1, ground := Ground.phase }, { on := 2, ground := Ground.phase }, { on := 3, ground := Ground.phase }, { on := 4, ground := Ground.phase }, { on := 5, ground := Ground.phase }, { on := 6, ground := Ground.phase }, { on := 7, ground := Ground.phase }, { on := 8, ground := Ground.phase }, { on := 9, ground := Ground.phase }, { on := 10, ground := Ground.phase }], guard := none }) (v := .slice ra rn rc) rfl (by kernel_rfl) (by kernel_rfl) (by kernel_rfl) (fun _ _ _ h => h) (Or.inl ⟨by rfl, fun w' h => by go_simp⟩) hH ?_
          try simp only [Act.put, List.setIfInBounds_toArray, List.set_cons_zero, List.set_cons_succ]
          refine wpAnyH_done (by kernel_rfl) ?_ _
          clear hH hK b9 g9 hN hZ
          go_wp2_with fail
          go_meet
          case rel => exact ⟨_, _, _, _, rfl, rfl, PX⟩
        · go_simp
          have hN : Blk x1.heap.size 27 (csL ⟨0, false, 0, 0, 0, 0, 0, 0, 0, 0, 0, 0, 0, 0, 0⟩) (x1.alloc (.cells #[.int .i64 0, .bool false, .int .i64 0, .int .i64 0, .int .i64 0, .int .i64 0, .int .i64 0, .int .i64 0, .int .i64 0, .int .i64 0, .int .i64 0, .int .i64 0, .int .i64 0, .int .i64 0, .int .i64 0] 27)) := Blk.new _ _ _
          have hG : w0.heap.size ≤ x1.heap.size := hH.kd.bb.size
          have hwG : w.heap.size < x1.heap.size := hH.kd.lt 0 rfl
          have hne : ∀ (k : Nat) (q : Nat × TypeId × List Value), [(w.heap.size, 24, polL l (.slice sa sn sc)), (w.heap.size + 1, 29, prL c c), (w.heap.size + 1 + 1, 37, evL ea), (w.heap.size + 1 + 1 + 1, 37, evL eb), (w.heap.size + 1 + 1 + 1 + 1, 29, prL ⟨0, false, 0, 0, 0, 0, 0, 0, 0, 0, 0, 0, 0, 0, 0⟩ ⟨0, false, 0, 0, 0, 0, 0, 0, 0, 0, 0, 0, 0, 0, 0⟩), (FB, 37, evL ea ++ (evL eb ++ evL ⟨-7, 0, 0, 0⟩)), (AB, 27, csL d1)][k]? = some q → q.1 ≠ x1.heap.size := fun k q hq => Nat.ne_of_lt (hH.kd.lt k hq)
          have orow := orow.later (below_alloc x1 (.cells #[.int .i64 0, .bool false, .int .i64 0, .int .i64 0, .int .i64 0, .int .i64 0, .int .i64 0, .int .i64 0, .int .i64 0, .int .i64 0, .int .i64 0, .int .i64 0, .int .i64 0, .int .i64 0, .int .i64 0] 27))
          refine hK.out _ _ (hH.later (below_alloc _ _)) (fun hH => ?_)
          refine wpAnyH_ready (rs := [5]) (by kernel_rfl) (by simp) ?_
          refine AllReadyH.cons (o := { dst := some 46, op := Op.call { callee := Callee.value (Operand.func 15), args := #[Operand.tmp 42, Operand.tmp 44, Operand.tmp 45], argTypes := #[24, 27, 49] }, type := 50, pos := "law.go:117", after := #[{ on := 1, ground := Ground.data }, { on := 3, ground := Ground.data }, { on := 4, ground := Ground.data }, { on := 1, ground := Ground.chain }], guard := none }) rfl (fun K hK => ?_) AllReadyH.nil
          go_simp
          refine (RU1.out _ _ _ orow.rd (rdv2 (hH.kd.at 5 rfl))).mono ?_
          rintro e x3 ⟨ra, rn, rc, rfl, rrow, bX⟩
          have orow := orow.later bX
          have hN := hN.below bX
          have fN : Far (.slice ra rn rc) vs us := far_new hH.sh rrow
          have apx : Apt (.slice xa xn xc) (.slice ra rn rc) := apt_new hH.rx rrow
          have rrow := rrow.mono hH.kd.bb.size
          refine hK.out _ _ (hH.later bX) (fun hH => ?_)
          refine wpAnyH_take (i := 6) (oi := { dst := some 40, op := Op.move (Operand.tmp 46), type := 50, pos := "law.go:117", after := #[{ on := 5, ground := Ground.data }], guard := none }) (v := .tuple #[csV d1, .slice ra rn rc]) rfl (by kernel_rfl) (by kernel_rfl) (by kernel_rfl) (fun _ _ _ h => h) (Or.inl ⟨by rfl, fun w' h => by go_simp⟩) hH ?_
          try simp only [Act.put, List.setIfInBounds_toArray, List.set_cons_zero, List.set_cons_succ]
          refine wpAnyH_take (i := 7) (oi := { dst := some 47, op := Op.extract (Operand.tmp 40) 0, type := 27, pos := "law.go:117", after := #[{ on := 6, ground := Ground.data }], guard := none }) (v := csV d1) rfl (by kernel_rfl) (by kernel_rfl) (by kernel_rfl) (fun _ _ _ h => h) (Or.inl ⟨by rfl, fun w' h => by go_simp⟩) hH ?_
          try simp only [Act.put, List.setIfInBounds_toArray, List.set_cons_zero, List.set_cons_succ]
          refine wpAnyH_take (i := 8) (oi := { dst := some 48, op := Op.extract (Operand.tmp 40) 1, type := 22, pos := "law.go:117", after := #[{ on := 6, ground := Ground.data }, { on := 10, ground := Ground.gcOnly Departure.lateStores }], guard := none }) (v := .slice ra rn rc) rfl (by kernel_rfl) (by kernel_rfl) (by kernel_rfl) (fun _ _ _ h => h) (Or.inl ⟨by rfl, fun w' h => by go_simp⟩) hH ?_
          try simp only [Act.put, List.setIfInBounds_toArray, List.set_cons_zero, List.set_cons_succ]
          refine wpAnyH_ready (rs := [10]) (by kernel_rfl) (by simp) ?_
          refine AllReadyH.cons (o := { dst := none, op := Op.store 27 (Operand.tmp 16) (Operand.tmp 47), type := 0, pos := "law.go:117", after := #[{ on := 9, ground := Ground.data }, { on := 7, ground := Ground.data }, { on := 5, ground := Ground.chain }, { on := 0, ground := Ground.phase }, { on := 1, ground := Ground.phase }, { on := 2, ground := Ground.phase }, { on := 3, ground := Ground.phase }, { on := 4, ground := Ground.phase }, { on := 5, ground := Ground.phase }, { on := 6, ground := Ground.phase }, { on := 7, ground := Ground.phase }, { on := 8, ground := Ground.textOnly Departure.lateStores }, { on := 9, ground := Ground.phase }], guard := none }) rfl (fun K hK => ?_) AllReadyH.nil
          refine op_putC (zs := csL ⟨0, false, 0, 0, 0, 0, 0, 0, 0, 0, 0, 0, 0, 0, 0⟩) (csL d1) rfl (sizeCsL _) (csL_one _) rfl _ _ rfl _ rfl rfl hN ?_
          intro w9 b9 g9
          have hZ := hH.addG hN hne hG hwG b9 g9
          have PX : Hid (SD w0 w [(w.heap.size, 24, polL l (.slice sa sn sc)), (w.heap.size + 1, 29, prL c c), (w.heap.size + 1 + 1, 37, evL ea), (w.heap.size + 1 + 1 + 1, 37, evL eb), (w.heap.size + 1 + 1 + 1 + 1, 29, prL ⟨0, false, 0, 0, 0, 0, 0, 0, 0, 0, 0, 0, 0, 0, 0⟩ ⟨0, false, 0, 0, 0, 0, 0, 0, 0, 0, 0, 0, 0, 0, 0⟩), (FB, 37, evL ea ++ (evL eb ++ evL ⟨-7, 0, 0, 0⟩)), (AB, 27, csL d1), (_, 27, csL d1)] SB vL vG vs us (.slice none 0 0) (.slice xa xn xc) (.slice ra rn rc) (.slice none 0 0) [] a1 a1 [] w9) := hZ.mkY (rowV_blk rrow hN g9 int_ne_case) (Apt.nil _) apx fN
          refine hK.out _ _ (hH.oth hN hne hG hwG g9) (fun hH => ?_)
          simp only [Act.put]
          refine wpAnyH_take (i := 11) (oi := { dst := some 17, op := Op.assign (Operand.tmp 48), type := 22, pos := "law.go:117", after := #[{ on := 8, ground := Ground.data }, { on := 10, ground := Ground.chain }, { on := 0, ground := Ground.phase }, { on := 1, ground := Ground.phase }, { on := 2, ground := Ground.phase }, { on := 3, ground := Ground.phase }, { on := 4, ground := Ground.phase }, { on := 5, ground := Ground.phase }, { on := 6, ground := Ground.phase }, { on := 7, ground := Ground.phase }, { on := 8, ground := Ground.phase }, { on := 9, ground := Ground.phase }, { on := 10, ground := Ground.phase }], guard := none }) (v := .slice ra rn rc) rfl (by kernel_rfl) (by kernel_rfl) (by kernel_rfl) (fun _ _ _ h => h) (Or.inl ⟨by rfl, fun w' h => by go_simp⟩) hH ?_
          try simp only [Act.put, List.setIfInBounds_toArray, List.set_cons_zero, List.set_cons_succ]
          refine wpAnyH_done (by kernel_rfl) ?_ _
          clear hH hK b9 g9 hN hZ
          go_wp2_with fail
          go_meet
          case rel => exact ⟨_, _, _, _, rfl, rfl, PX⟩
      · go_simp
        have hN : Blk wc.drew.heap.size 27 (csL ⟨0, false, 0, 0, 0, 0, 0, 0, 0, 0, 0, 0, 0, 0, 0⟩) (wc.drew.alloc (.cells #[.int .i64 0, .bool false, .int .i64 0, .int .i64 0, .int .i64 0, .int .i64 0, .int .i64 0, .int .i64 0, .int .i64 0, .int .i64 0, .int .i64 0, .int .i64 0, .int .i64 0, .int .i64 0, .int .i64 0] 27)) := Blk.new _ _ _
        have hG : w0.heap.size ≤ wc.drew.heap.size := hH.kd.bb.size
        have hwG : w.heap.size < wc.drew.heap.size := hH.kd.lt 0 rfl
        have hne : ∀ (k : Nat) (q : Nat × TypeId × List Value), [(w.heap.size, 24, polL l (.slice sa sn sc)), (w.heap.size + 1, 29, prL c c), (w.heap.size + 1 + 1, 37, evL ea), (w.heap.size + 1 + 1 + 1, 37, evL eb), (w.heap.size + 1 + 1 + 1 + 1, 29, prL ⟨0, false, 0, 0, 0, 0, 0, 0, 0, 0, 0, 0, 0, 0, 0⟩ ⟨0, false, 0, 0, 0, 0, 0, 0, 0, 0, 0, 0, 0, 0, 0⟩), (FB, 37, evL ea ++ (evL eb ++ evL ⟨-7, 0, 0, 0⟩)), (AB, 27, csL d1)][k]? = some q → q.1 ≠ wc.drew.heap.size := fun k q hq => Nat.ne_of_lt (hH.kd.lt k hq)
        refine hK.out _ _ (hH.later (below_alloc _ _)) (fun hH => ?_)
        refine wpAnyH_ready (rs := [1]) (by kernel_rfl) (by simp) ?_
        refine AllReadyH.cons (o := { dst := some 42, op := Op.call { callee := Callee.value (Operand.func 16), args := #[Operand.tmp 41], argTypes := #[24] }, type := 24, pos := "law.go:117", after := #[{ on := 0, ground := Ground.data }], guard := none }) rfl (fun K hK => ?_) AllReadyH.nil
        go_simp
        refine (OW.out _ hH.kd.bb).mono ?_
        rintro e x4 ⟨oa, on, oc, rfl, orow, bX⟩
        have hN := hN.below bX
        refine hK.out _ _ (hH.later bX) (fun hH => ?_)
        refine wpAnyH_ready (rs := [5]) (by kernel_rfl) (by simp) ?_
        refine AllReadyH.cons (o := { dst := some 46, op := Op.call { callee := Callee.value (Operand.func 15), args := #[Operand.tmp 42, Operand.tmp 44, Operand.tmp 45], argTypes := #[24, 27, 49] }, type := 50, pos := "law.go:117", after := #[{ on := 1, ground := Ground.data }, { on := 3, ground := Ground.data }, { on := 4, ground := Ground.data }, { on := 1, ground := Ground.chain }], guard := none }) rfl (fun K hK => ?_) AllReadyH.nil
        go_simp
        refine (RU1.out _ _ _ orow.rd (rdv2 (hH.kd.at 5 rfl))).mono ?_
        rintro e x5 ⟨ra, rn, rc, rfl, rrow, bX⟩
        have hN := hN.below bX
        have orow := orow.later bX
        have fN : Far (.slice ra rn rc) vs us := far_new hH.sh rrow
        have apx : Apt (.slice xa xn xc) (.slice ra rn rc) := apt_new hH.rx rrow
        have rrow := rrow.mono hH.kd.bb.size
        refine hK.out _ _ (hH.later bX) (fun hH => ?_)
        refine wpAnyH_take (i := 6) (oi := { dst := some 40, op := Op.move (Operand.tmp 46), type := 50, pos := "law.go:117", after := #[{ on := 5, ground := Ground.data }], guard := none }) (v := .tuple #[csV d1, .slice ra rn rc]) rfl (by kernel_rfl) (by kernel_rfl) (by kernel_rfl) (fun _ _ _ h => h) (Or.inl ⟨by rfl, fun w' h => by go_simp⟩) hH ?_
        try simp only [Act.put, List.setIfInBounds_toArray, List.set_cons_zero, List.set_cons_succ]
        refine wpAnyH_take (i := 7) (oi := { dst := some 47, op := Op.extract (Operand.tmp 40) 0, type := 27, pos := "law.go:117", after := #[{ on := 6, ground := Ground.data }], guard := none }) (v := csV d1) rfl (by kernel_rfl) (by kernel_rfl) (by kernel_rfl) (fun _ _ _ h => h) (Or.inl ⟨by rfl, fun w' h => by go_simp⟩) hH ?_
        try simp only [Act.put, List.setIfInBounds_toArray, List.set_cons_zero, List.set_cons_succ]
        refine wpAnyH_take (i := 8) (oi := { dst := some 48, op := Op.extract (Operand.tmp 40) 1, type := 22, pos := "law.go:117", after := #[{ on := 6, ground := Ground.data }, { on := 10, ground := Ground.gcOnly Departure.lateStores }], guard := none }) (v := .slice ra rn rc) rfl (by kernel_rfl) (by kernel_rfl) (by kernel_rfl) (fun _ _ _ h => h) (Or.inl ⟨by rfl, fun w' h => by go_simp⟩) hH ?_
        try simp only [Act.put, List.setIfInBounds_toArray, List.set_cons_zero, List.set_cons_succ]
        refine wpAnyH_ready (rs := [10]) (by kernel_rfl) (by simp) ?_
        refine AllReadyH.cons (o := { dst := none, op := Op.store 27 (Operand.tmp 16) (Operand.tmp 47), type := 0, pos := "law.go:117", after := #[{ on := 9, ground := Ground.data }, { on := 7, ground := Ground.data }, { on := 5, ground := Ground.chain }, { on := 0, ground := Ground.phase }, { on := 1, ground := Ground.phase }, { on := 2, ground := Ground.phase }, { on := 3, ground := Ground.phase }, { on := 4, ground := Ground.phase }, { on := 5, ground := Ground.phase }, { on := 6, ground := Ground.phase }, { on := 7, ground := Ground.phase }, { on := 8, ground := Ground.textOnly Departure.lateStores }, { on := 9, ground := Ground.phase }], guard := none }) rfl (fun K hK => ?_) AllReadyH.nil
        refine op_putC (zs := csL ⟨0, false, 0, 0, 0, 0, 0, 0, 0, 0, 0, 0, 0, 0, 0⟩) (csL d1) rfl (sizeCsL _) (csL_one _) rfl _ _ rfl _ rfl rfl hN ?_
        intro w9 b9 g9
        have hZ := hH.addG hN hne hG hwG b9 g9
        have PX : Hid (SD w0 w [(w.heap.size, 24, polL l (.slice sa sn sc)), (w.heap.size + 1, 29, prL c c), (w.heap.size + 1 + 1, 37, evL ea), (w.heap.size + 1 + 1 + 1, 37, evL eb), (w.heap.size + 1 + 1 + 1 + 1, 29, prL ⟨0, false, 0, 0, 0, 0, 0, 0, 0, 0, 0, 0, 0, 0, 0⟩ ⟨0, false, 0, 0, 0, 0, 0, 0, 0, 0, 0, 0, 0, 0, 0⟩), (FB, 37, evL ea ++ (evL eb ++ evL ⟨-7, 0, 0, 0⟩)), (AB, 27, csL d1), (_, 27, csL d1)] SB vL vG vs us (.slice none 0 0) (.slice xa xn xc) (.slice ra rn rc) (.slice none 0 0) [] a1 a1 [] w9) := hZ.mkY (rowV_blk rrow hN g9 int_ne_case) (Apt.nil _) apx fN
        refine hK.out _ _ (hH.oth hN hne hG hwG g9) (fun hH => ?_)
        simp only [Act.put]
        refine wpAnyH_take (i := 11) (oi := { dst := some 17, op := Op.assign (Operand.tmp 48), type := 22, pos := "law.go:117", after := #[{ on := 8, ground := Ground.data }, { on := 10, ground := Ground.chain }, { on := 0, ground := Ground.phase }, { on := 1, ground := Ground.phase }, { on := 2, ground := Ground.phase }, { on := 3, ground := Ground.phase }, { on := 4, ground := Ground.phase }, { on := 5, ground := Ground.phase }, { on := 6, ground := Ground.phase }, { on := 7, ground := Ground.phase }, { on := 8, ground := Ground.phase }, { on := 9, ground := Ground.phase }, { on := 10, ground := Ground.phase }], guard := none }) (v := .slice ra rn rc) rfl (by kernel_rfl) (by kernel_rfl) (by kernel_rfl) (fun _ _ _ h => h) (Or.inl ⟨by rfl, fun w' h => by go_simp⟩) hH ?_
        try simp only [Act.put, List.setIfInBounds_toArray, List.set_cons_zero, List.set_cons_succ]
        refine wpAnyH_done (by kernel_rfl) ?_ _
        clear hH hK b9 g9 hN hZ
        go_wp2_with fail
        go_meet
        case rel => exact ⟨_, _, _, _, rfl, rfl, PX⟩
    case rest =>
      obtain ⟨GB, ya, yn, yc, rfl, rfl, S4⟩ := hcut
      clear S3
      go_wp2_with (first
      | ((with_reducible refine at_loadT 24 ?_); refine step_load rfl 24 _ rfl w.heap.size 0 rfl (polL l (.slice sa sn sc)) _ (Blk.all (S4.out.kd.at 0 rfl)) Tryd.underlying24 rfl SZ.out ?_)
      | ((with_reducible refine at_loadT 27 ?_); refine step_load rfl 27 _ rfl (w.heap.size + 1) 15 rfl (csL c) _ (pr_r (S4.out.kd.at 1 rfl)) Tryd.underlying27 rfl (sizeCsL _) ?_)
      | ((with_reducible refine at_loadT 37 ?_); refine step_load rfl 37 _ rfl (w.heap.size + 1 + 1) 0 rfl [.int .i64 ea.k, .int .i64 ea.t, .int .i64 ea.d, .int .i64 ea.a] _ (Blk.all (S4.out.kd.at 2 rfl)) Tryd.underlying37 rfl (sizeEvL ea) ?_)
      | ((with_reducible refine at_loadT 37 ?_); refine step_load rfl 37 _ rfl (w.heap.size + 1 + 1 + 1) 0 rfl [.int .i64 eb.k, .int .i64 eb.t, .int .i64 eb.d, .int .i64 eb.a] _ (Blk.all (S4.out.kd.at 3 rfl)) Tryd.underlying37 rfl (sizeEvL eb) ?_))
      have S4q : Hid (SD w0 w [(w.heap.size, 24, polL l (.slice sa sn sc)), (w.heap.size + 1, 29, prL c c), (w.heap.size + 1 + 1, 37, evL ea), (w.heap.size + 1 + 1 + 1, 37, evL eb), (w.heap.size + 1 + 1 + 1 + 1, 29, prL ⟨0, false, 0, 0, 0, 0, 0, 0, 0, 0, 0, 0, 0, 0, 0⟩ ⟨0, false, 0, 0, 0, 0, 0, 0, 0, 0, 0, 0, 0, 0, 0⟩), (FB, 37, evL ea ++ (evL eb ++ evL ⟨-7, 0, 0, 0⟩)), (AB, 27, csL d1), (GB, 27, csL d1)] SB vL vG vs us (.slice none 0 0) (.slice xa xn xc) (.slice ya yn yc) (.slice none 0 0) [] a1 a1 [] (wc.alloc (.cells #[.int .i64 ea.k, .int .i64 ea.t, .int .i64 ea.d, .int .i64 ea.a, .int .i64 eb.k, .int .i64 eb.t, .int .i64 eb.d, .int .i64 eb.a] 37))) := S4.out.later (below_alloc _ _)
      have NE : Hid (Blk wc.heap.size 37 (evL ea ++ evL eb) (wc.alloc (.cells #[.int .i64 ea.k, .int .i64 ea.t, .int .i64 ea.d, .int .i64 ea.a, .int .i64 eb.k, .int .i64 eb.t, .int .i64 eb.d, .int .i64 eb.a] 37))) := Blk.new _ _ _
      refine (RR1.out _ _ S4q.out.kd.bb (rdv2' NE.out)).mono ?_
      rintro e w6 ⟨za, zn, zc, rfl, rrow, bX⟩
      have fN := far_new S4q.out.sh rrow
      have apx : Apt (.slice xa xn xc) (.slice za zn zc) := apt_new S4q.out.rx rrow
      have apy : Apt (.slice ya yn yc) (.slice za zn zc) := apt_new S4q.out.ry rrow
      have S50 : Hid (SD w0 w [(w.heap.size, 24, polL l (.slice sa sn sc)), (w.heap.size + 1, 29, prL c c), (w.heap.size + 1 + 1, 37, evL ea), (w.heap.size + 1 + 1 + 1, 37, evL eb), (w.heap.size + 1 + 1 + 1 + 1, 29, prL ⟨0, false, 0, 0, 0, 0, 0, 0, 0, 0, 0, 0, 0, 0, 0⟩ ⟨0, false, 0, 0, 0, 0, 0, 0, 0, 0, 0, 0, 0, 0, 0⟩), (FB, 37, evL ea ++ (evL eb ++ evL ⟨-7, 0, 0, 0⟩)), (AB, 27, csL d1), (GB, 27, csL d1)] SB vL vG vs us (.slice none 0 0) (.slice xa xn xc) (.slice ya yn yc) (.slice none 0 0) [] a1 a1 [] w6) := S4q.out.later bX
      have rrow2 := rrow.mono S4q.out.kd.bb.size
      have S51 : Hid (SD w0 w [(w.heap.size, 24, polL l (.slice sa sn sc)), (w.heap.size + 1, 29, prL c c), (w.heap.size + 1 + 1, 37, evL ea), (w.heap.size + 1 + 1 + 1, 37, evL eb), (w.heap.size + 1 + 1 + 1 + 1, 29, prL ⟨0, false, 0, 0, 0, 0, 0, 0, 0, 0, 0, 0, 0, 0, 0⟩ ⟨0, false, 0, 0, 0, 0, 0, 0, 0, 0, 0, 0, 0, 0, 0⟩), (FB, 37, evL ea ++ (evL eb ++ evL ⟨-7, 0, 0, 0⟩)), (AB, 27, csL d1), (GB, 27, csL d1)] SB vL vG vs us (.slice none 0 0) (.slice xa xn xc) (.slice ya yn yc) (.slice za zn zc) [] a1 a1 a1 w6) := S50.out.mkZ rrow2 apx apy
      clear bX S4 S4q rrow rrow2 S50 NE
      have NZ : Hid (Blk w6.heap.size 27 (csL ⟨0, false, 0, 0, 0, 0, 0, 0, 0, 0, 0, 0, 0, 0, 0⟩) (w6.alloc (.cells #[.int .i64 0, .bool false, .int .i64 0, .int .i64 0, .int .i64 0, .int .i64 0, .int .i64 0, .int .i64 0, .int .i64 0, .int .i64 0, .int .i64 0, .int .i64 0, .int .i64 0, .int .i64 0, .int .i64 0] 27))) := Blk.new _ _ _
      go_upto_region 6 with ((with_reducible refine at_store ?_); refine step_store rfl 27 _ _ rfl w6.heap.size 0 27 (csL ⟨0, false, 0, 0, 0, 0, 0, 0, 0, 0, 0, 0, 0, 0, 0⟩) (csL d1) rfl rfl NZ.out (Nat.le_refl 15) (sizeCsL _) (csL_one _) ?_; intro w7 n9 g9)
      have S5 : Hid (SD w0 w [(w.heap.size, 24, polL l (.slice sa sn sc)), (w.heap.size + 1, 29, prL c c), (w.heap.size + 1 + 1, 37, evL ea), (w.heap.size + 1 + 1 + 1, 37, evL eb), (w.heap.size + 1 + 1 + 1 + 1, 29, prL ⟨0, false, 0, 0, 0, 0, 0, 0, 0, 0, 0, 0, 0, 0, 0⟩ ⟨0, false, 0, 0, 0, 0, 0, 0, 0, 0, 0, 0, 0, 0, 0⟩), (FB, 37, evL ea ++ (evL eb ++ evL ⟨-7, 0, 0, 0⟩)), (AB, 27, csL d1), (GB, 27, csL d1), (w6.heap.size, 27, csL d1)] SB vL vG vs us (.slice none 0 0) (.slice xa xn xc) (.slice ya yn yc) (.slice za zn zc) [] a1 a1 a1 w7) := S51.out.addB n9 g9
      clear n9 g9 NZ S51
      obtain ⟨DB, hDB⟩ : ∃ B, w6.heap.size = B := ⟨_, rfl⟩
      rw [hDB] at S5
      rw [hDB]
      clear hDB
      go_upto_region 6 with fail
      have hu := Tryd.underlying24
      have hi := SZ.out
      have hu2 := Tryd.underlying27
      have hi2 := sizeCsL c
      have hu3 := Tryd.underlying37
      have hu4 := Tryd.underlying29
      have hk1 := sizeCsL d1
      have hea := sizeEvL ea
      have heb := sizeEvL eb
      have hm7 := sizeEvL ⟨-7, 0, 0, 0⟩
      have EQ := cs_eql d1
      have E1 := ev_eql ea
      have E2 := ev_eql eb
      have E3 := ev_eql ⟨-7, 0, 0, 0⟩
      refine wp_region_held_drew (S := fun w' => SD w0 w [(w.heap.size, 24, polL l (.slice sa sn sc)), (w.heap.size + 1, 29, prL c c), (w.heap.size + 1 + 1, 37, evL ea), (w.heap.size + 1 + 1 + 1, 37, evL eb), (w.heap.size + 1 + 1 + 1 + 1, 29, prL ⟨0, false, 0, 0, 0, 0, 0, 0, 0, 0, 0, 0, 0, 0, 0⟩ ⟨0, false, 0, 0, 0, 0, 0, 0, 0, 0, 0, 0, 0, 0, 0⟩), (FB, 37, evL ea ++ (evL eb ++ evL ⟨-7, 0, 0, 0⟩)), (AB, 27, csL d1), (GB, 27, csL d1), (DB, 27, csL d1)] SB vL vG vs us (.slice none 0 0) (.slice xa xn xc) (.slice ya yn yc) (.slice za zn zc) [] a1 a1 a1 w') (by kernel_rfl) (S5.out.drew) (fun hH => ?_)
      refine wpAnyH_take (i := 0) (oi := { dst := some 59, op := Op.load 27 (Operand.tmp 14), type := 27, pos := "law.go:119", after := #[], guard := none }) (v := .agg (csL d1).toArray) rfl (by kernel_rfl) (by kernel_rfl) (by kernel_rfl) (fun _ _ _ h => h) (yieldsIf_load_mid (by rfl) _ _ rfl AB 0 rfl (csL d1) _ (fun w' h => (Blk.all (h.kd.at 6 rfl))) hu2 rfl hk1) hH ?_
      try simp only [Act.put, List.setIfInBounds_toArray, List.set_cons_zero, List.set_cons_succ]
      refine wpAnyH_take (i := 1) (oi := { dst := some 60, op := Op.load 27 (Operand.tmp 18), type := 27, pos := "law.go:119", after := #[], guard := none }) (v := .agg (csL d1).toArray) rfl (by kernel_rfl) (by kernel_rfl) (by kernel_rfl) (fun _ _ _ h => h) (yieldsIf_load_mid (by rfl) _ _ rfl DB 0 rfl (csL d1) _ (fun w' h => (Blk.all (h.kd.at 8 rfl))) hu2 rfl hk1) hH ?_
      try simp only [Act.put, List.setIfInBounds_toArray, List.set_cons_zero, List.set_cons_succ]
      refine wpAnyH_take (i := 2) (oi := { dst := some 61, op := Op.binOp BinOp.eql 27 (Operand.tmp 59) (Operand.tmp 60) 27, type := 4, pos := "law.go:119", after := #[{ on := 0, ground := Ground.data }, { on := 1, ground := Ground.data }], guard := none }) (v := .bool true) rfl (by kernel_rfl) (by kernel_rfl) (by kernel_rfl) (fun _ _ _ h => h) (Or.inl ⟨by rfl, fun w' h => by go_simp⟩) hH ?_
      try simp only [Act.put, List.setIfInBounds_toArray, List.set_cons_zero, List.set_cons_succ]
      refine wpAnyH_take (i := 3) (oi := { dst := some 62, op := Op.move (Operand.tmp 61), type := 4, pos := "law.go:119", after := #[{ on := 2, ground := Ground.data }], guard := none }) (v := .bool true) rfl (by kernel_rfl) (by kernel_rfl) (by kernel_rfl) (fun _ _ _ h => h) (Or.inl ⟨by rfl, fun w' h => by go_simp⟩) hH ?_
      try simp only [Act.put, List.setIfInBounds_toArray, List.set_cons_zero, List.set_cons_succ]
      refine wpAnyH_take (i := 4) (oi := { dst := some 63, op := Op.move (Operand.tmp 15), type := 22, pos := "law.go:119", after := #[{ on := 3, ground := Ground.guard }], guard := some (3, true) }) (v := .slice xa xn xc) rfl (by kernel_rfl) (by kernel_rfl) (by kernel_rfl) (fun _ _ _ h => h) (Or.inl ⟨by rfl, fun w' h => by go_simp⟩) hH ?_
      try simp only [Act.put, List.setIfInBounds_toArray, List.set_cons_zero, List.set_cons_succ]
      refine wpAnyH_take (i := 5) (oi := { dst := some 64, op := Op.move (Operand.tmp 19), type := 22, pos := "law.go:119", after := #[{ on := 3, ground := Ground.guard }], guard := some (3, true) }) (v := .slice za zn zc) rfl (by kernel_rfl) (by kernel_rfl) (by kernel_rfl) (fun _ _ _ h => h) (Or.inl ⟨by rfl, fun w' h => by go_simp⟩) hH ?_
      try simp only [Act.put, List.setIfInBounds_toArray, List.set_cons_zero, List.set_cons_succ]
      refine wpAnyH_ready (rs := [6]) (by kernel_rfl) (by simp) ?_
      refine AllReadyH.cons (o := { dst := some 65, op := Op.call { callee := Callee.value (Operand.func 18), args := #[Operand.tmp 63, Operand.tmp 64], argTypes := #[22, 22] }, type := 4, pos := "law.go:119", after := #[{ on := 4, ground := Ground.data }, { on := 5, ground := Ground.data }, { on := 3, ground := Ground.chain }, { on := 3, ground := Ground.guard }], guard := some (3, true) }) rfl (fun K hK => ?_) AllReadyH.nil
      go_simp
      refine (SM.out a1 _ _ _ LA1.out hH.rx.rd hH.rz.rd).mono ?_
      rintro e w8 ⟨rfl, bX⟩
      have S6 : Hid (SD w0 w [(w.heap.size, 24, polL l (.slice sa sn sc)), (w.heap.size + 1, 29, prL c c), (w.heap.size + 1 + 1, 37, evL ea), (w.heap.size + 1 + 1 + 1, 37, evL eb), (w.heap.size + 1 + 1 + 1 + 1, 29, prL ⟨0, false, 0, 0, 0, 0, 0, 0, 0, 0, 0, 0, 0, 0, 0⟩ ⟨0, false, 0, 0, 0, 0, 0, 0, 0, 0, 0, 0, 0, 0, 0⟩), (FB, 37, evL ea ++ (evL eb ++ evL ⟨-7, 0, 0, 0⟩)), (AB, 27, csL d1), (GB, 27, csL d1), (DB, 27, csL d1)] SB vL vG vs us (.slice none 0 0) (.slice xa xn xc) (.slice ya yn yc) (.slice za zn zc) [] a1 a1 a1 w8) := hH.later bX
      clear bX
      refine hK.out _ _ S6.out (fun hH => ?_)
      refine wpAnyH_take (i := 7) (oi := { dst := some 66, op := Op.pick (Operand.tmp 62) (Operand.tmp 65) (Operand.const (Value.bool false)), type := 4, pos := "law.go:119", after := #[{ on := 3, ground := Ground.data }, { on := 6, ground := Ground.data }], guard := none }) (v := .bool true) rfl (by kernel_rfl) (by kernel_rfl) (by kernel_rfl) (fun _ _ _ h => h) (Or.inl ⟨by rfl, fun w' h => by go_simp⟩) hH ?_
      try simp only [Act.put, List.setIfInBounds_toArray, List.set_cons_zero, List.set_cons_succ]
      refine wpAnyH_take (i := 8) (oi := { dst := some 67, op := Op.move (Operand.tmp 66), type := 4, pos := "law.go:119", after := #[{ on := 7, ground := Ground.data }, { on := 6, ground := Ground.chain }], guard := none }) (v := .bool true) rfl (by kernel_rfl) (by kernel_rfl) (by kernel_rfl) (fun _ _ _ h => h) (Or.inl ⟨by rfl, fun w' h => by go_simp⟩) hH ?_
      try simp only [Act.put, List.setIfInBounds_toArray, List.set_cons_zero, List.set_cons_succ]
      refine wpAnyH_take (i := 9) (oi := { dst := some 68, op := Op.move (Operand.tmp 13), type := 49, pos := "law.go:119", after := #[{ on := 8, ground := Ground.guard }], guard := some (8, true) }) (v := .slice (some ⟨FB, 0, none⟩) 2 3) rfl (by kernel_rfl) (by kernel_rfl) (by kernel_rfl) (fun _ _ _ h => h) (Or.inl ⟨by rfl, fun w' h => by go_simp⟩) hH ?_
      try simp only [Act.put, List.setIfInBounds_toArray, List.set_cons_zero, List.set_cons_succ]
      refine wpAnyH_take (i := 10) (oi := { dst := some 69, op := Op.indexAddr 49 (Operand.tmp 68) (Operand.const (Value.int IntKind.i64 0)), type := 0, pos := "law.go:119", after := #[{ on := 9, ground := Ground.data }, { on := 8, ground := Ground.guard }], guard := some (8, true) }) (v := .pointer (some ⟨FB, 0, none⟩)) rfl (by kernel_rfl) (by kernel_rfl) (by kernel_rfl) (fun _ _ _ h => h) (Or.inl ⟨by rfl, fun w' h => by go_simp⟩) hH ?_
      try simp only [Act.put, List.setIfInBounds_toArray, List.set_cons_zero, List.set_cons_succ]
      refine wpAnyH_take (i := 11) (oi := { dst := some 70, op := Op.load 37 (Operand.tmp 69), type := 37, pos := "law.go:119", after := #[{ on := 10, ground := Ground.data }, { on := 8, ground := Ground.guard }], guard := some (8, true) }) (v := .agg (evL ea).toArray) rfl (by kernel_rfl) (by kernel_rfl) (by kernel_rfl) (fun _ _ _ h => h) (yieldsIf_load_mid (by rfl) _ _ rfl FB 0 rfl (evL ea) _ (fun w' h => (fb_0 (h.kd.at 5 rfl))) hu3 rfl hea) hH ?_
      try simp only [Act.put, List.setIfInBounds_toArray, List.set_cons_zero, List.set_cons_succ]
      refine wpAnyH_take (i := 12) (oi := { dst := some 71, op := Op.load 37 (Operand.tmp 7), type := 37, pos := "law.go:119", after := #[{ on := 8, ground := Ground.guard }], guard := some (8, true) }) (v := .agg (evL ea).toArray) rfl (by kernel_rfl) (by kernel_rfl) (by kernel_rfl) (fun _ _ _ h => h) (yieldsIf_load_mid (by rfl) _ _ rfl (w.heap.size + 1 + 1) 0 rfl (evL ea) _ (fun w' h => (Blk.all (h.kd.at 2 rfl))) hu3 rfl hea) hH ?_
      try simp only [Act.put, List.setIfInBounds_toArray, List.set_cons_zero, List.set_cons_succ]
      refine wpAnyH_take (i := 13) (oi := { dst := some 72, op := Op.binOp BinOp.eql 37 (Operand.tmp 70) (Operand.tmp 71) 37, type := 4, pos := "law.go:119", after := #[{ on := 11, ground := Ground.data }, { on := 12, ground := Ground.data }, { on := 8, ground := Ground.guard }], guard := some (8, true) }) (v := .bool true) rfl (by kernel_rfl) (by kernel_rfl) (by kernel_rfl) (fun _ _ _ h => h) (Or.inl ⟨by rfl, fun w' h => by go_simp⟩) hH ?_
      try simp only [Act.put, List.setIfInBounds_toArray, List.set_cons_zero, List.set_cons_succ]
      refine wpAnyH_take (i := 14) (oi := { dst := some 73, op := Op.pick (Operand.tmp 67) (Operand.tmp 72) (Operand.const (Value.bool false)), type := 4, pos := "law.go:119", after := #[{ on := 8, ground := Ground.data }, { on := 13, ground := Ground.data }], guard := none }) (v := .bool true) rfl (by kernel_rfl) (by kernel_rfl) (by kernel_rfl) (fun _ _ _ h => h) (Or.inl ⟨by rfl, fun w' h => by go_simp⟩) hH ?_
      try simp only [Act.put, List.setIfInBounds_toArray, List.set_cons_zero, List.set_cons_succ]
      refine wpAnyH_take (i := 15) (oi := { dst := some 74, op := Op.move (Operand.tmp 73), type := 4, pos := "law.go:119", after := #[{ on := 14, ground := Ground.data }, { on := 8, ground := Ground.chain }], guard := none }) (v := .bool true) rfl (by kernel_rfl) (by kernel_rfl) (by kernel_rfl) (fun _ _ _ h => h) (Or.inl ⟨by rfl, fun w' h => by go_simp⟩) hH ?_
      try simp only [Act.put, List.setIfInBounds_toArray, List.set_cons_zero, List.set_cons_succ]
      refine wpAnyH_take (i := 16) (oi := { dst := some 75, op := Op.move (Operand.tmp 13), type := 49, pos := "law.go:119", after := #[{ on := 15, ground := Ground.guard }], guard := some (15, true) }) (v := .slice (some ⟨FB, 0, none⟩) 2 3) rfl (by kernel_rfl) (by kernel_rfl) (by kernel_rfl) (fun _ _ _ h => h) (Or.inl ⟨by rfl, fun w' h => by go_simp⟩) hH ?_
      try simp only [Act.put, List.setIfInBounds_toArray, List.set_cons_zero, List.set_cons_succ]
      refine wpAnyH_take (i := 17) (oi := { dst := some 76, op := Op.indexAddr 49 (Operand.tmp 75) (Operand.const (Value.int IntKind.i64 1)), type := 0, pos := "law.go:119", after := #[{ on := 16, ground := Ground.data }, { on := 15, ground := Ground.guard }], guard := some (15, true) }) (v := .pointer (some ⟨FB, 4, none⟩)) rfl (by kernel_rfl) (by kernel_rfl) (by kernel_rfl) (fun _ _ _ h => h) (Or.inl ⟨by rfl, fun w' h => by go_simp⟩) hH ?_
      try simp only [Act.put, List.setIfInBounds_toArray, List.set_cons_zero, List.set_cons_succ]
      refine wpAnyH_take (i := 18) (oi := { dst := some 77, op := Op.load 37 (Operand.tmp 76), type := 37, pos := "law.go:119", after := #[{ on := 17, ground := Ground.data }, { on := 15, ground := Ground.guard }], guard := some (15, true) }) (v := .agg (evL eb).toArray) rfl (by kernel_rfl) (by kernel_rfl) (by kernel_rfl) (fun _ _ _ h => h) (yieldsIf_load_mid (by rfl) _ _ rfl FB 4 rfl (evL eb) _ (fun w' h => (fb_1 (h.kd.at 5 rfl))) hu3 rfl heb) hH ?_
      try simp only [Act.put, List.setIfInBounds_toArray, List.set_cons_zero, List.set_cons_succ]
      refine wpAnyH_take (i := 19) (oi := { dst := some 78, op := Op.load 37 (Operand.tmp 8), type := 37, pos := "law.go:119", after := #[{ on := 15, ground := Ground.guard }], guard := some (15, true) }) (v := .agg (evL eb).toArray) rfl (by kernel_rfl) (by kernel_rfl) (by kernel_rfl) (fun _ _ _ h => h) (yieldsIf_load_mid (by rfl) _ _ rfl (w.heap.size + 1 + 1 + 1) 0 rfl (evL eb) _ (fun w' h => (Blk.all (h.kd.at 3 rfl))) hu3 rfl heb) hH ?_
      try simp only [Act.put, List.setIfInBounds_toArray, List.set_cons_zero, List.set_cons_succ]
      refine wpAnyH_take (i := 20) (oi := { dst := some 79, op := Op.binOp BinOp.eql 37 (Operand.tmp 77) (Operand.tmp 78) 37, type := 4, pos := "law.go:119", after := #[{ on := 18, ground := Ground.data }, { on := 19, ground := Ground.data }, { on := 15, ground := Ground.guard }], guard := some (15, true) }) (v := .bool true) rfl (by kernel_rfl) (by kernel_rfl) (by kernel_rfl) (fun _ _ _ h => h) (Or.inl ⟨by rfl, fun w' h => by go_simp⟩) hH ?_
      try simp only [Act.put, List.setIfInBounds_toArray, List.set_cons_zero, List.set_cons_succ]
      refine wpAnyH_take (i := 21) (oi := { dst := some 80, op := Op.pick (Operand.tmp 74) (Operand.tmp 79) (Operand.const (Value.bool false)), type := 4, pos := "law.go:119", after := #[{ on := 15, ground := Ground.data }, { on := 20, ground := Ground.data }], guard := none }) (v := .bool true) rfl (by kernel_rfl) (by kernel_rfl) (by kernel_rfl) (fun _ _ _ h => h) (Or.inl ⟨by rfl, fun w' h => by go_simp⟩) hH ?_
      try simp only [Act.put, List.setIfInBounds_toArray, List.set_cons_zero, List.set_cons_succ]
      refine wpAnyH_take (i := 22) (oi := { dst := some 81, op := Op.move (Operand.tmp 80), type := 4, pos := "law.go:119", after := #[{ on := 21, ground := Ground.data }, { on := 15, ground := Ground.chain }], guard := none }) (v := .bool true) rfl (by kernel_rfl) (by kernel_rfl) (by kernel_rfl) (fun _ _ _ h => h) (Or.inl ⟨by rfl, fun w' h => by go_simp⟩) hH ?_
      try simp only [Act.put, List.setIfInBounds_toArray, List.set_cons_zero, List.set_cons_succ]
      refine wpAnyH_take (i := 23) (oi := { dst := some 82, op := Op.move (Operand.tmp 12), type := 49, pos := "law.go:119", after := #[{ on := 22, ground := Ground.guard }], guard := some (22, true) }) (v := .slice (some ⟨FB, 0, none⟩) 3 3) rfl (by kernel_rfl) (by kernel_rfl) (by kernel_rfl) (fun _ _ _ h => h) (Or.inl ⟨by rfl, fun w' h => by go_simp⟩) hH ?_
      try simp only [Act.put, List.setIfInBounds_toArray, List.set_cons_zero, List.set_cons_succ]
      refine wpAnyH_take (i := 24) (oi := { dst := some 83, op := Op.indexAddr 49 (Operand.tmp 82) (Operand.const (Value.int IntKind.i64 2)), type := 0, pos := "law.go:119", after := #[{ on := 23, ground := Ground.data }, { on := 22, ground := Ground.guard }], guard := some (22, true) }) (v := .pointer (some ⟨FB, 8, none⟩)) rfl (by kernel_rfl) (by kernel_rfl) (by kernel_rfl) (fun _ _ _ h => h) (Or.inl ⟨by rfl, fun w' h => by go_simp⟩) hH ?_
      try simp only [Act.put, List.setIfInBounds_toArray, List.set_cons_zero, List.set_cons_succ]
      refine wpAnyH_take (i := 25) (oi := { dst := some 84, op := Op.load 37 (Operand.tmp 83), type := 37, pos := "law.go:119", after := #[{ on := 24, ground := Ground.data }, { on := 22, ground := Ground.guard }], guard := some (22, true) }) (v := .agg (evL ⟨-7, 0, 0, 0⟩).toArray) rfl (by kernel_rfl) (by kernel_rfl) (by kernel_rfl) (fun _ _ _ h => h) (yieldsIf_load_mid (by rfl) _ _ rfl FB 8 rfl (evL ⟨-7, 0, 0, 0⟩) _ (fun w' h => (fb_2 (h.kd.at 5 rfl))) hu3 rfl hm7) hH ?_
      try simp only [Act.put, List.setIfInBounds_toArray, List.set_cons_zero, List.set_cons_succ]
      refine wpAnyH_take (i := 26) (oi := { dst := some 85, op := Op.build 37 #[(0, Operand.const (Value.int IntKind.i64 (-7)))], type := 37, pos := "law.go:119", after := #[{ on := 22, ground := Ground.guard }], guard := some (22, true) }) (v := evV ⟨-7, 0, 0, 0⟩) rfl (by kernel_rfl) (by kernel_rfl) (by kernel_rfl) (fun _ _ _ h => h) (Or.inl ⟨by rfl, fun w' h => by go_simp; rfl⟩) hH ?_
      try simp only [Act.put, List.setIfInBounds_toArray, List.set_cons_zero, List.set_cons_succ]
      refine wpAnyH_take (i := 27) (oi := { dst := some 86, op := Op.binOp BinOp.eql 37 (Operand.tmp 84) (Operand.tmp 85) 37, type := 4, pos := "law.go:119", after := #[{ on := 25, ground := Ground.data }, { on := 26, ground := Ground.data }, { on := 22, ground := Ground.guard }], guard := some (22, true) }) (v := .bool true) rfl (by kernel_rfl) (by kernel_rfl) (by kernel_rfl) (fun _ _ _ h => h) (Or.inl ⟨by rfl, fun w' h => by go_simp⟩) hH ?_
      try simp only [Act.put, List.setIfInBounds_toArray, List.set_cons_zero, List.set_cons_succ]
      refine wpAnyH_take (i := 28) (oi := { dst := some 87, op := Op.pick (Operand.tmp 81) (Operand.tmp 86) (Operand.const (Value.bool false)), type := 4, pos := "law.go:119", after := #[{ on := 22, ground := Ground.data }, { on := 27, ground := Ground.data }], guard := none }) (v := .bool true) rfl (by kernel_rfl) (by kernel_rfl) (by kernel_rfl) (fun _ _ _ h => h) (Or.inl ⟨by rfl, fun w' h => by go_simp⟩) hH ?_
      try simp only [Act.put, List.setIfInBounds_toArray, List.set_cons_zero, List.set_cons_succ]
      refine wpAnyH_take (i := 29) (oi := { dst := some 20, op := Op.assign (Operand.tmp 87), type := 4, pos := "law.go:119", after := #[{ on := 28, ground := Ground.data }, { on := 22, ground := Ground.chain }, { on := 0, ground := Ground.phase }, { on := 1, ground := Ground.phase }, { on := 2, ground := Ground.phase }, { on := 3, ground := Ground.phase }, { on := 4, ground := Ground.phase }, { on := 5, ground := Ground.phase }, { on := 6, ground := Ground.phase }, { on := 7, ground := Ground.phase }, { on := 8, ground := Ground.phase }, { on := 9, ground := Ground.phase }, { on := 10, ground := Ground.phase }, { on := 11, ground := Ground.phase }, { on := 12, ground := Ground.phase }, { on := 13, ground := Ground.phase }, { on := 14, ground := Ground.phase }, { on := 15, ground := Ground.phase }, { on := 16, ground := Ground.phase }, { on := 17, ground := Ground.phase }, { on := 18, ground := Ground.phase }, { on := 19, ground := Ground.phase }, { on := 20, ground := Ground.phase }, { on := 21, ground := Ground.phase }, { on := 22, ground := Ground.phase }, { on := 23, ground := Ground.phase }, { on := 24, ground := Ground.phase }, { on := 25, ground := Ground.phase }, { on := 26, ground := Ground.phase }, { on := 27, ground := Ground.phase }, { on := 28, ground := Ground.phase }], guard := none }) (v := .bool true) rfl (by kernel_rfl) (by kernel_rfl) (by kernel_rfl) (fun _ _ _ h => h) (Or.inl ⟨by rfl, fun w' h => by go_simp⟩) hH ?_
      try simp only [Act.put, List.setIfInBounds_toArray, List.set_cons_zero, List.set_cons_succ]
      refine wpAnyH_done (by kernel_rfl) ?_ _
      clear hH hK S5 EQ E1 E2 E3 hk1 hea heb hm7 hu hi hu2 hi2 hu3 hu4
      go_wp2_with fail
      refine (put_at a1 S6.out.sh S6.out.rx S6.out.fx HV1.out LB1.out).mono ?_
      rintro e w9 hp
      have hp0 := hp.1
      subst hp0
      obtain ⟨vL1, vG1, u1, S70⟩ := S6.out.putX (fun k q hq => by rcases k with _ | k; (· cases hq; first | exact ⟨tyP.1, tyP.2.1, tyP.2.2⟩ | exact ⟨tyR.1, tyR.2.1, tyR.2.2⟩ | exact ⟨tyE.1, tyE.2.1, tyE.2.2⟩ | exact ⟨tyC.1, tyC.2.1, tyC.2.2⟩); rcases k with _ | k; (· cases hq; first | exact ⟨tyP.1, tyP.2.1, tyP.2.2⟩ | exact ⟨tyR.1, tyR.2.1, tyR.2.2⟩ | exact ⟨tyE.1, tyE.2.1, tyE.2.2⟩ | exact ⟨tyC.1, tyC.2.1, tyC.2.2⟩); rcases k with _ | k; (· cases hq; first | exact ⟨tyP.1, tyP.2.1, tyP.2.2⟩ | exact ⟨tyR.1, tyR.2.1, tyR.2.2⟩ | exact ⟨tyE.1, tyE.2.1, tyE.2.2⟩ | exact ⟨tyC.1, tyC.2.1, tyC.2.2⟩); rcases k with _ | k; (· cases hq; first | exact ⟨tyP.1, tyP.2.1, tyP.2.2⟩ | exact ⟨tyR.1, tyR.2.1, tyR.2.2⟩ | exact ⟨tyE.1, tyE.2.1, tyE.2.2⟩ | exact ⟨tyC.1, tyC.2.1, tyC.2.2⟩); rcases k with _ | k; (· cases hq; first | exact ⟨tyP.1, tyP.2.1, tyP.2.2⟩ | exact ⟨tyR.1, tyR.2.1, tyR.2.2⟩ | exact ⟨tyE.1, tyE.2.1, tyE.2.2⟩ | exact ⟨tyC.1, tyC.2.1, tyC.2.2⟩); rcases k with _ | k; (· cases hq; first | exact ⟨tyP.1, tyP.2.1, tyP.2.2⟩ | exact ⟨tyR.1, tyR.2.1, tyR.2.2⟩ | exact ⟨tyE.1, tyE.2.1, tyE.2.2⟩ | exact ⟨tyC.1, tyC.2.1, tyC.2.2⟩); rcases k with _ | k; (· cases hq; first | exact ⟨tyP.1, tyP.2.1, tyP.2.2⟩ | exact ⟨tyR.1, tyR.2.1, tyR.2.2⟩ | exact ⟨tyE.1, tyE.2.1, tyE.2.2⟩ | exact ⟨tyC.1, tyC.2.1, tyC.2.2⟩); rcases k with _ | k; (· cases hq; first | exact ⟨tyP.1, tyP.2.1, tyP.2.2⟩ | exact ⟨tyR.1, tyR.2.1, tyR.2.2⟩ | exact ⟨tyE.1, tyE.2.1, tyE.2.2⟩ | exact ⟨tyC.1, tyC.2.1, tyC.2.2⟩); rcases k with _ | k; (· cases hq; first | exact ⟨tyP.1, tyP.2.1, tyP.2.2⟩ | exact ⟨tyR.1, tyR.2.1, tyR.2.2⟩ | exact ⟨tyE.1, tyE.2.1, tyE.2.2⟩ | exact ⟨tyC.1, tyC.2.1, tyC.2.2⟩); cases hq) hp
      have S7 : Hid (SD w0 w [(w.heap.size, 24, polL l (.slice sa sn sc)), (w.heap.size + 1, 29, prL c c), (w.heap.size + 1 + 1, 37, evL ea), (w.heap.size + 1 + 1 + 1, 37, evL eb), (w.heap.size + 1 + 1 + 1 + 1, 29, prL ⟨0, false, 0, 0, 0, 0, 0, 0, 0, 0, 0, 0, 0, 0, 0⟩ ⟨0, false, 0, 0, 0, 0, 0, 0, 0, 0, 0, 0, 0, 0, 0⟩), (FB, 37, evL ea ++ (evL eb ++ evL ⟨-7, 0, 0, 0⟩)), (AB, 27, csL d1), (GB, 27, csL d1), (DB, 27, csL d1)] SB vL1 vG1 (vs ++ [.slice xa xn xc]) (us ++ [u1]) (.slice none 0 0) (.slice none 0 0) (.slice ya yn yc) (.slice za zn zc) [] [] a1 a1 w9) := S70
      clear hp S70 S6
      go_wp2_with fail
      refine (SM.out a1 _ _ _ LA1.out S7.out.ry.rd S7.out.rz.rd).mono ?_
      rintro e w10 ⟨rfl, bX⟩
      have S8 : Hid (SD w0 w [(w.heap.size, 24, polL l (.slice sa sn sc)), (w.heap.size + 1, 29, prL c c), (w.heap.size + 1 + 1, 37, evL ea), (w.heap.size + 1 + 1 + 1, 37, evL eb), (w.heap.size + 1 + 1 + 1 + 1, 29, prL ⟨0, false, 0, 0, 0, 0, 0, 0, 0, 0, 0, 0, 0, 0, 0⟩ ⟨0, false, 0, 0, 0, 0, 0, 0, 0, 0, 0, 0, 0, 0, 0⟩), (FB, 37, evL ea ++ (evL eb ++ evL ⟨-7, 0, 0, 0⟩)), (AB, 27, csL d1), (GB, 27, csL d1), (DB, 27, csL d1)] SB vL1 vG1 (vs ++ [.slice xa xn xc]) (us ++ [u1]) (.slice none 0 0) (.slice none 0 0) (.slice ya yn yc) (.slice za zn zc) [] [] a1 a1 w10) := S7.out.later bX
      clear bX S7
      go_wp2_with fail
      refine (put_at a1 S8.out.sh S8.out.ry S8.out.fy (HV2.out _) LB1.out).mono ?_
      rintro e w11 hp
      have hp0 := hp.1
      subst hp0
      obtain ⟨vL2, vG2, u2, S90⟩ := S8.out.putY (fun k q hq => by rcases k with _ | k; (· cases hq; first | exact ⟨tyP.1, tyP.2.1, tyP.2.2⟩ | exact ⟨tyR.1, tyR.2.1, tyR.2.2⟩ | exact ⟨tyE.1, tyE.2.1, tyE.2.2⟩ | exact ⟨tyC.1, tyC.2.1, tyC.2.2⟩); rcases k with _ | k; (· cases hq; first | exact ⟨tyP.1, tyP.2.1, tyP.2.2⟩ | exact ⟨tyR.1, tyR.2.1, tyR.2.2⟩ | exact ⟨tyE.1, tyE.2.1, tyE.2.2⟩ | exact ⟨tyC.1, tyC.2.1, tyC.2.2⟩); rcases k with _ | k; (· cases hq; first | exact ⟨tyP.1, tyP.2.1, tyP.2.2⟩ | exact ⟨tyR.1, tyR.2.1, tyR.2.2⟩ | exact ⟨tyE.1, tyE.2.1, tyE.2.2⟩ | exact ⟨tyC.1, tyC.2.1, tyC.2.2⟩); rcases k with _ | k; (· cases hq; first | exact ⟨tyP.1, tyP.2.1, tyP.2.2⟩ | exact ⟨tyR.1, tyR.2.1, tyR.2.2⟩ | exact ⟨tyE.1, tyE.2.1, tyE.2.2⟩ | exact ⟨tyC.1, tyC.2.1, tyC.2.2⟩); rcases k with _ | k; (· cases hq; first | exact ⟨tyP.1, tyP.2.1, tyP.2.2⟩ | exact ⟨tyR.1, tyR.2.1, tyR.2.2⟩ | exact ⟨tyE.1, tyE.2.1, tyE.2.2⟩ | exact ⟨tyC.1, tyC.2.1, tyC.2.2⟩); rcases k with _ | k; (· cases hq; first | exact ⟨tyP.1, tyP.2.1, tyP.2.2⟩ | exact ⟨tyR.1, tyR.2.1, tyR.2.2⟩ | exact ⟨tyE.1, tyE.2.1, tyE.2.2⟩ | exact ⟨tyC.1, tyC.2.1, tyC.2.2⟩); rcases k with _ | k; (· cases hq; first | exact ⟨tyP.1, tyP.2.1, tyP.2.2⟩ | exact ⟨tyR.1, tyR.2.1, tyR.2.2⟩ | exact ⟨tyE.1, tyE.2.1, tyE.2.2⟩ | exact ⟨tyC.1, tyC.2.1, tyC.2.2⟩); rcases k with _ | k; (· cases hq; first | exact ⟨tyP.1, tyP.2.1, tyP.2.2⟩ | exact ⟨tyR.1, tyR.2.1, tyR.2.2⟩ | exact ⟨tyE.1, tyE.2.1, tyE.2.2⟩ | exact ⟨tyC.1, tyC.2.1, tyC.2.2⟩); rcases k with _ | k; (· cases hq; first | exact ⟨tyP.1, tyP.2.1, tyP.2.2⟩ | exact ⟨tyR.1, tyR.2.1, tyR.2.2⟩ | exact ⟨tyE.1, tyE.2.1, tyE.2.2⟩ | exact ⟨tyC.1, tyC.2.1, tyC.2.2⟩); cases hq) hp
      have S9 : Hid (SD w0 w [(w.heap.size, 24, polL l (.slice sa sn sc)), (w.heap.size + 1, 29, prL c c), (w.heap.size + 1 + 1, 37, evL ea), (w.heap.size + 1 + 1 + 1, 37, evL eb), (w.heap.size + 1 + 1 + 1 + 1, 29, prL ⟨0, false, 0, 0, 0, 0, 0, 0, 0, 0, 0, 0, 0, 0, 0⟩ ⟨0, false, 0, 0, 0, 0, 0, 0, 0, 0, 0, 0, 0, 0, 0⟩), (FB, 37, evL ea ++ (evL eb ++ evL ⟨-7, 0, 0, 0⟩)), (AB, 27, csL d1), (GB, 27, csL d1), (DB, 27, csL d1)] SB vL2 vG2 (vs ++ [.slice xa xn xc] ++ [.slice ya yn yc]) (us ++ [u1] ++ [u2]) (.slice none 0 0) (.slice none 0 0) (.slice none 0 0) (.slice none 0 0) [] [] [] [] w11) := S90.dropZ
      clear hp S90 S8
      go_upto_region 11 with (first
      | ((with_reducible refine at_loadT 37 ?_); refine step_load rfl 37 _ rfl (w.heap.size + 1 + 1 + 1) 0 rfl [.int .i64 eb.k, .int .i64 eb.t, .int .i64 eb.d, .int .i64 eb.a] _ (Blk.all (S9.out.kd.at 3 rfl)) Tryd.underlying37 rfl (sizeEvL eb) ?_)
      | ((with_reducible refine at_store ?_); refine step_store rfl 37 _ _ rfl FB 0 37 (evL ea ++ (evL eb ++ evL ⟨-7, 0, 0, 0⟩)) [.int .i64 eb.k, .int .i64 eb.t, .int .i64 eb.d, .int .i64 eb.a] rfl rfl (S9.out.kd.at 5 rfl) (show 0 + 4 ≤ 12 by decide) (sizeEvL eb) (evL_one eb) ?_; intro w12 n12 g12))
      have S10 : Hid (SD w0 w [(w.heap.size, 24, polL l (.slice sa sn sc)), (w.heap.size + 1, 29, prL c c), (w.heap.size + 1 + 1, 37, evL ea), (w.heap.size + 1 + 1 + 1, 37, evL eb), (w.heap.size + 1 + 1 + 1 + 1, 29, prL ⟨0, false, 0, 0, 0, 0, 0, 0, 0, 0, 0, 0, 0, 0, 0⟩ ⟨0, false, 0, 0, 0, 0, 0, 0, 0, 0, 0, 0, 0, 0, 0⟩), (FB, 37, evL eb ++ (evL eb ++ evL ⟨-7, 0, 0, 0⟩)), (AB, 27, csL d1), (GB, 27, csL d1), (DB, 27, csL d1)] SB vL2 vG2 (vs ++ [.slice xa xn xc] ++ [.slice ya yn yc]) (us ++ [u1] ++ [u2]) (.slice none 0 0) (.slice none 0 0) (.slice none 0 0) (.slice none 0 0) [] [] [] [] w12) := S9.out.set 5 rfl ⟨int_ne_ev, sl_ne_ev, sh_ne_ev⟩ n12 g12 FBW.out
      clear n12 g12 S9
      go_upto_region 12 with (first
      | ((with_reducible refine at_loadT 37 ?_); refine step_load rfl 37 _ rfl (w.heap.size + 1 + 1) 0 rfl [.int .i64 ea.k, .int .i64 ea.t, .int .i64 ea.d, .int .i64 ea.a] _ (Blk.all (S10.out.kd.at 2 rfl)) Tryd.underlying37 rfl (sizeEvL ea) ?_)
      | ((with_reducible refine at_store ?_); refine step_store rfl 37 _ _ rfl FB 4 37 (evL eb ++ (evL eb ++ evL ⟨-7, 0, 0, 0⟩)) [.int .i64 ea.k, .int .i64 ea.t, .int .i64 ea.d, .int .i64 ea.a] rfl rfl (S10.out.kd.at 5 rfl) (show 4 + 4 ≤ 12 by decide) (sizeEvL ea) (evL_one ea) ?_; intro w13 n13 g13))
      have S11 : Hid (SD w0 w [(w.heap.size, 24, polL l (.slice sa sn sc)), (w.heap.size + 1, 29, prL c c), (w.heap.size + 1 + 1, 37, evL ea), (w.heap.size + 1 + 1 + 1, 37, evL eb), (w.heap.size + 1 + 1 + 1 + 1, 29, prL ⟨0, false, 0, 0, 0, 0, 0, 0, 0, 0, 0, 0, 0, 0, 0⟩ ⟨0, false, 0, 0, 0, 0, 0, 0, 0, 0, 0, 0, 0, 0, 0⟩), (FB, 37, evL eb ++ (evL ea ++ evL ⟨-7, 0, 0, 0⟩)), (AB, 27, csL d1), (GB, 27, csL d1), (DB, 27, csL d1)] SB vL2 vG2 (vs ++ [.slice xa xn xc] ++ [.slice ya yn yc]) (us ++ [u1] ++ [u2]) (.slice none 0 0) (.slice none 0 0) (.slice none 0 0) (.slice none 0 0) [] [] [] [] w13) := S10.out.set 5 rfl ⟨int_ne_ev, sl_ne_ev, sh_ne_ev⟩ n13 g13 FBW.out
      clear n13 g13 S10
      go_upto_region 12 with fail
      try simp only [Act.put]
      go_cut [21, 22] from 25 to 138 (fun v21 v22 wx => ∃ G ra rn rc, v21 = .pointer (some ⟨G, 0, none⟩) ∧ v22 = .slice ra rn rc ∧ Hid (SD w0 w [(w.heap.size, 24, polL l (.slice sa sn sc)), (w.heap.size + 1, 29, prL c c), (w.heap.size + 1 + 1, 37, evL ea), (w.heap.size + 1 + 1 + 1, 37, evL eb), (w.heap.size + 1 + 1 + 1 + 1, 29, prL ⟨0, false, 0, 0, 0, 0, 0, 0, 0, 0, 0, 0, 0, 0, 0⟩ ⟨0, false, 0, 0, 0, 0, 0, 0, 0, 0, 0, 0, 0, 0, 0⟩), (FB, 37, evL eb ++ (evL ea ++ evL ⟨-7, 0, 0, 0⟩)), (AB, 27, csL d1), (GB, 27, csL d1), (DB, 27, csL d1), (G, 27, csL d2)] SB vL2 vG2 (vs ++ [.slice xa xn xc] ++ [.slice ya yn yc]) (us ++ [u1] ++ [u2]) (.slice none 0 0) (.slice ra rn rc) (.slice none 0 0) (.slice none 0 0) [] a2 [] [] wx))
      case first => as_aux_lemma =>
        have hu := Tryd.underlying24
        have hi := SZ.out
        have hu2 := Tryd.underlying27
        have hi2 := sizeCsL c
        have hu3 := Tryd.underlying37
        have hu4 := Tryd.underlying29
        refine wp_region_held_drew (S := fun w' => SD w0 w [(w.heap.size, 24, polL l (.slice sa sn sc)), (w.heap.size + 1, 29, prL c c), (w.heap.size + 1 + 1, 37, evL ea), (w.heap.size + 1 + 1 + 1, 37, evL eb), (w.heap.size + 1 + 1 + 1 + 1, 29, prL ⟨0, false, 0, 0, 0, 0, 0, 0, 0, 0, 0, 0, 0, 0, 0⟩ ⟨0, false, 0, 0, 0, 0, 0, 0, 0, 0, 0, 0, 0, 0, 0⟩), (FB, 37, evL eb ++ (evL ea ++ evL ⟨-7, 0, 0, 0⟩)), (AB, 27, csL d1), (GB, 27, csL d1), (DB, 27, csL d1)] SB vL2 vG2 (vs ++ [.slice xa xn xc] ++ [.slice ya yn yc]) (us ++ [u1] ++ [u2]) (.slice none 0 0) (.slice none 0 0) (.slice none 0 0) (.slice none 0 0) [] [] [] [] w') (by kernel_rfl) (S11.out.drew) (fun hH => ?_)
        refine wpAnyH_take (i := 0) (oi := { dst := some 107, op := Op.load 24 (Operand.tmp 5), type := 24, pos := "law.go:125", after := #[], guard := none }) (v := .agg (polL l (.slice sa sn sc)).toArray) rfl (by kernel_rfl) (by kernel_rfl) (by kernel_rfl) (fun _ _ _ h => h) (yieldsIf_load_mid (by rfl) _ _ rfl w.heap.size 0 rfl (polL l (.slice sa sn sc)) _ (fun w' h => (Blk.all (h.kd.at 0 rfl))) hu rfl hi) hH ?_
        try simp only [Act.put, List.setIfInBounds_toArray, List.set_cons_zero, List.set_cons_succ]
        refine wpAnyH_take (i := 2) (oi := { dst := some 109, op := Op.fieldAddr 29 (Operand.tmp 6) 0, type := 0, pos := "law.go:125", after := #[], guard := none }) (v := .pointer (some ⟨w.heap.size + 1, 0, none⟩)) rfl (by kernel_rfl) (by kernel_rfl) (by kernel_rfl) (fun _ _ _ h => h) (Or.inl ⟨by rfl, fun w' h => by go_simp⟩) hH ?_
        try simp only [Act.put, List.setIfInBounds_toArray, List.set_cons_zero, List.set_cons_succ]
        refine wpAnyH_take (i := 3) (oi := { dst := some 110, op := Op.load 27 (Operand.tmp 109), type := 27, pos := "law.go:125", after := #[{ on := 2, ground := Ground.data }], guard := none }) (v := .agg (csL c).toArray) rfl (by kernel_rfl) (by kernel_rfl) (by kernel_rfl) (fun _ _ _ h => h) (yieldsIf_load_mid (by rfl) _ _ rfl (w.heap.size + 1) 0 rfl (csL c) _ (fun w' h => (pr_c (h.kd.at 1 rfl))) hu2 rfl hi2) hH ?_
        try simp only [Act.put, List.setIfInBounds_toArray, List.set_cons_zero, List.set_cons_succ]
        refine wpAnyH_take (i := 4) (oi := { dst := some 111, op := Op.move (Operand.tmp 13), type := 49, pos := "law.go:125", after := #[], guard := none }) (v := .slice (some ⟨FB, 0, none⟩) 2 3) rfl (by kernel_rfl) (by kernel_rfl) (by kernel_rfl) (fun _ _ _ h => h) (Or.inl ⟨by rfl, fun w' h => by go_simp⟩) hH ?_
        try simp only [Act.put, List.setIfInBounds_toArray, List.set_cons_zero, List.set_cons_succ]
        refine wpAnyH_ready (rs := [1, 9]) (by kernel_rfl) (by simp) ?_
        refine AllReadyH.cons (o := { dst := some 108, op := Op.call { callee := Callee.value (Operand.func 16), args := #[Operand.tmp 107], argTypes := #[24] }, type := 24, pos := "law.go:125", after := #[{ on := 0, ground := Ground.data }], guard := none }) rfl (fun K hK => ?_) (AllReadyH.cons (o := { dst := some 21, op := Op.alloc 27, type := 0, pos := "law.go:125", after := #[], guard := none }) rfl (fun K hK => ?_) AllReadyH.nil)
        · go_simp
          refine (OW.out _ hH.kd.bb).mono ?_
          rintro e x1 ⟨oa, on, oc, rfl, orow, bX⟩
          refine hK.out _ _ (hH.later bX) (fun hH => ?_)
          refine wpAnyH_ready (rs := [5, 9]) (by kernel_rfl) (by simp) ?_
          refine AllReadyH.cons (o := { dst := some 112, op := Op.call { callee := Callee.value (Operand.func 15), args := #[Operand.tmp 108, Operand.tmp 110, Operand.tmp 111], argTypes := #[24, 27, 49] }, type := 50, pos := "law.go:125", after := #[{ on := 1, ground := Ground.data }, { on := 3, ground := Ground.data }, { on := 4, ground := Ground.data }, { on := 1, ground := Ground.chain }], guard := none }) rfl (fun K hK => ?_) (AllReadyH.cons (o := { dst := some 21, op := Op.alloc 27, type := 0, pos := "law.go:125", after := #[], guard := none }) rfl (fun K hK => ?_) AllReadyH.nil)
          · go_simp
            refine (RU2.out _ _ _ orow.rd (rdv2 (hH.kd.at 5 rfl))).mono ?_
            rintro e x2 ⟨ra, rn, rc, rfl, rrow, bX⟩
            have orow := orow.later bX
            have fN : Far (.slice ra rn rc) (vs ++ [.slice xa xn xc] ++ [.slice ya yn yc]) (us ++ [u1] ++ [u2]) := far_new hH.sh rrow
            have rrow := rrow.mono hH.kd.bb.size
            refine hK.out _ _ (hH.later bX) (fun hH => ?_)
            refine wpAnyH_take (i := 6) (oi := { dst := some 106, op := Op.move (Operand.tmp 112), type := 50, pos := "law.go:125", after := #[{ on := 5, ground := Ground.data }], guard := none }) (v := .tuple #[csV d2, .slice ra rn rc]) rfl (by kernel_rfl) (by kernel_rfl) (by kernel_rfl) (fun _ _ _ h => h) (Or.inl ⟨by rfl, fun w' h => by go_simp⟩) hH ?_
            try simp only [Act.put, List.setIfInBounds_toArray, List.set_cons_zero, List.set_cons_succ]
            refine wpAnyH_take (i := 7) (oi := { dst := some 113, op := Op.extract (Operand.tmp 106) 0, type := 27, pos := "law.go:125", after := #[{ on := 6, ground := Ground.data }], guard := none }) (v := csV d2) rfl (by kernel_rfl) (by kernel_rfl) (by kernel_rfl) (fun _ _ _ h => h) (Or.inl ⟨by rfl, fun w' h => by go_simp⟩) hH ?_
            try simp only [Act.put, List.setIfInBounds_toArray, List.set_cons_zero, List.set_cons_succ]
            refine wpAnyH_take (i := 8) (oi := { dst := some 114, op := Op.extract (Operand.tmp 106) 1, type := 22, pos := "law.go:125", after := #[{ on := 6, ground := Ground.data }, { on := 10, ground := Ground.gcOnly Departure.lateStores }], guard := none }) (v := .slice ra rn rc) rfl (by kernel_rfl) (by kernel_rfl) (by kernel_rfl) (fun _ _ _ h => h) (Or.inl ⟨by rfl, fun w' h => by go_simp⟩) hH ?_
            try simp only [Act.put, List.setIfInBounds_toArray, List.set_cons_zero, List.set_cons_succ]
            refine wpAnyH_ready (rs := [9]) (by kernel_rfl) (by simp) ?_
            refine AllReadyH.cons (o := { dst := some 21, op := Op.alloc 27, type := 0, pos := "law.go:125", after := #[], guard := none }) rfl (fun K hK => ?_) AllReadyH.nil
            go_simp
            have hN : Blk x2.heap.size 27 (csL ⟨0, false, 0, 0, 0, 0, 0, 0, 0, 0, 0, 0, 0, 0, 0⟩) (x2.alloc (.cells #[.int .i64 0, .bool false, .int .i64 0, .int .i64 0, .int .i64 0, .int .i64 0, .int .i64 0, .int .i64 0, .int .i64 0, .int .i64 0, .int .i64 0, .int .i64 0, .int .i64 0, .int .i64 0, .int .i64 0] 27)) := Blk.new _ _ _
            have hG : w0.heap.size ≤ x2.heap.size := hH.kd.bb.size
            have hwG : w.heap.size < x2.heap.size := hH.kd.lt 0 rfl
            have hne : ∀ (k : Nat) (q : Nat × TypeId × List Value), [(w.heap.size, 24, polL l (.slice sa sn sc)), (w.heap.size + 1, 29, prL c c), (w.heap.size + 1 + 1, 37, evL ea), (w.heap.size + 1 + 1 + 1, 37, evL eb), (w.heap.size + 1 + 1 + 1 + 1, 29, prL ⟨0, false, 0, 0, 0, 0, 0, 0, 0, 0, 0, 0, 0, 0, 0⟩ ⟨0, false, 0, 0, 0, 0, 0, 0, 0, 0, 0, 0, 0, 0, 0⟩), (FB, 37, evL eb ++ (evL ea ++ evL ⟨-7, 0, 0, 0⟩)), (AB, 27, csL d1), (GB, 27, csL d1), (DB, 27, csL d1)][k]? = some q → q.1 ≠ x2.heap.size := fun k q hq => Nat.ne_of_lt (hH.kd.lt k hq)
            have orow := orow.later (below_alloc x2 (.cells #[.int .i64 0, .bool false, .int .i64 0, .int .i64 0, .int .i64 0, .int .i64 0, .int .i64 0, .int .i64 0, .int .i64 0, .int .i64 0, .int .i64 0, .int .i64 0, .int .i64 0, .int .i64 0, .int .i64 0] 27))
            have rrow := rrow.later (below_alloc x2 (.cells #[.int .i64 0, .bool false, .int .i64 0, .int .i64 0, .int .i64 0, .int .i64 0, .int .i64 0, .int .i64 0, .int .i64 0, .int .i64 0, .int .i64 0, .int .i64 0, .int .i64 0, .int .i64 0, .int .i64 0] 27))
            refine hK.out _ _ (hH.later (below_alloc _ _)) (fun hH => ?_)
            refine wpAnyH_ready (rs := [10]) (by kernel_rfl) (by simp) ?_
            refine AllReadyH.cons (o := { dst := none, op := Op.store 27 (Operand.tmp 21) (Operand.tmp 113), type := 0, pos := "law.go:125", after := #[{ on := 9, ground := Ground.data }, { on := 7, ground := Ground.data }, { on := 5, ground := Ground.chain }, { on := 0, ground := Ground.phase }, { on := 1, ground := Ground.phase }, { on := 2, ground := Ground.phase }, { on := 3, ground := Ground.phase }, { on := 4, ground := Ground.phase }, { on := 5, ground := Ground.phase }, { on := 6, ground := Ground.phase }, { on := 7, ground := Ground.phase }, { on := 8, ground := Ground.textOnly Departure.lateStores }, { on := 9, ground := Ground.phase }], guard := none }) rfl (fun K hK => ?_) AllReadyH.nil
            refine op_putC (zs := csL ⟨0, false, 0, 0, 0, 0, 0, 0, 0, 0, 0, 0, 0, 0, 0⟩) (csL d2) rfl (sizeCsL _) (csL_one _) rfl _ _ rfl _ rfl rfl hN ?_
            intro w9 b9 g9
            have hZ := hH.addG hN hne hG hwG b9 g9
            have PX : Hid (SD w0 w [(w.heap.size, 24, polL l (.slice sa sn sc)), (w.heap.size + 1, 29, prL c c), (w.heap.size + 1 + 1, 37, evL ea), (w.heap.size + 1 + 1 + 1, 37, evL eb), (w.heap.size + 1 + 1 + 1 + 1, 29, prL ⟨0, false, 0, 0, 0, 0, 0, 0, 0, 0, 0, 0, 0, 0, 0⟩ ⟨0, false, 0, 0, 0, 0, 0, 0, 0, 0, 0, 0, 0, 0, 0⟩), (FB, 37, evL eb ++ (evL ea ++ evL ⟨-7, 0, 0, 0⟩)), (AB, 27, csL d1), (GB, 27, csL d1), (DB, 27, csL d1), (_, 27, csL d2)] SB vL2 vG2 (vs ++ [.slice xa xn xc] ++ [.slice ya yn yc]) (us ++ [u1] ++ [u2]) (.slice none 0 0) (.slice ra rn rc) (.slice none 0 0) (.slice none 0 0) [] a2 [] [] w9) := hZ.mkX (rowV_blk rrow hN g9 int_ne_case) (Apt.nil _) fN
            refine hK.out _ _ (hH.oth hN hne hG hwG g9) (fun hH => ?_)
            simp only [Act.put]
            refine wpAnyH_take (i := 11) (oi := { dst := some 22, op := Op.assign (Operand.tmp 114), type := 22, pos := "law.go:125", after := #[{ on := 8, ground := Ground.data }, { on := 10, ground := Ground.chain }, { on := 0, ground := Ground.phase }, { on := 1, ground := Ground.phase }, { on := 2, ground := Ground.phase }, { on := 3, ground := Ground.phase }, { on := 4, ground := Ground.phase }, { on := 5, ground := Ground.phase }, { on := 6, ground := Ground.phase }, { on := 7, ground := Ground.phase }, { on := 8, ground := Ground.phase }, { on := 9, ground := Ground.phase }, { on := 10, ground := Ground.phase }], guard := none }) (v := .slice ra rn rc) rfl (by kernel_rfl) (by kernel_rfl) (by kernel_rfl) (fun _ _ _ h => h) (Or.inl ⟨by rfl, fun w' h => by go_simp⟩) hH ?_
            try simp only [Act.put, List.setIfInBounds_toArray, List.set_cons_zero, List.set_cons_succ]
            refine wpAnyH_done (by kernel_rfl) ?_ _
            clear hH hK b9 g9 hN hZ
            go_wp2_with fail
            go_meet
            case rel => exact ⟨_, _, _, _, rfl, rfl, PX⟩
          · go_simp
            have hN : Blk x1.heap.size 27 (csL ⟨0, false, 0, 0, 0, 0, 0, 0, 0, 0, 0, 0, 0, 0, 0⟩) (x1.alloc (.cells #[.int .i64 0, .bool false, .int .i64 0, .int .i64 0, .int .i64 0, .int .i64 0, .int .i64 0, .int .i64 0, .int .i64 0, .int .i64 0, .int .i64 0, .int .i64 0, .int .i64 0, .int .i64 0, .int .i64 0] 27)) := Blk.new _ _ _
            have hG : w0.heap.size ≤ x1.heap.size := hH.kd.bb.size
            have hwG : w.heap.size < x1.heap.size := hH.kd.lt 0 rfl
            have hne : ∀ (k : Nat) (q : Nat × TypeId × List Value), [(w.heap.size, 24, polL l (.slice sa sn sc)), (w.heap.size + 1, 29, prL c c), (w.heap.size + 1 + 1, 37, evL ea), (w.heap.size + 1 + 1 + 1, 37, evL eb), (w.heap.size + 1 + 1 + 1 + 1, 29, prL ⟨0, false, 0, 0, 0, 0, 0, 0, 0, 0, 0, 0, 0, 0, 0⟩ ⟨0, false, 0, 0, 0, 0, 0, 0, 0, 0, 0, 0, 0, 0, 0⟩), (FB, 37, evL eb ++ (evL ea ++ evL ⟨-7, 0, 0, 0⟩)), (AB, 27, csL d1), (GB, 27, csL d1), (DB, 27, csL d1)][k]? = some q → q.1 ≠ x1.heap.size := fun k q hq => Nat.ne_of_lt (hH.kd.lt k hq)
            have orow := orow.later (below_alloc x1 (.cells #[.int .i64 0, .bool false, .int .i64 0, .int .i64 0, .int .i64 0, .int .i64 0, .int .i64 0, .int .i64 0, .int .i64 0, .int .i64 0, .int .i64 0, .int .i64 0, .int .i64 0, .int .i64 0, .int .i64 0] 27))
            refine hK.out _ _ (hH.later (below_alloc _ _)) (fun hH => ?_)
            refine wpAnyH_ready (rs := [5]) (by kernel_rfl) (by simp) ?_
            refine AllReadyH.cons (o := { dst := some 112, op := Op.call { callee := Callee.value (Operand.func 15), args := #[Operand.tmp 108, Operand.tmp 110, Operand.tmp 111], argTypes := #[24, 27, 49] }, type := 50, pos := "law.go:125", after := #[{ on := 1, ground := Ground.data }, { on := 3, ground := Ground.data }, { on := 4, ground := Ground.data }, { on := 1, ground := Ground.chain }], guard := none }) rfl (fun K hK => ?_) AllReadyH.nil
            go_simp
            refine (RU2.out _ _ _ orow.rd (rdv2 (hH.kd.at 5 rfl))).mono ?_
            rintro e x3 ⟨ra, rn, rc, rfl, rrow, bX⟩
            have orow := orow.later bX
            have hN := hN.below bX
            have fN : Far (.slice ra rn rc) (vs ++ [.slice xa xn xc] ++ [.slice ya yn yc]) (us ++ [u1] ++ [u2]) := far_new hH.sh rrow
            have rrow := rrow.mono hH.kd.bb.size
            refine hK.out _ _ (hH.later bX) (fun hH => ?_)
            refine wpAnyH_take (i := 6) (oi := { dst := some 106, op := Op.move (Operand.tmp 112), type := 50, pos := "law.go:125", after := #[{ on := 5, ground := Ground.data }], guard := none }) (v := .tuple #[csV d2, .slice ra rn rc]) rfl (by kernel_rfl) (by kernel_rfl) (by kernel_rfl) (fun _ _ _ h => h) (Or.inl ⟨by rfl, fun w' h => by go_simp⟩) hH ?_
            try simp only [Act.put, List.setIfInBounds_toArray, List.set_cons_zero, List.set_cons_succ]
            refine wpAnyH_take (i := 7) (oi := { dst := some 113, op := Op.extract (Operand.tmp 106) 0, type := 27, pos := "law.go:125", after := #[{ on := 6, ground := Ground.data }], guard := none }) (v := csV d2) rfl (by kernel_rfl) (by kernel_rfl) (by kernel_rfl) (fun _ _ _ h => h) (Or.inl ⟨by rfl, fun w' h => by go_simp⟩) hH ?_
            try simp only [Act.put, List.setIfInBounds_toArray, List.set_cons_zero, List.set_cons_succ]
            refine wpAnyH_take (i := 8) (oi := { dst := some 114, op := Op.extract (Operand.tmp 106) 1, type := 22, pos := "law.go:125", after := #[{ on := 6, ground := Ground.data }, { on := 10, ground := Ground.gcOnly Departure.lateStores }], guard := none }) (v := .slice ra rn rc) rfl (by kernel_rfl) (by kernel_rfl) (by kernel_rfl) (fun _ _ _ h => h) (Or.inl ⟨by rfl, fun w' h => by go_simp⟩) hH ?_
            try simp only [Act.put, List.setIfInBounds_toArray, List.set_cons_zero, List.set_cons_succ]
            refine wpAnyH_ready (rs := [10]) (by kernel_rfl) (by simp) ?_
            refine AllReadyH.cons (o := { dst := none, op := Op.store 27 (Operand.tmp 21) (Operand.tmp 113), type := 0, pos := "law.go:125", after := #[{ on := 9, ground := Ground.data }, { on := 7, ground := Ground.data }, { on := 5, ground := Ground.chain }, { on := 0, ground := Ground.phase }, { on := 1, ground := Ground.phase }, { on := 2, ground := Ground.phase }, { on := 3, ground := Ground.phase }, { on := 4, ground := Ground.phase }, { on := 5, ground := Ground.phase }, { on := 6, ground := Ground.phase }, { on := 7, ground := Ground.phase }, { on := 8, ground := Ground.textOnly Departure.lateStores }, { on := 9, ground := Ground.phase }], guard := none }) rfl (fun K hK => ?_) AllReadyH.nil
            refine op_putC (zs := csL ⟨0, false, 0, 0, 0, 0, 0, 0, 0, 0, 0, 0, 0, 0, 0⟩) (csL d2) rfl (sizeCsL _) (csL_one _) rfl _ _ rfl _ rfl rfl hN ?_
            intro w9 b9 g9
            have hZ := hH.addG hN hne hG hwG b9 g9
            have PX : Hid (SD w0 w [(w.heap.size, 24, polL l (.slice sa sn sc)), (w.heap.size + 1, 29, prL c c), (w.heap.size + 1 + 1, 37, evL ea), (w.heap.size + 1 + 1 + 1, 37, evL eb), (w.heap.size + 1 + 1 + 1 + 1, 29, prL ⟨0, false, 0, 0, 0, 0, 0, 0, 0, 0, 0, 0, 0, 0, 0⟩ ⟨0, false, 0, 0, 0, 0, 0, 0, 0, 0, 0, 0, 0, 0, 0⟩), (FB, 37, evL eb ++ (evL ea ++ evL ⟨-7, 0, 0, 0⟩)), (AB, 27, csL d1), (GB, 27, csL d1), (DB, 27, csL d1), (_, 27, csL d2)] SB vL2 vG2 (vs ++ [.slice xa xn xc] ++ [.slice ya yn yc]) (us ++ [u1] ++ [u2]) (.slice none 0 0) (.slice ra rn rc) (.slice none 0 0) (.slice none 0 0) [] a2 [] [] w9) := hZ.mkX (rowV_blk rrow hN g9 int_ne_case) (Apt.nil _) fN
            refine hK.out _ _ (hH.oth hN hne hG hwG g9) (fun hH => ?_)
            simp only [Act.put]
            refine wpAnyH_take (i := 11) (oi := { dst := some 22, op := Op.assign (Operand.tmp 114), type := 22, pos := "law.go:125", after := #[{ on := 8, ground := Ground.data }, { on := 10, ground := Ground.chain }, { on := 0, ground := Ground.phase }, { on := 1, ground := Ground.phase }, { on := 2, ground := Ground.phase }, { on := 3, ground := Ground.phase }, { on := 4, ground := Ground.phase }, { on := 5, ground := Ground.phase }, { on := 6, ground := Ground.phase }, { on := 7, ground := Ground.phase }, { on := 8, ground := Ground.phase }, { on := 9, ground := Ground.phase }, { on := 10, ground := Ground.phase }], guard := none }) (v := .slice ra rn rc) rfl (by kernel_rfl) (by kernel_rfl) (by kernel_rfl) (fun _ _ _ h => h) (Or.inl ⟨by rfl, fun w' h => by go_simp⟩) hH ?_
            try simp only [Act.put, List.setIfInBounds_toArray, List.set_cons_zero, List.set_cons_succ]
            refine wpAnyH_done (by kernel_rfl) ?_ _
            clear hH hK b9 g9 hN hZ
            go_wp2_with fail
            go_meet
            case rel => exact ⟨_, _, _, _, rfl, rfl, PX⟩
        · go_simp
          have hN : Blk w13.drew.heap.size 27 (csL ⟨0, false, 0, 0, 0, 0, 0, 0, 0, 0, 0, 0, 0, 0, 0⟩) (w13.drew.alloc (.cells #[.int .i64 0, .bool false, .int .i64 0, .int .i64 0, .int .i64 0, .int .i64 0, .int .i64 0, .int .i64 0, .int .i64 0, .int .i64 0, .int .i64 0, .int .i64 0, .int .i64 0, .int .i64 0, .int .i64 0] 27)) := Blk.new _ _ _
          have hG : w0.heap.size ≤ w13.drew.heap.size := hH.kd.bb.size
          have hwG : w.heap.size < w13.drew.heap.size := hH.kd.lt 0 rfl
          have hne : ∀ (k : Nat) (q : Nat × TypeId × List Value), [(w.heap.size, 24, polL l (.slice sa sn sc)), (w.heap.size + 1, 29, prL c c), (w.heap.size + 1 + 1, 37, evL ea), (w.heap.size + 1 + 1 + 1, 37, evL eb), (w.heap.size + 1 + 1 + 1 + 1, 29, prL ⟨0, false, 0, 0, 0, 0, 0, 0, 0, 0, 0, 0, 0, 0, 0⟩ ⟨0, false, 0, 0, 0, 0, 0, 0, 0, 0, 0, 0, 0, 0, 0⟩), (FB, 37, evL eb ++ (evL ea ++ evL ⟨-7, 0, 0, 0⟩)), (AB, 27, csL d1), (GB, 27, csL d1), (DB, 27, csL d1)][k]? = some q → q.1 ≠ w13.drew.heap.size := fun k q hq => Nat.ne_of_lt (hH.kd.lt k hq)
          refine hK.out _ _ (hH.later (below_alloc _ _)) (fun hH => ?_)
          refine wpAnyH_ready (rs := [1]) (by kernel_rfl) (by simp) ?_
          refine AllReadyH.cons (o := { dst := some 108, op := Op.call { callee := Callee.value (Operand.func 16), args := #[Operand.tmp 107], argTypes := #[24] }, type := 24, pos := "law.go:125", after := #[{ on := 0, ground := Ground.data }], guard := none }) rfl (fun K hK => ?_) AllReadyH.nil
          go_simp
          refine (OW.out _ hH.kd.bb).mono ?_
          rintro e x4 ⟨oa, on, oc, rfl, orow, bX⟩
          have hN := hN.below bX
          refine hK.out _ _ (hH.later bX) (fun hH => ?_)
          refine wpAnyH_ready (rs := [5]) (by kernel_rfl) (by simp) ?_
          refine AllReadyH.cons (o := { dst := some 112, op := Op.call { callee := Callee.value (Operand.func 15), args := #[Operand.tmp 108, Operand.tmp 110, Operand.tmp 111], argTypes := #[24, 27, 49] }, type := 50, pos := "law.go:125", after := #[{ on := 1, ground := Ground.data }, { on := 3, ground := Ground.data }, { on := 4, ground := Ground.data }, { on := 1, ground := Ground.chain }], guard := none }) rfl (fun K hK => ?_) AllReadyH.nil
          go_simp
          refine (RU2.out _ _ _ orow.rd (rdv2 (hH.kd.at 5 rfl))).mono ?_
          rintro e x5 ⟨ra, rn, rc, rfl, rrow, bX⟩
          have hN := hN.below bX
          have orow := orow.later bX
          have fN : Far (.slice ra rn rc) (vs ++ [.slice xa xn xc] ++ [.slice ya yn yc]) (us ++ [u1] ++ [u2]) := far_new hH.sh rrow
          have rrow := rrow.mono hH.kd.bb.size
          refine hK.out _ _ (hH.later bX) (fun hH => ?_)
          refine wpAnyH_take (i := 6) (oi := { dst := some 106, op := Op.move (Operand.tmp 112), type := 50, pos := "law.go:125", after := #[{ on := 5, ground := Ground.data }], guard := none }) (v := .tuple #[csV d2, .slice ra rn rc]) rfl (by kernel_rfl) (by kernel_rfl) (by kernel_rfl) (fun _ _ _ h => h) (Or.inl ⟨by rfl, fun w' h => by go_simp⟩) hH ?_
          try simp only [Act.put, List.setIfInBounds_toArray, List.set_cons_zero, List.set_cons_succ]
          refine wpAnyH_take (i := 7) (oi := { dst := some 113, op := Op.extract (Operand.tmp 106) 0, type := 27, pos := "law.go:125", after := #[{ on := 6, ground := Ground.data }], guard := none }) (v := csV d2) rfl (by kernel_rfl) (by kernel_rfl) (by kernel_rfl) (fun _ _ _ h => h) (Or.inl ⟨by rfl, fun w' h => by go_simp⟩) hH ?_
          try simp only [Act.put, List.setIfInBounds_toArray, List.set_cons_zero, List.set_cons_succ]
          refine wpAnyH_take (i := 8) (oi := { dst := some 114, op := Op.extract (Operand.tmp 106) 1, type := 22, pos := "law.go:125", after := #[{ on := 6, ground := Ground.data }, { on := 10, ground := Ground.gcOnly Departure.lateStores }], guard := none }) (v := .slice ra rn rc) rfl (by kernel_rfl) (by kernel_rfl) (by kernel_rfl) (fun _ _ _ h => h) (Or.inl ⟨by rfl, fun w' h => by go_simp⟩) hH ?_
          try simp only [Act.put, List.setIfInBounds_toArray, List.set_cons_zero, List.set_cons_succ]
          refine wpAnyH_ready (rs := [10]) (by kernel_rfl) (by simp) ?_
          refine AllReadyH.cons (o := { dst := none, op := Op.store 27 (Operand.tmp 21) (Operand.tmp 113), type := 0, pos := "law.go:125", after := #[{ on := 9, ground := Ground.data }, { on := 7, ground := Ground.data }, { on := 5, ground := Ground.chain }, { on := 0, ground := Ground.phase }, { on := 1, ground := Ground.phase }, { on := 2, ground := Ground.phase }, { on := 3, ground := Ground.phase }, { on := 4, ground := Ground.phase }, { on := 5, ground := Ground.phase }, { on := 6, ground := Ground.phase }, { on := 7, ground := Ground.phase }, { on := 8, ground := Ground.textOnly Departure.lateStores }, { on := 9, ground := Ground.phase }], guard := none }) rfl (fun K hK => ?_) AllReadyH.nil
          refine op_putC (zs := csL ⟨0, false, 0, 0, 0, 0, 0, 0, 0, 0, 0, 0, 0, 0, 0⟩) (csL d2) rfl (sizeCsL _) (csL_one _) rfl _ _ rfl _ rfl rfl hN ?_
          intro w9 b9 g9
          have hZ := hH.addG hN hne hG hwG b9 g9
          have PX : Hid (SD w0 w [(w.heap.size, 24, polL l (.slice sa sn sc)), (w.heap.size + 1, 29, prL c c), (w.heap.size + 1 + 1, 37, evL ea), (w.heap.size + 1 + 1 + 1, 37, evL eb), (w.heap.size + 1 + 1 + 1 + 1, 29, prL ⟨0, false, 0, 0, 0, 0, 0, 0, 0, 0, 0, 0, 0, 0, 0⟩ ⟨0, false, 0, 0, 0, 0, 0, 0, 0, 0, 0, 0, 0, 0, 0⟩), (FB, 37, evL eb ++ (evL ea ++ evL ⟨-7, 0, 0, 0⟩)), (AB, 27, csL d1), (GB, 27, csL d1), (DB, 27, csL d1), (_, 27, csL d2)] SB vL2 vG2 (vs ++ [.slice xa xn xc] ++ [.slice ya yn yc]) (us ++ [u1] ++ [u2]) (.slice none 0 0) (.slice ra rn rc) (.slice none 0 0) (.slice none 0 0) [] a2 [] [] w9) := hZ.mkX (rowV_blk rrow hN g9 int_ne_case) (Apt.nil _) fN
          refine hK.out _ _ (hH.oth hN hne hG hwG g9) (fun hH => ?_)
          simp only [Act.put]
          refine wpAnyH_take (i := 11) (oi := { dst := some 22, op := Op.assign (Operand.tmp 114), type := 22, pos := "law.go:125", after := #[{ on := 8, ground := Ground.data }, { on := 10, ground := Ground.chain }, { on := 0, ground := Ground.phase }, { on := 1, ground := Ground.phase }, { on := 2, ground := Ground.phase }, { on := 3, ground := Ground.phase }, { on := 4, ground := Ground.phase }, { on := 5, ground := Ground.phase }, { on := 6, ground := Ground.phase }, { on := 7, ground := Ground.phase }, { on := 8, ground := Ground.phase }, { on := 9, ground := Ground.phase }, { on := 10, ground := Ground.phase }], guard := none }) (v := .slice ra rn rc) rfl (by kernel_rfl) (by kernel_rfl) (by kernel_rfl) (fun _ _ _ h => h) (Or.inl ⟨by rfl, fun w' h => by go_simp⟩) hH ?_
          try simp only [Act.put, List.setIfInBounds_toArray, List.set_cons_zero, List.set_cons_succ]
          refine wpAnyH_done (by kernel_rfl) ?_ _
          clear hH hK b9 g9 hN hZ
          go_wp2_with fail
          go_meet
          case rel => exact ⟨_, _, _, _, rfl, rfl, PX⟩
      case rest =>
        obtain ⟨TB, pa, pn, pc, rfl, rfl, S12⟩ := hcut
        clear S11
        go_wp2_with (first
        | ((with_reducible refine at_loadT 24 ?_); refine step_load rfl 24 _ rfl w.heap.size 0 rfl (polL l (.slice sa sn sc)) _ (Blk.all (S12.out.kd.at 0 rfl)) Tryd.underlying24 rfl SZ.out ?_)
        | ((with_reducible refine at_loadT 27 ?_); refine step_load rfl 27 _ rfl (w.heap.size + 1) 15 rfl (csL c) _ (pr_r (S12.out.kd.at 1 rfl)) Tryd.underlying27 rfl (sizeCsL _) ?_)
        | ((with_reducible refine at_loadT 37 ?_); refine step_load rfl 37 _ rfl (w.heap.size + 1 + 1 + 1) 0 rfl [.int .i64 eb.k, .int .i64 eb.t, .int .i64 eb.d, .int .i64 eb.a] _ (Blk.all (S12.out.kd.at 3 rfl)) Tryd.underlying37 rfl (sizeEvL eb) ?_)
        | ((with_reducible refine at_loadT 37 ?_); refine step_load rfl 37 _ rfl (w.heap.size + 1 + 1) 0 rfl [.int .i64 ea.k, .int .i64 ea.t, .int .i64 ea.d, .int .i64 ea.a] _ (Blk.all (S12.out.kd.at 2 rfl)) Tryd.underlying37 rfl (sizeEvL ea) ?_))
        have S12q : Hid (SD w0 w [(w.heap.size, 24, polL l (.slice sa sn sc)), (w.heap.size + 1, 29, prL c c), (w.heap.size + 1 + 1, 37, evL ea), (w.heap.size + 1 + 1 + 1, 37, evL eb), (w.heap.size + 1 + 1 + 1 + 1, 29, prL ⟨0, false, 0, 0, 0, 0, 0, 0, 0, 0, 0, 0, 0, 0, 0⟩ ⟨0, false, 0, 0, 0, 0, 0, 0, 0, 0, 0, 0, 0, 0, 0⟩), (FB, 37, evL eb ++ (evL ea ++ evL ⟨-7, 0, 0, 0⟩)), (AB, 27, csL d1), (GB, 27, csL d1), (DB, 27, csL d1), (TB, 27, csL d2)] SB vL2 vG2 (vs ++ [.slice xa xn xc] ++ [.slice ya yn yc]) (us ++ [u1] ++ [u2]) (.slice none 0 0) (.slice pa pn pc) (.slice none 0 0) (.slice none 0 0) [] a2 [] [] (wc.alloc (.cells #[.int .i64 eb.k, .int .i64 eb.t, .int .i64 eb.d, .int .i64 eb.a, .int .i64 ea.k, .int .i64 ea.t, .int .i64 ea.d, .int .i64 ea.a] 37))) := S12.out.later (below_alloc _ _)
        have NE : Hid (Blk wc.heap.size 37 (evL eb ++ evL ea) (wc.alloc (.cells #[.int .i64 eb.k, .int .i64 eb.t, .int .i64 eb.d, .int .i64 eb.a, .int .i64 ea.k, .int .i64 ea.t, .int .i64 ea.d, .int .i64 ea.a] 37))) := Blk.new _ _ _
        refine (RR2.out _ _ S12q.out.kd.bb (rdv2' NE.out)).mono ?_
        rintro e w14 ⟨qa, qn, qc, rfl, rrow, bX⟩
        have fN := far_new S12q.out.sh rrow
        have apx : Apt (.slice pa pn pc) (.slice qa qn qc) := apt_new S12q.out.rx rrow
        have S130 : Hid (SD w0 w [(w.heap.size, 24, polL l (.slice sa sn sc)), (w.heap.size + 1, 29, prL c c), (w.heap.size + 1 + 1, 37, evL ea), (w.heap.size + 1 + 1 + 1, 37, evL eb), (w.heap.size + 1 + 1 + 1 + 1, 29, prL ⟨0, false, 0, 0, 0, 0, 0, 0, 0, 0, 0, 0, 0, 0, 0⟩ ⟨0, false, 0, 0, 0, 0, 0, 0, 0, 0, 0, 0, 0, 0, 0⟩), (FB, 37, evL eb ++ (evL ea ++ evL ⟨-7, 0, 0, 0⟩)), (AB, 27, csL d1), (GB, 27, csL d1), (DB, 27, csL d1), (TB, 27, csL d2)] SB vL2 vG2 (vs ++ [.slice xa xn xc] ++ [.slice ya yn yc]) (us ++ [u1] ++ [u2]) (.slice none 0 0) (.slice pa pn pc) (.slice none 0 0) (.slice none 0 0) [] a2 [] [] w14) := S12q.out.later bX
        have rrow2 := rrow.mono S12q.out.kd.bb.size
        have S131 : Hid (SD w0 w [(w.heap.size, 24, polL l (.slice sa sn sc)), (w.heap.size + 1, 29, prL c c), (w.heap.size + 1 + 1, 37, evL ea), (w.heap.size + 1 + 1 + 1, 37, evL eb), (w.heap.size + 1 + 1 + 1 + 1, 29, prL ⟨0, false, 0, 0, 0, 0, 0, 0, 0, 0, 0, 0, 0, 0, 0⟩ ⟨0, false, 0, 0, 0, 0, 0, 0, 0, 0, 0, 0, 0, 0, 0⟩), (FB, 37, evL eb ++ (evL ea ++ evL ⟨-7, 0, 0, 0⟩)), (AB, 27, csL d1), (GB, 27, csL d1), (DB, 27, csL d1), (TB, 27, csL d2)] SB vL2 vG2 (vs ++ [.slice xa xn xc] ++ [.slice ya yn yc]) (us ++ [u1] ++ [u2]) (.slice none 0 0) (.slice pa pn pc) (.slice qa qn qc) (.slice none 0 0) [] a2 a2 [] w14) := S130.out.mkY rrow2 (Apt.nil _) apx fN
        clear bX S12 S12q rrow rrow2 S130 NE
        have NZ : Hid (Blk w14.heap.size 27 (csL ⟨0, false, 0, 0, 0, 0, 0, 0, 0, 0, 0, 0, 0, 0, 0⟩) (w14.alloc (.cells #[.int .i64 0, .bool false, .int .i64 0, .int .i64 0, .int .i64 0, .int .i64 0, .int .i64 0, .int .i64 0, .int .i64 0, .int .i64 0, .int .i64 0, .int .i64 0, .int .i64 0, .int .i64 0, .int .i64 0] 27))) := Blk.new _ _ _
        go_upto_region 14 with ((with_reducible refine at_store ?_); refine step_store rfl 27 _ _ rfl w14.heap.size 0 27 (csL ⟨0, false, 0, 0, 0, 0, 0, 0, 0, 0, 0, 0, 0, 0, 0⟩) (csL d2) rfl rfl NZ.out (Nat.le_refl 15) (sizeCsL _) (csL_one _) ?_; intro w15 n9 g9)
        have S13 : Hid (SD w0 w [(w.heap.size, 24, polL l (.slice sa sn sc)), (w.heap.size + 1, 29, prL c c), (w.heap.size + 1 + 1, 37, evL ea), (w.heap.size + 1 + 1 + 1, 37, evL eb), (w.heap.size + 1 + 1 + 1 + 1, 29, prL ⟨0, false, 0, 0, 0, 0, 0, 0, 0, 0, 0, 0, 0, 0, 0⟩ ⟨0, false, 0, 0, 0, 0, 0, 0, 0, 0, 0, 0, 0, 0, 0⟩), (FB, 37, evL eb ++ (evL ea ++ evL ⟨-7, 0, 0, 0⟩)), (AB, 27, csL d1), (GB, 27, csL d1), (DB, 27, csL d1), (TB, 27, csL d2), (w14.heap.size, 27, csL d2)] SB vL2 vG2 (vs ++ [.slice xa xn xc] ++ [.slice ya yn yc]) (us ++ [u1] ++ [u2]) (.slice none 0 0) (.slice pa pn pc) (.slice qa qn qc) (.slice none 0 0) [] a2 a2 [] w15) := S131.out.addB n9 g9
        clear n9 g9 NZ S131
        obtain ⟨WB, hWB⟩ : ∃ B, w14.heap.size = B := ⟨_, rfl⟩
        rw [hWB] at S13
        rw [hWB]
        clear hWB
        go_upto_region 14 with fail
        have hu := Tryd.underlying24
        have hi := SZ.out
        have hu2 := Tryd.underlying27
        have hi2 := sizeCsL c
        have hu3 := Tryd.underlying37
        have hu4 := Tryd.underlying29
        have hk1 := sizeCsL d1
        have hk2 := sizeCsL d2
        have EQ := cs_eql d2
        have hC : SD w0 w [(w.heap.size, 24, polL l (.slice sa sn sc)), (w.heap.size + 1, 29, prL c c), (w.heap.size + 1 + 1, 37, evL ea), (w.heap.size + 1 + 1 + 1, 37, evL eb), (w.heap.size + 1 + 1 + 1 + 1, 29, prL ⟨0, false, 0, 0, 0, 0, 0, 0, 0, 0, 0, 0, 0, 0, 0⟩ ⟨0, false, 0, 0, 0, 0, 0, 0, 0, 0, 0, 0, 0, 0, 0⟩), (FB, 37, evL eb ++ (evL ea ++ evL ⟨-7, 0, 0, 0⟩)), (AB, 27, csL d1), (GB, 27, csL d1), (DB, 27, csL d1), (TB, 27, csL d2), (WB, 27, csL d2)] SB vL2 vG2 (vs ++ [.slice xa xn xc] ++ [.slice ya yn yc]) (us ++ [u1] ++ [u2]) (.slice none 0 0) (.slice pa pn pc) (.slice qa qn qc) (.slice none 0 0) [] a2 a2 [] w15.drew := S13.out.drew
        refine wp_region_held_drew (S := fun w' => ∃ zs, SD w0 w [(w.heap.size, 24, polL l (.slice sa sn sc)), (w.heap.size + 1, 29, prL c c), (w.heap.size + 1 + 1, 37, evL ea), (w.heap.size + 1 + 1 + 1, 37, evL eb), (w.heap.size + 1 + 1 + 1 + 1, 29, zs), (FB, 37, evL eb ++ (evL ea ++ evL ⟨-7, 0, 0, 0⟩)), (AB, 27, csL d1), (GB, 27, csL d1), (DB, 27, csL d1), (TB, 27, csL d2), (WB, 27, csL d2)] SB vL2 vG2 (vs ++ [.slice xa xn xc] ++ [.slice ya yn yc]) (us ++ [u1] ++ [u2]) (.slice none 0 0) (.slice pa pn pc) (.slice qa qn qc) (.slice none 0 0) [] a2 a2 [] w') (by kernel_rfl) (⟨_, hC⟩) (fun hH => ?_)
        refine wpAnyH_take (i := 0) (oi := { dst := some 125, op := Op.load 27 (Operand.tmp 14), type := 27, pos := "law.go:127", after := #[], guard := none }) (v := .agg (csL d1).toArray) rfl (by kernel_rfl) (by kernel_rfl) (by kernel_rfl) (fun _ _ _ h => h) (yieldsIf_load_mid (by rfl) _ _ rfl AB 0 rfl (csL d1) _ (fun w' h => (by obtain ⟨zs, h⟩ := h; exact Blk.all (h.kd.at 6 rfl))) hu2 rfl hk1) hH ?_
        try simp only [Act.put, List.setIfInBounds_toArray, List.set_cons_zero, List.set_cons_succ]
        refine wpAnyH_take (i := 1) (oi := { dst := some 126, op := Op.load 27 (Operand.tmp 18), type := 27, pos := "law.go:127", after := #[], guard := none }) (v := .agg (csL d1).toArray) rfl (by kernel_rfl) (by kernel_rfl) (by kernel_rfl) (fun _ _ _ h => h) (yieldsIf_load_mid (by rfl) _ _ rfl DB 0 rfl (csL d1) _ (fun w' h => (by obtain ⟨zs, h⟩ := h; exact Blk.all (h.kd.at 8 rfl))) hu2 rfl hk1) hH ?_
        try simp only [Act.put, List.setIfInBounds_toArray, List.set_cons_zero, List.set_cons_succ]
        refine wpAnyH_take (i := 2) (oi := { dst := some 127, op := Op.build 29 #[(0, Operand.tmp 125), (1, Operand.tmp 126)], type := 29, pos := "law.go:127", after := #[{ on := 0, ground := Ground.data }, { on := 1, ground := Ground.data }], guard := none }) (v := prV d1 d1) rfl (by kernel_rfl) (by kernel_rfl) (by kernel_rfl) (fun _ _ _ h => h) (yieldsIf_build2 (by rfl) _ 0 1 _ _ rfl _ _ _ rfl rfl (build_pr _ _)) hH ?_
        try simp only [Act.put, List.setIfInBounds_toArray, List.set_cons_zero, List.set_cons_succ]
        refine wpAnyH_take (i := 3) (oi := { dst := some 128, op := Op.move (Operand.tmp 20), type := 4, pos := "law.go:127", after := #[], guard := none }) (v := .bool true) rfl (by kernel_rfl) (by kernel_rfl) (by kernel_rfl) (fun _ _ _ h => h) (Or.inl ⟨by rfl, fun w' h => by go_simp⟩) hH ?_
        try simp only [Act.put, List.setIfInBounds_toArray, List.set_cons_zero, List.set_cons_succ]
        refine wpAnyH_take (i := 4) (oi := { dst := some 129, op := Op.move (Operand.tmp 128), type := 4, pos := "law.go:127", after := #[{ on := 3, ground := Ground.data }], guard := none }) (v := .bool true) rfl (by kernel_rfl) (by kernel_rfl) (by kernel_rfl) (fun _ _ _ h => h) (Or.inl ⟨by rfl, fun w' h => by go_simp⟩) hH ?_
        try simp only [Act.put, List.setIfInBounds_toArray, List.set_cons_zero, List.set_cons_succ]
        refine wpAnyH_take (i := 5) (oi := { dst := some 130, op := Op.load 27 (Operand.tmp 21), type := 27, pos := "law.go:127", after := #[{ on := 4, ground := Ground.guard }], guard := some (4, true) }) (v := .agg (csL d2).toArray) rfl (by kernel_rfl) (by kernel_rfl) (by kernel_rfl) (fun _ _ _ h => h) (yieldsIf_load_mid (by rfl) _ _ rfl TB 0 rfl (csL d2) _ (fun w' h => (by obtain ⟨zs, h⟩ := h; exact Blk.all (h.kd.at 9 rfl))) hu2 rfl hk2) hH ?_
        try simp only [Act.put, List.setIfInBounds_toArray, List.set_cons_zero, List.set_cons_succ]
        refine wpAnyH_take (i := 6) (oi := { dst := some 131, op := Op.load 27 (Operand.tmp 23), type := 27, pos := "law.go:127", after := #[{ on := 4, ground := Ground.guard }], guard := some (4, true) }) (v := .agg (csL d2).toArray) rfl (by kernel_rfl) (by kernel_rfl) (by kernel_rfl) (fun _ _ _ h => h) (yieldsIf_load_mid (by rfl) _ _ rfl WB 0 rfl (csL d2) _ (fun w' h => (by obtain ⟨zs, h⟩ := h; exact Blk.all (h.kd.at 10 rfl))) hu2 rfl hk2) hH ?_
        try simp only [Act.put, List.setIfInBounds_toArray, List.set_cons_zero, List.set_cons_succ]
        refine wpAnyH_take (i := 7) (oi := { dst := some 132, op := Op.binOp BinOp.eql 27 (Operand.tmp 130) (Operand.tmp 131) 27, type := 4, pos := "law.go:127", after := #[{ on := 5, ground := Ground.data }, { on := 6, ground := Ground.data }, { on := 4, ground := Ground.guard }], guard := some (4, true) }) (v := .bool true) rfl (by kernel_rfl) (by kernel_rfl) (by kernel_rfl) (fun _ _ _ h => h) (Or.inl ⟨by rfl, fun w' h => by go_simp⟩) hH ?_
        try simp only [Act.put, List.setIfInBounds_toArray, List.set_cons_zero, List.set_cons_succ]
        refine wpAnyH_take (i := 8) (oi := { dst := some 133, op := Op.pick (Operand.tmp 129) (Operand.tmp 132) (Operand.const (Value.bool false)), type := 4, pos := "law.go:127", after := #[{ on := 4, ground := Ground.data }, { on := 7, ground := Ground.data }], guard := none }) (v := .bool true) rfl (by kernel_rfl) (by kernel_rfl) (by kernel_rfl) (fun _ _ _ h => h) (Or.inl ⟨by rfl, fun w' h => by go_simp⟩) hH ?_
        try simp only [Act.put, List.setIfInBounds_toArray, List.set_cons_zero, List.set_cons_succ]
        refine wpAnyH_take (i := 9) (oi := { dst := some 134, op := Op.move (Operand.tmp 133), type := 4, pos := "law.go:127", after := #[{ on := 8, ground := Ground.data }, { on := 4, ground := Ground.chain }], guard := none }) (v := .bool true) rfl (by kernel_rfl) (by kernel_rfl) (by kernel_rfl) (fun _ _ _ h => h) (Or.inl ⟨by rfl, fun w' h => by go_simp⟩) hH ?_
        try simp only [Act.put, List.setIfInBounds_toArray, List.set_cons_zero, List.set_cons_succ]
        refine wpAnyH_take (i := 10) (oi := { dst := some 135, op := Op.move (Operand.tmp 22), type := 22, pos := "law.go:127", after := #[{ on := 9, ground := Ground.guard }], guard := some (9, true) }) (v := .slice pa pn pc) rfl (by kernel_rfl) (by kernel_rfl) (by kernel_rfl) (fun _ _ _ h => h) (Or.inl ⟨by rfl, fun w' h => by go_simp⟩) hH ?_
        try simp only [Act.put, List.setIfInBounds_toArray, List.set_cons_zero, List.set_cons_succ]
        refine wpAnyH_take (i := 11) (oi := { dst := some 136, op := Op.move (Operand.tmp 24), type := 22, pos := "law.go:127", after := #[{ on := 9, ground := Ground.guard }], guard := some (9, true) }) (v := .slice qa qn qc) rfl (by kernel_rfl) (by kernel_rfl) (by kernel_rfl) (fun _ _ _ h => h) (Or.inl ⟨by rfl, fun w' h => by go_simp⟩) hH ?_
        try simp only [Act.put, List.setIfInBounds_toArray, List.set_cons_zero, List.set_cons_succ]
        refine wpAnyH_ready (rs := [12]) (by kernel_rfl) (by simp) ?_
        refine AllReadyH.cons (o := { dst := some 137, op := Op.call { callee := Callee.value (Operand.func 18), args := #[Operand.tmp 135, Operand.tmp 136], argTypes := #[22, 22] }, type := 4, pos := "law.go:127", after := #[{ on := 10, ground := Ground.data }, { on := 11, ground := Ground.data }, { on := 9, ground := Ground.chain }, { on := 9, ground := Ground.guard }], guard := some (9, true) }) rfl (fun K hK => ?_) AllReadyH.nil
        go_simp
        refine (SM.out a2 _ _ _ LA2.out hC.rx.rd hC.ry.rd).mono ?_
        rintro e w16 ⟨rfl, bX⟩
        have KB : SD w0 w [(w.heap.size, 24, polL l (.slice sa sn sc)), (w.heap.size + 1, 29, prL c c), (w.heap.size + 1 + 1, 37, evL ea), (w.heap.size + 1 + 1 + 1, 37, evL eb), (w.heap.size + 1 + 1 + 1 + 1, 29, prL ⟨0, false, 0, 0, 0, 0, 0, 0, 0, 0, 0, 0, 0, 0, 0⟩ ⟨0, false, 0, 0, 0, 0, 0, 0, 0, 0, 0, 0, 0, 0, 0⟩), (FB, 37, evL eb ++ (evL ea ++ evL ⟨-7, 0, 0, 0⟩)), (AB, 27, csL d1), (GB, 27, csL d1), (DB, 27, csL d1), (TB, 27, csL d2), (WB, 27, csL d2)] SB vL2 vG2 (vs ++ [.slice xa xn xc] ++ [.slice ya yn yc]) (us ++ [u1] ++ [u2]) (.slice none 0 0) (.slice pa pn pc) (.slice qa qn qc) (.slice none 0 0) [] a2 a2 [] w16 := hC.later bX
        clear bX
        refine hK.out _ _ ⟨_, KB⟩ (fun hH => ?_)
        refine wpAnyH_take (i := 13) (oi := { dst := some 138, op := Op.pick (Operand.tmp 134) (Operand.tmp 137) (Operand.const (Value.bool false)), type := 4, pos := "law.go:127", after := #[{ on := 9, ground := Ground.data }, { on := 12, ground := Ground.data }, { on := 14, ground := Ground.gcOnly Departure.lateStores }], guard := none }) (v := .bool true) rfl (by kernel_rfl) (by kernel_rfl) (by kernel_rfl) (fun _ _ _ h => h) (Or.inl ⟨by rfl, fun w' h => by go_simp⟩) hH ?_
        try simp only [Act.put, List.setIfInBounds_toArray, List.set_cons_zero, List.set_cons_succ]
        refine wpAnyH_ready (rs := [14]) (by kernel_rfl) (by simp) ?_
        refine AllReadyH.cons (o := { dst := none, op := Op.store 29 (Operand.tmp 10) (Operand.tmp 127), type := 0, pos := "law.go:127", after := #[{ on := 2, ground := Ground.data }, { on := 12, ground := Ground.chain }, { on := 0, ground := Ground.phase }, { on := 1, ground := Ground.phase }, { on := 2, ground := Ground.phase }, { on := 3, ground := Ground.textOnly Departure.lateStores }, { on := 4, ground := Ground.textOnly Departure.lateStores }, { on := 5, ground := Ground.textOnly Departure.lateStores }, { on := 6, ground := Ground.textOnly Departure.lateStores }, { on := 7, ground := Ground.textOnly Departure.lateStores }, { on := 8, ground := Ground.textOnly Departure.lateStores }, { on := 9, ground := Ground.textOnly Departure.lateStores }, { on := 10, ground := Ground.textOnly Departure.lateStores }, { on := 11, ground := Ground.textOnly Departure.lateStores }, { on := 12, ground := Ground.textOnly Departure.lateStoresUnsure }, { on := 13, ground := Ground.textOnly Departure.lateStores }], guard := none }) rfl (fun K hK => ?_) AllReadyH.nil
        refine op_putC (zs := prL ⟨0, false, 0, 0, 0, 0, 0, 0, 0, 0, 0, 0, 0, 0, 0⟩ ⟨0, false, 0, 0, 0, 0, 0, 0, 0, 0, 0, 0, 0, 0, 0⟩) (prL d1 d1) rfl (sizePr _ _) (prL_one _ _) rfl _ _ rfl _ rfl rfl (KB.kd.at 4 rfl) ?_
        intro wz nz gz
        have hZ : SD w0 w [(w.heap.size, 24, polL l (.slice sa sn sc)), (w.heap.size + 1, 29, prL c c), (w.heap.size + 1 + 1, 37, evL ea), (w.heap.size + 1 + 1 + 1, 37, evL eb), (w.heap.size + 1 + 1 + 1 + 1, 29, prL d1 d1), (FB, 37, evL eb ++ (evL ea ++ evL ⟨-7, 0, 0, 0⟩)), (AB, 27, csL d1), (GB, 27, csL d1), (DB, 27, csL d1), (TB, 27, csL d2), (WB, 27, csL d2)] SB vL2 vG2 (vs ++ [.slice xa xn xc] ++ [.slice ya yn yc]) (us ++ [u1] ++ [u2]) (.slice none 0 0) (.slice pa pn pc) (.slice qa qn qc) (.slice none 0 0) [] a2 a2 [] wz := KB.set 4 rfl ⟨int_ne_pr, sl_ne_pr, sh_ne_pr⟩ nz gz (by show w.heap.size ≤ w.heap.size + 1 + 1 + 1 + 1; omega)
        have SZZ : Hid (SD w0 w [(w.heap.size, 24, polL l (.slice sa sn sc)), (w.heap.size + 1, 29, prL c c), (w.heap.size + 1 + 1, 37, evL ea), (w.heap.size + 1 + 1 + 1, 37, evL eb), (w.heap.size + 1 + 1 + 1 + 1, 29, prL d1 d1), (FB, 37, evL eb ++ (evL ea ++ evL ⟨-7, 0, 0, 0⟩)), (AB, 27, csL d1), (GB, 27, csL d1), (DB, 27, csL d1), (TB, 27, csL d2), (WB, 27, csL d2)] SB vL2 vG2 (vs ++ [.slice xa xn xc] ++ [.slice ya yn yc]) (us ++ [u1] ++ [u2]) (.slice none 0 0) (.slice pa pn pc) (.slice qa qn qc) (.slice none 0 0) [] a2 a2 [] wz) := hZ
        refine hK.out _ _ ⟨_, hZ⟩ (fun hH => ?_)
        simp only [Act.put]
        refine wpAnyH_take (i := 15) (oi := { dst := some 11, op := Op.assign (Operand.tmp 138), type := 4, pos := "law.go:127", after := #[{ on := 13, ground := Ground.data }, { on := 14, ground := Ground.chain }, { on := 0, ground := Ground.phase }, { on := 1, ground := Ground.phase }, { on := 2, ground := Ground.phase }, { on := 3, ground := Ground.phase }, { on := 4, ground := Ground.phase }, { on := 5, ground := Ground.phase }, { on := 6, ground := Ground.phase }, { on := 7, ground := Ground.phase }, { on := 8, ground := Ground.phase }, { on := 9, ground := Ground.phase }, { on := 10, ground := Ground.phase }, { on := 11, ground := Ground.phase }, { on := 12, ground := Ground.phase }, { on := 13, ground := Ground.phase }, { on := 14, ground := Ground.phase }], guard := none }) (v := .bool true) rfl (by kernel_rfl) (by kernel_rfl) (by kernel_rfl) (fun _ _ _ h => h) (Or.inl ⟨by rfl, fun w' h => by go_simp⟩) hH ?_
        try simp only [Act.put, List.setIfInBounds_toArray, List.set_cons_zero, List.set_cons_succ]
        refine wpAnyH_done (by kernel_rfl) ?_ _
        clear hH hK gz hZ KB hC nz
        go_wp2_with fail
        refine ret_blk_tmp rfl rfl (w.heap.size + 1 + 1 + 1 + 1) 29 (prL d1 d1) _ rfl (SZZ.out.kd.at 4 rfl) Tryd.underlying29 rfl (sizePr _ _) ?_
        exact ⟨rfl, ⟨_, _, _, _, SZZ.out.sh, by rw [List.length_append, List.length_append]; rfl⟩, SZZ.out.kd.bb, SZZ.out.kp⟩
end Go.Proofs.YtmbbigkpeefjjabDoor
