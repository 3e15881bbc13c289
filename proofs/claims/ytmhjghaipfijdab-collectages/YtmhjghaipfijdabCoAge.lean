/-
  Ours: the walk of CollectAges (gen_colaw.py: THE SEAT's OWN NUMBERS).
-/
import Derived.Test.YtmhjghaipfijdabCoRun
namespace Go.Proofs.Ytmhjghaipfijdab
open Go.RowKit LedM PolM CoM

namespace CoM
/-- What CollectAges asks of a step. -/
structure AF (l : List Int) (e : Ev) (c : Cs) (a : An) : Prop where
  a1 : a.1 = 0 → opn a.2.1 = true → opn c = false → e.k = 1 ∧ a.2.1.pr = 0 ∧ a.2.1.si = e.t ∧ a.2.1.dl = wrap64 (e.t + l.getD 3 0) ∧ a.2.1.cy = wrap64 (c.cy + 1)
  a2 : a.1 = 0 → opn a.2.1 = true → opn c = true → a.2.1.cy = c.cy ∧ a.2.1.si = c.si ∧ ¬ wrap64 (c.dl + wrap64 (wrap64 (l.getD 9 0 - c.pr) * l.getD 10 0)) < wrap64 (a.2.1.dl + wrap64 (wrap64 (l.getD 9 0 - a.2.1.pr) * l.getD 10 0)) ∧ decide (l.getD 9 0 < a.2.1.pr) = false
  a3 : a.1 = 0 → opn a.2.1 = true → e.k = 1 → decide (e.t < a.2.1.dl) = true
theorem opn_tA {c : Cs} (h : opn c = true) : c.st = 3 ∨ c.st = 4 ∨ c.st = 5 := by simpa only [opn, decide_eq_true_eq] using h
theorem opn_fA {c : Cs} (h : opn c = false) : ¬ (c.st = 3 ∨ c.st = 4 ∨ c.st = 5) := by simpa only [opn, decide_eq_false_iff_not] using h
theorem ages_of {l hs : List Int} {c : Cs} {e : Ev} {n : Int} (hg : good l hs = true) (I : Inv (pn l) n c) (hn : 0 ≤ n ∧ n < 4611686018427387904) (E : EvOk e) : AF l e c (stepA l hs c e) := by
  have P := pol_of hg
  refine ⟨fun h0 h1 h2 => ?_, fun h0 h1 h2 => ?_, fun h0 h1 h2 => decide_eq_true ((step_fact rfl P I hn E h0).day (opn_tA h1) h2)⟩
  · have F := step_fact rfl P I hn E h0
    obtain ⟨x1, x2, x3, x4, x5, x6⟩ := F.ope (opn_tA h1) (.inl (opn_fA h2))
    have y := F.inv.op (opn_tA h1)
    have z := I.cy
    have b3 := P.co
    simp only [pn] at x5 y b3
    refine ⟨x1, x3, x4, ?_, ?_⟩
    · rw [wr (by omega) (by omega)]; exact x5
    · rw [wr (by omega) (by omega)]; exact x6
  · have F := step_fact rfl P I hn E h0
    obtain ⟨x1, x2, x3⟩ := F.sta (opn_tA h1) (opn_tA h2)
    have y := F.inv.op (opn_tA h1); have y2 := I.op (opn_tA h2)
    have z := F.inv.pr; have z2 := I.pr
    have b3 := P.co; have b6 := P.p; have b7 := P.d
    simp only [pn] at x3 y y2 z z2 b3 b6 b7
    generalize (stepA l hs c e).2.1 = c' at *
    have m2 : l.getD 9 0 * l.getD 10 0 ≤ 8 * 60 := Int.mul_le_mul b6.2 b7.2 (by omega) (by omega)
    have m3 : 0 ≤ l.getD 9 0 * l.getD 10 0 := Int.mul_nonneg (by omega) (by omega)
    have d1 : (l.getD 9 0 - c.pr) * l.getD 10 0 = l.getD 9 0 * l.getD 10 0 - c.pr * l.getD 10 0 := by rw [Int.sub_mul]
    have d2 : (l.getD 9 0 - c'.pr) * l.getD 10 0 = l.getD 9 0 * l.getD 10 0 - c'.pr * l.getD 10 0 := by rw [Int.sub_mul]
    refine ⟨x1, x2, ?_, decide_eq_false (by omega)⟩
    rw [wr (x := l.getD 9 0 - c.pr) (by omega) (by omega), wr (x := l.getD 9 0 - c'.pr) (by omega) (by omega), d1, d2, wr (x := l.getD 9 0 * l.getD 10 0 - c.pr * l.getD 10 0) (by omega) (by omega), wr (x := l.getD 9 0 * l.getD 10 0 - c'.pr * l.getD 10 0) (by omega) (by omega), wr (by omega) (by omega), wr (by omega) (by omega)]
    omega
end CoM
set_option maxRecDepth 20000 in
theorem ahead_at (l : List Int) (s : Value) (c : Cs) (w : World) (hl : l.length = 17) : Calls Try.prog 17 #[PV l s, csV c] w fun e w' => e = .returned (.int .i64 (wrap64 (c.dl + wrap64 (wrap64 (l.getD 9 0 - c.pr) * l.getD 10 0)))) ∧ Below w.heap.size w w' := by
  show Calls _ _ #[.agg (polL l s).toArray, .agg (csL c).toArray] _ _
  have P1 : Blk w.heap.size 24 (polL l s) ((w.alloc (.cells (polL l s).toArray 24)).alloc (.cells (csL c).toArray 29)) := (Blk.new _ _ _).old _
  have C1 : Blk (w.heap.size + 1) 29 (csL c) ((w.alloc (.cells (polL l s).toArray 24)).alloc (.cells (csL c).toArray 29)) := Blk.new2 _ _ _ _
  have BB : Hid (Below w.heap.size w ((w.alloc (.cells (polL l s).toArray 24)).alloc (.cells (csL c).toArray 29))) := below_trans (below_alloc _ _) (below_alloc _ _)
  have p9 := P1.cell 9 _ (polL_at hl 9 (by decide))
  have p10 := P1.cell 10 _ (polL_at hl 10 (by decide))
  have c4 : _ = some (Value.int .i64 c.dl) := C1.cell 4 _ rfl
  have c5 : _ = some (Value.int .i64 c.pr) := C1.cell 5 _ rfl
  clear P1 C1 hl
  generalize l.getD 9 0 = P9 at *
  generalize l.getD 10 0 = P10 at *
  go_enter Try.func17, Try.ntmps17
  go_upto_region 1 with fail
  generalize (w.alloc (.cells (polL l s).toArray 24)).alloc (.cells (csL c).toArray 29) = w1 at *
  go_wp2_with fail
  go_ret
  exact ⟨rfl, BB.out⟩
/-- The policy's box, the event's. -/
structure PE (w : World) (l : List Int) (s : Value) (ev : Ev) (w' : World) : Prop where
  p : Blk w.heap.size 24 (polL l s) w'
  e : Blk (w.heap.size + 1) 36 (evL ev) w'
  bb : Below w.heap.size w w'
structure PC (w : World) (l : List Int) (s : Value) (ev : Ev) (c : Cs) (C : Nat) (w' : World) : Prop where
  p : Blk w.heap.size 24 (polL l s) w'
  e : Blk (w.heap.size + 1) 36 (evL ev) w'
  c : Blk C 29 (csL c) w'
  bb : Below w.heap.size w w'
  lt : w.heap.size + 1 < C
structure PD (w : World) (l : List Int) (s : Value) (ev : Ev) (c : Cs) (C : Nat) (d : Cs) (D : Nat) (w' : World) : Prop where
  pc : PC w l s ev c C w'
  d : Blk D 29 (csL d) w'
section
variable {w w1 w2 : World} {l : List Int} {s : Value} {ev : Ev} {c d : Cs} {C D : Nat}
theorem PE.later (h : PE w l s ev w1) (hb : Below w1.heap.size w1 w2) : PE w l s ev w2 := ⟨h.p.below hb, h.e.below hb, below_trans h.bb hb⟩
theorem PC.later (h : PC w l s ev c C w1) (hb : Below w1.heap.size w1 w2) : PC w l s ev c C w2 := ⟨h.p.below hb, h.e.below hb, h.c.below hb, below_trans h.bb hb, h.lt⟩
theorem PC.drew (h : PC w l s ev c C w1) : PC w l s ev c C w1.drew := ⟨h.p, h.e, h.c, Below.drew h.bb, h.lt⟩
theorem PC.grown {G : Nat} (h : PC w l s ev c C w1) (g : w1.grownBy w2 (some G)) (hG : C < G) : PC w l s ev c C w2 :=
  ⟨h.p.grown g (fun e => by injection e with e; have := h.lt; omega), h.e.grown g (fun e => by injection e with e; have := h.lt; omega), h.c.grown g (fun e => by injection e with e; omega), below_row h.bb g (by have := h.lt; omega), h.lt⟩
theorem PD.later (h : PD w l s ev c C d D w1) (hb : Below w1.heap.size w1 w2) : PD w l s ev c C d D w2 := ⟨h.pc.later hb, h.d.below hb⟩
theorem PD.drew (h : PD w l s ev c C d D w1) : PD w l s ev c C d D w1.drew := ⟨h.pc.drew, h.d⟩
end

set_option maxRecDepth 20000 in
set_option maxHeartbeats 8000000 in
theorem ages_any (ev : Ev) (ho : EvOk ev) (l hs : List Int) (s v : Value) (es : List Ev) (w : World) (hl : l.length = 17) (hr : Rd w s (bkL hs)) (hb : hs.length * 8 ≤ 140737488355328) (er : RdV w v es) (hE : es.length ≤ 4398046511104) (okE : ∀ i, EvOk (eN es i)) :
    Calls Try.prog 5 #[PV l s, v, evV ev] w fun e w' => e = .returned (.bool true) ∧ Below w.heap.size w w' := by
  show Calls _ _ #[.agg (polL l s).toArray, _, .agg (evL ev).toArray] _ _
  have OW : Hid (∀ w', Below w.heap.size w w' → Calls Try.prog 12 #[PV l s] w' (OwnAns l hs w')) := fun w' h => own_at l hs s w' hl (hr.later h) hb
  have FR : Hid (∀ w', Calls Try.prog 10 #[] w' fun e w'' => e = .returned (csV fresh) ∧ Below w'.heap.size w' w'') := fresh_at
  have MY : Hid (∀ w', Below w.heap.size w w' → Calls Try.prog 7 #[PV l s] w' fun e w'' => e = .returned (.bool (good l hs)) ∧ Below w'.heap.size w' w'') := fun w' h => mayc_at l hs s w' hl (hr.later h) (by omega)
  have OP : Hid (good l hs = true → ∀ w', Below w.heap.size w w' → Calls Try.prog 8 #[PV l s] w' fun e w'' => e = .returned (.bool true) ∧ Below w'.heap.size w' w'') := fun hg w' h => opens_at l hs s w' hl (hr.later h) hb hg
  have ST : Hid (∀ c ev s' w', Rd w' s' (bkL hs) → Calls Try.prog 11 #[PV l s', csV c, evV ev] w' (StepAns (stepA l hs c ev) w')) := fun c ev s' w' h => step_at l hs s' c ev w' hl h (by omega)
  have SZ : Hid ((Try.prog.info? 24).map (·.size) = some (polL l s).length) := by show _ = _; rw [polL_len hl]; exact sizeP
  have S0 : Hid (PE w l s ev ((w.alloc (.cells (polL l s).toArray 24)).alloc (.cells (evL ev).toArray 36))) := ⟨(Blk.new _ _ _).old _, Blk.new2 _ _ _ _, below_trans (below_alloc _ _) (below_alloc _ _)⟩
  have HL : Hid (l.length = 17) := hl
  have ER : Hid (RdV w v es) := er
  have FE : Hid (∀ w', Below w.heap.size w w' → Calls Try.prog 15 #[v] w' fun e w'' => ∃ v', e = .returned v' ∧ RowE w'.heap.size w'' v' es ∧ Below w'.heap.size w' w'') := fun w' h => freshE_at v es w' (er.later h) hE
  have RUN : Hid (∀ s' v' w', Rd w' s' (bkL hs) → RdV w' v' es → Calls Try.prog 14 #[PV l s', csV fresh, v'] w' (RunAns (rk l hs fresh es es.length) w')) := fun s' v' w' h h' => run_at l hs s' v' fresh es w' hl h hb h' hE
  have O1 : Hid (∀ c w', Calls Try.prog 13 #[csV c] w' fun e w'' => e = .returned (.bool (opn c)) ∧ Below w'.heap.size w' w'') := open_at
  have OKE : Hid (∀ i, EvOk (eN es i)) := okE
  have EO : Hid (EvOk ev) := ho
  clear hl hr hb er ER okE ho
  cases hg : good l hs
  · go_enter Try.func5, Try.ntmps5
    go_upto_region 1 with fail
    generalize (w.alloc (.cells (polL l s).toArray 24)).alloc (.cells (evL ev).toArray 36) = w0 at *
    go_wp2_with ((with_reducible refine at_loadT 24 ?_); refine step_load rfl 24 _ rfl (w.heap.size) 0 rfl (polL l s) _ (Blk.all S0.out.p) Try.underlying24 rfl SZ.out ?_)
    refine (MY.out _ S0.out.bb).mono ?_
    rw [hg]
    rintro e w1 ⟨rfl, bX⟩
    have S1 : Hid (PE w l s ev w1) := S0.out.later bX
    clear bX
    go_wp2_with fail
    go_ret
    exact ⟨rfl, S1.out.bb⟩
  · go_enter Try.func5, Try.ntmps5
    go_upto_region 1 with fail
    generalize (w.alloc (.cells (polL l s).toArray 24)).alloc (.cells (evL ev).toArray 36) = w0 at *
    go_wp2_with ((with_reducible refine at_loadT 24 ?_); refine step_load rfl 24 _ rfl (w.heap.size) 0 rfl (polL l s) _ (Blk.all S0.out.p) Try.underlying24 rfl SZ.out ?_)
    refine (MY.out _ S0.out.bb).mono ?_
    rw [hg]
    rintro e w1 ⟨rfl, bX⟩
    have S1 : Hid (PE w l s ev w1) := S0.out.later bX
    clear bX
    go_wp2_with ((with_reducible refine at_loadT 24 ?_); refine step_load rfl 24 _ rfl (w.heap.size) 0 rfl (polL l s) _ (Blk.all S1.out.p) Try.underlying24 rfl SZ.out ?_)
    refine (OP.out hg _ S1.out.bb).mono ?_
    rintro e w2 ⟨rfl, bX⟩
    have S2 : Hid (PE w l s ev w2) := S1.out.later bX
    clear bX
    go_wp2_with ((with_reducible refine at_loadT 24 ?_); refine step_load rfl 24 _ rfl (w.heap.size) 0 rfl (polL l s) _ (Blk.all S2.out.p) Try.underlying24 rfl SZ.out ?_)
    refine (OW.out _ S2.out.bb).mono ?_
    rintro e w3 ⟨oa, on, oc, rfl, orow, b3⟩
    have S3 : Hid (PE w l s ev w3) := S2.out.later b3
    have RO : Hid (Rd w3 (.slice oa on oc) (bkL hs)) := orow.rd
    clear orow b3 S0 S1 S2
    go_wp2_with fail
    refine (FR.out _).mono ?_
    rintro e w4 ⟨rfl, b4⟩
    have S4 : Hid (PE w l s ev w4) := S3.out.later b4
    have RO4 : Hid (Rd w4 (.slice oa on oc) (bkL hs)) := RO.out.later b4
    clear b4 S3 RO
    go_wp2_with fail
    refine (FE.out _ S4.out.bb).mono ?_
    rintro e w5 ⟨ve, rfl, re, b5⟩
    have S5 : Hid (PE w l s ev w5) := S4.out.later b5
    have RO5 : Hid (Rd w5 (.slice oa on oc) (bkL hs)) := RO4.out.later b5
    have RE5 : Hid (RdV w5 ve es) := re.rd
    clear re b5 S4 RO4
    go_wp2_with fail
    refine (RUN.out _ _ _ RO5.out RE5.out).mono ?_
    rintro e w6 ⟨xa, xn, xc, rfl, -, b6⟩
    have S6 : Hid (PE w l s ev w6) := S5.out.later b6
    clear b6 S5 RO5 RE5
    have IV : Hid (Inv (pn l) (es.length : Int) (rk l hs fresh es es.length).1) := rk_inv hg (inv_fresh (pol_of hg)) OKE.out es.length hE
    have AA : Hid (AF l ev (rk l hs fresh es es.length).1 (stepA l hs (rk l hs fresh es es.length).1 ev)) := ages_of hg IV.out (by omega) EO.out
    clear IV
    generalize (rk l hs fresh es es.length).1 = c at *
    have SK : Hid (∀ s' w', Rd w' s' (bkL hs) → Calls Try.prog 11 #[PV l s', csV c, evV ev] w' (StepAns (stepA l hs c ev) w')) := fun s' w' h => ST.out c ev s' w' h
    generalize stepA l hs c ev = ans at *
    have NZ : Hid (Blk w6.heap.size 29 (csL ⟨0, false, 0, 0, 0, 0, 0, 0, 0, 0, 0, 0, 0, 0, 0⟩) (w6.alloc (.cells #[.int .i64 0, .bool false, .int .i64 0, .int .i64 0, .int .i64 0, .int .i64 0, .int .i64 0, .int .i64 0, .int .i64 0, .int .i64 0, .int .i64 0, .int .i64 0, .int .i64 0, .int .i64 0, .int .i64 0] 29))) := Blk.new _ _ _
    go_upto_region 6 with ((with_reducible refine at_store ?_); refine step_store rfl 29 _ _ rfl w6.heap.size 0 29 _ (csL c) rfl rfl NZ.out (Nat.le_refl 15) (sizeCsL _) (csL_one _) ?_; intro w7 n7 g7)
    have S7 : Hid (PC w l s ev c w6.heap.size w7) := by
      have x := S6.out.later (below_alloc w6 (.cells #[.int .i64 0, .bool false, .int .i64 0, .int .i64 0, .int .i64 0, .int .i64 0, .int .i64 0, .int .i64 0, .int .i64 0, .int .i64 0, .int .i64 0, .int .i64 0, .int .i64 0, .int .i64 0, .int .i64 0] 29))
      have lt := S6.out.e.lt
      exact ⟨x.p.grown g7 (fun e => by injection e with e; omega), x.e.grown g7 (fun e => by injection e with e; omega), n7, below_row x.bb g7 (by omega), lt⟩
    clear n7 g7 NZ S6
    obtain ⟨CB, hCB⟩ : ∃ CB, w6.heap.size = CB := ⟨_, rfl⟩
    rw [hCB] at S7
    rw [hCB]
    clear hCB
    go_upto_region 6 with fail
    go_cut [9, 10, 11] from 13 to 118 (fun v9 v10 v11 wx => ∃ G, v9 = .pointer (some ⟨G, 0, none⟩) ∧ (∃ ra rn rc, v10 = .slice ra rn rc) ∧ v11 = .int .i64 ans.1 ∧ Hid (PD w l s ev c CB ans.2.1 G wx))
    case first =>
      have hu := Try.underlying24
      have hi := SZ.out
      have hu2 := Try.underlying29
      have hi2 := sizeCsL c
      have hu3 := Try.underlying36
      have hi3 := sizeEvL ev
      refine wp_region_held_drew (S := fun w' => PC w l s ev c CB w') (by kernel_rfl) (S7.out.drew) (fun hH => ?_)
      refine wpAnyH_take (i := 0) (oi := { dst := some 29, op := Op.load 24 (Operand.tmp 3), type := 24, pos := "outright.go:98", after := #[], guard := none }) (v := .agg (polL l s).toArray) rfl (by kernel_rfl) (by kernel_rfl) (by kernel_rfl) (fun _ _ _ h => h) (yieldsIf_load_mid (by rfl) _ _ rfl w.heap.size 0 rfl (polL l s) _ (fun w' h => h.p.all) hu rfl hi) hH ?_
      try simp only [Act.put, List.setIfInBounds_toArray, List.set_cons_zero, List.set_cons_succ]
      refine wpAnyH_take (i := 2) (oi := { dst := some 31, op := Op.load 29 (Operand.tmp 7), type := 29, pos := "outright.go:98", after := #[], guard := none }) (v := .agg (csL c).toArray) rfl (by kernel_rfl) (by kernel_rfl) (by kernel_rfl) (fun _ _ _ h => h) (yieldsIf_load_mid (by rfl) _ _ rfl CB 0 rfl (csL c) _ (fun w' h => h.c.all) hu2 rfl hi2) hH ?_
      try simp only [Act.put, List.setIfInBounds_toArray, List.set_cons_zero, List.set_cons_succ]
      refine wpAnyH_take (i := 3) (oi := { dst := some 32, op := Op.load 36 (Operand.tmp 5), type := 36, pos := "outright.go:98", after := #[], guard := none }) (v := .agg (evL ev).toArray) rfl (by kernel_rfl) (by kernel_rfl) (by kernel_rfl) (fun _ _ _ h => h) (yieldsIf_load_mid (by rfl) _ _ rfl (w.heap.size + 1) 0 rfl (evL ev) _ (fun w' h => h.e.all) hu3 rfl hi3) hH ?_
      try simp only [Act.put, List.setIfInBounds_toArray, List.set_cons_zero, List.set_cons_succ]
      refine wpAnyH_ready (rs := [1, 9]) (by kernel_rfl) (by simp) ?_
      refine AllReadyH.cons (o := { dst := some 30, op := Op.call { callee := Callee.value (Operand.func 12), args := #[Operand.tmp 29], argTypes := #[24] }, type := 24, pos := "outright.go:98", after := #[{ on := 0, ground := Ground.data }], guard := none }) rfl (fun K hK => ?_) (AllReadyH.cons (o := { dst := some 9, op := Op.alloc 29, type := 0, pos := "outright.go:98", after := #[], guard := none }) rfl (fun K hK => ?_) AllReadyH.nil)
      · go_simp
        refine (OW.out _ hH.bb).mono ?_
        rintro e x1 ⟨oa, on, oc, rfl, orow, bX⟩
        refine hK.out _ _ (hH.later bX) (fun hH => ?_)
        refine wpAnyH_ready (rs := [4, 9]) (by kernel_rfl) (by simp) ?_
        refine AllReadyH.cons (o := { dst := some 33, op := Op.call { callee := Callee.value (Operand.func 11), args := #[Operand.tmp 30, Operand.tmp 31, Operand.tmp 32], argTypes := #[24, 29, 36] }, type := 32, pos := "outright.go:98", after := #[{ on := 1, ground := Ground.data }, { on := 2, ground := Ground.data }, { on := 3, ground := Ground.data }, { on := 1, ground := Ground.chain }], guard := none }) rfl (fun K hK => ?_) (AllReadyH.cons (o := { dst := some 9, op := Op.alloc 29, type := 0, pos := "outright.go:98", after := #[], guard := none }) rfl (fun K hK => ?_) AllReadyH.nil)
        · go_simp
          refine (SK.out _ _ orow.rd).mono ?_
          rintro e x2 ⟨ra, rn, rc, rfl, rrow, bX⟩
          have orow := orow.later bX
          refine hK.out _ _ (hH.later bX) (fun hH => ?_)
          refine wpAnyH_take (i := 5) (oi := { dst := some 28, op := Op.move (Operand.tmp 33), type := 32, pos := "outright.go:98", after := #[{ on := 4, ground := Ground.data }], guard := none }) (v := .tuple #[csV ans.2.1, .slice ra rn rc, .int .i64 ans.1]) rfl (by kernel_rfl) (by kernel_rfl) (by kernel_rfl) (fun _ _ _ h => h) (Or.inl ⟨by rfl, fun w' h => by go_simp⟩) hH ?_
          try simp only [Act.put, List.setIfInBounds_toArray, List.set_cons_zero, List.set_cons_succ]
          refine wpAnyH_take (i := 6) (oi := { dst := some 34, op := Op.extract (Operand.tmp 28) 0, type := 29, pos := "outright.go:98", after := #[{ on := 5, ground := Ground.data }], guard := none }) (v := csV ans.2.1) rfl (by kernel_rfl) (by kernel_rfl) (by kernel_rfl) (fun _ _ _ h => h) (Or.inl ⟨by rfl, fun w' h => by go_simp⟩) hH ?_
          try simp only [Act.put, List.setIfInBounds_toArray, List.set_cons_zero, List.set_cons_succ]
          refine wpAnyH_take (i := 7) (oi := { dst := some 35, op := Op.extract (Operand.tmp 28) 1, type := 22, pos := "outright.go:98", after := #[{ on := 5, ground := Ground.data }, { on := 10, ground := Ground.gcOnly Departure.lateStores }], guard := none }) (v := .slice ra rn rc) rfl (by kernel_rfl) (by kernel_rfl) (by kernel_rfl) (fun _ _ _ h => h) (Or.inl ⟨by rfl, fun w' h => by go_simp⟩) hH ?_
          try simp only [Act.put, List.setIfInBounds_toArray, List.set_cons_zero, List.set_cons_succ]
          refine wpAnyH_take (i := 8) (oi := { dst := some 36, op := Op.extract (Operand.tmp 28) 2, type := 31, pos := "outright.go:98", after := #[{ on := 5, ground := Ground.data }, { on := 11, ground := Ground.gcOnly Departure.lateStores }], guard := none }) (v := .int .i64 ans.1) rfl (by kernel_rfl) (by kernel_rfl) (by kernel_rfl) (fun _ _ _ h => h) (Or.inl ⟨by rfl, fun w' h => by go_simp⟩) hH ?_
          try simp only [Act.put, List.setIfInBounds_toArray, List.set_cons_zero, List.set_cons_succ]
          refine wpAnyH_ready (rs := [9]) (by kernel_rfl) (by simp) ?_
          refine AllReadyH.cons (o := { dst := some 9, op := Op.alloc 29, type := 0, pos := "outright.go:98", after := #[], guard := none }) rfl (fun K hK => ?_) AllReadyH.nil
          go_simp
          have hN : Blk x2.heap.size 29 (csL ⟨0, false, 0, 0, 0, 0, 0, 0, 0, 0, 0, 0, 0, 0, 0⟩) (x2.alloc (.cells #[.int .i64 0, .bool false, .int .i64 0, .int .i64 0, .int .i64 0, .int .i64 0, .int .i64 0, .int .i64 0, .int .i64 0, .int .i64 0, .int .i64 0, .int .i64 0, .int .i64 0, .int .i64 0, .int .i64 0] 29)) := Blk.new _ _ _
          have hG : CB < x2.heap.size := hH.c.lt
          have orow := orow.later (below_alloc x2 (.cells #[.int .i64 0, .bool false, .int .i64 0, .int .i64 0, .int .i64 0, .int .i64 0, .int .i64 0, .int .i64 0, .int .i64 0, .int .i64 0, .int .i64 0, .int .i64 0, .int .i64 0, .int .i64 0, .int .i64 0] 29))
          refine hK.out _ _ (hH.later (below_alloc _ _)) (fun hH => ?_)
          refine wpAnyH_ready (rs := [10]) (by kernel_rfl) (by simp) ?_
          refine AllReadyH.cons (o := { dst := none, op := Op.store 29 (Operand.tmp 9) (Operand.tmp 34), type := 0, pos := "outright.go:98", after := #[{ on := 9, ground := Ground.data }, { on := 6, ground := Ground.data }, { on := 4, ground := Ground.chain }, { on := 0, ground := Ground.phase }, { on := 1, ground := Ground.phase }, { on := 2, ground := Ground.phase }, { on := 3, ground := Ground.phase }, { on := 4, ground := Ground.phase }, { on := 5, ground := Ground.phase }, { on := 6, ground := Ground.phase }, { on := 7, ground := Ground.textOnly Departure.lateStores }, { on := 8, ground := Ground.textOnly Departure.lateStores }, { on := 9, ground := Ground.phase }], guard := none }) rfl (fun K hK => ?_) AllReadyH.nil
          refine op_putC (zs := csL ⟨0, false, 0, 0, 0, 0, 0, 0, 0, 0, 0, 0, 0, 0, 0⟩) (csL ans.2.1) rfl (sizeCsL _) (csL_one _) rfl _ _ rfl _ rfl rfl hN ?_
          intro w9 b9 g9
          have PX : Hid (PD w l s ev c CB ans.2.1 _ w9) := ⟨hH.grown g9 hG, b9⟩
          refine hK.out _ _ PX.out.pc (fun hH => ?_)
          simp only [Act.put]
          refine wpAnyH_take (i := 11) (oi := { dst := some 10, op := Op.assign (Operand.tmp 35), type := 22, pos := "outright.go:98", after := #[{ on := 7, ground := Ground.data }, { on := 10, ground := Ground.chain }, { on := 0, ground := Ground.phase }, { on := 1, ground := Ground.phase }, { on := 2, ground := Ground.phase }, { on := 3, ground := Ground.phase }, { on := 4, ground := Ground.phase }, { on := 5, ground := Ground.phase }, { on := 6, ground := Ground.phase }, { on := 7, ground := Ground.phase }, { on := 8, ground := Ground.textOnly Departure.lateStores }, { on := 9, ground := Ground.phase }, { on := 10, ground := Ground.phase }], guard := none }) (v := .slice ra rn rc) rfl (by kernel_rfl) (by kernel_rfl) (by kernel_rfl) (fun _ _ _ h => h) (Or.inl ⟨by rfl, fun w' h => by go_simp⟩) hH ?_
          try simp only [Act.put, List.setIfInBounds_toArray, List.set_cons_zero, List.set_cons_succ]
          refine wpAnyH_take (i := 12) (oi := { dst := some 11, op := Op.assign (Operand.tmp 36), type := 31, pos := "outright.go:98", after := #[{ on := 8, ground := Ground.data }, { on := 11, ground := Ground.chain }, { on := 0, ground := Ground.phase }, { on := 1, ground := Ground.phase }, { on := 2, ground := Ground.phase }, { on := 3, ground := Ground.phase }, { on := 4, ground := Ground.phase }, { on := 5, ground := Ground.phase }, { on := 6, ground := Ground.phase }, { on := 7, ground := Ground.phase }, { on := 8, ground := Ground.phase }, { on := 9, ground := Ground.phase }, { on := 10, ground := Ground.phase }, { on := 11, ground := Ground.phase }], guard := none }) (v := .int .i64 ans.1) rfl (by kernel_rfl) (by kernel_rfl) (by kernel_rfl) (fun _ _ _ h => h) (Or.inl ⟨by rfl, fun w' h => by go_simp⟩) hH ?_
          try simp only [Act.put, List.setIfInBounds_toArray, List.set_cons_zero, List.set_cons_succ]
          refine wpAnyH_done (by kernel_rfl) ?_ _
          clear hH hK b9 g9 hN
          go_wp2_with fail
          go_meet
          case rel => exact ⟨_, rfl, ⟨_, _, _, rfl⟩, rfl, PX⟩
        · go_simp
          have hN : Blk x1.heap.size 29 (csL ⟨0, false, 0, 0, 0, 0, 0, 0, 0, 0, 0, 0, 0, 0, 0⟩) (x1.alloc (.cells #[.int .i64 0, .bool false, .int .i64 0, .int .i64 0, .int .i64 0, .int .i64 0, .int .i64 0, .int .i64 0, .int .i64 0, .int .i64 0, .int .i64 0, .int .i64 0, .int .i64 0, .int .i64 0, .int .i64 0] 29)) := Blk.new _ _ _
          have hG : CB < x1.heap.size := hH.c.lt
          have orow := orow.later (below_alloc x1 (.cells #[.int .i64 0, .bool false, .int .i64 0, .int .i64 0, .int .i64 0, .int .i64 0, .int .i64 0, .int .i64 0, .int .i64 0, .int .i64 0, .int .i64 0, .int .i64 0, .int .i64 0, .int .i64 0, .int .i64 0] 29))
          refine hK.out _ _ (hH.later (below_alloc _ _)) (fun hH => ?_)
          refine wpAnyH_ready (rs := [4]) (by kernel_rfl) (by simp) ?_
          refine AllReadyH.cons (o := { dst := some 33, op := Op.call { callee := Callee.value (Operand.func 11), args := #[Operand.tmp 30, Operand.tmp 31, Operand.tmp 32], argTypes := #[24, 29, 36] }, type := 32, pos := "outright.go:98", after := #[{ on := 1, ground := Ground.data }, { on := 2, ground := Ground.data }, { on := 3, ground := Ground.data }, { on := 1, ground := Ground.chain }], guard := none }) rfl (fun K hK => ?_) AllReadyH.nil
          go_simp
          refine (SK.out _ _ orow.rd).mono ?_
          rintro e x3 ⟨ra, rn, rc, rfl, rrow, bX⟩
          have orow := orow.later bX
          have hN := hN.below bX
          refine hK.out _ _ (hH.later bX) (fun hH => ?_)
          refine wpAnyH_take (i := 5) (oi := { dst := some 28, op := Op.move (Operand.tmp 33), type := 32, pos := "outright.go:98", after := #[{ on := 4, ground := Ground.data }], guard := none }) (v := .tuple #[csV ans.2.1, .slice ra rn rc, .int .i64 ans.1]) rfl (by kernel_rfl) (by kernel_rfl) (by kernel_rfl) (fun _ _ _ h => h) (Or.inl ⟨by rfl, fun w' h => by go_simp⟩) hH ?_
          try simp only [Act.put, List.setIfInBounds_toArray, List.set_cons_zero, List.set_cons_succ]
          refine wpAnyH_take (i := 6) (oi := { dst := some 34, op := Op.extract (Operand.tmp 28) 0, type := 29, pos := "outright.go:98", after := #[{ on := 5, ground := Ground.data }], guard := none }) (v := csV ans.2.1) rfl (by kernel_rfl) (by kernel_rfl) (by kernel_rfl) (fun _ _ _ h => h) (Or.inl ⟨by rfl, fun w' h => by go_simp⟩) hH ?_
          try simp only [Act.put, List.setIfInBounds_toArray, List.set_cons_zero, List.set_cons_succ]
          refine wpAnyH_take (i := 7) (oi := { dst := some 35, op := Op.extract (Operand.tmp 28) 1, type := 22, pos := "outright.go:98", after := #[{ on := 5, ground := Ground.data }, { on := 10, ground := Ground.gcOnly Departure.lateStores }], guard := none }) (v := .slice ra rn rc) rfl (by kernel_rfl) (by kernel_rfl) (by kernel_rfl) (fun _ _ _ h => h) (Or.inl ⟨by rfl, fun w' h => by go_simp⟩) hH ?_
          try simp only [Act.put, List.setIfInBounds_toArray, List.set_cons_zero, List.set_cons_succ]
          refine wpAnyH_take (i := 8) (oi := { dst := some 36, op := Op.extract (Operand.tmp 28) 2, type := 31, pos := "outright.go:98", after := #[{ on := 5, ground := Ground.data }, { on := 11, ground := Ground.gcOnly Departure.lateStores }], guard := none }) (v := .int .i64 ans.1) rfl (by kernel_rfl) (by kernel_rfl) (by kernel_rfl) (fun _ _ _ h => h) (Or.inl ⟨by rfl, fun w' h => by go_simp⟩) hH ?_
          try simp only [Act.put, List.setIfInBounds_toArray, List.set_cons_zero, List.set_cons_succ]
          refine wpAnyH_ready (rs := [10]) (by kernel_rfl) (by simp) ?_
          refine AllReadyH.cons (o := { dst := none, op := Op.store 29 (Operand.tmp 9) (Operand.tmp 34), type := 0, pos := "outright.go:98", after := #[{ on := 9, ground := Ground.data }, { on := 6, ground := Ground.data }, { on := 4, ground := Ground.chain }, { on := 0, ground := Ground.phase }, { on := 1, ground := Ground.phase }, { on := 2, ground := Ground.phase }, { on := 3, ground := Ground.phase }, { on := 4, ground := Ground.phase }, { on := 5, ground := Ground.phase }, { on := 6, ground := Ground.phase }, { on := 7, ground := Ground.textOnly Departure.lateStores }, { on := 8, ground := Ground.textOnly Departure.lateStores }, { on := 9, ground := Ground.phase }], guard := none }) rfl (fun K hK => ?_) AllReadyH.nil
          refine op_putC (zs := csL ⟨0, false, 0, 0, 0, 0, 0, 0, 0, 0, 0, 0, 0, 0, 0⟩) (csL ans.2.1) rfl (sizeCsL _) (csL_one _) rfl _ _ rfl _ rfl rfl hN ?_
          intro w9 b9 g9
          have PX : Hid (PD w l s ev c CB ans.2.1 _ w9) := ⟨hH.grown g9 hG, b9⟩
          refine hK.out _ _ PX.out.pc (fun hH => ?_)
          simp only [Act.put]
          refine wpAnyH_take (i := 11) (oi := { dst := some 10, op := Op.assign (Operand.tmp 35), type := 22, pos := "outright.go:98", after := #[{ on := 7, ground := Ground.data }, { on := 10, ground := Ground.chain }, { on := 0, ground := Ground.phase }, { on := 1, ground := Ground.phase }, { on := 2, ground := Ground.phase }, { on := 3, ground := Ground.phase }, { on := 4, ground := Ground.phase }, { on := 5, ground := Ground.phase }, { on := 6, ground := Ground.phase }, { on := 7, ground := Ground.phase }, { on := 8, ground := Ground.textOnly Departure.lateStores }, { on := 9, ground := Ground.phase }, { on := 10, ground := Ground.phase }], guard := none }) (v := .slice ra rn rc) rfl (by kernel_rfl) (by kernel_rfl) (by kernel_rfl) (fun _ _ _ h => h) (Or.inl ⟨by rfl, fun w' h => by go_simp⟩) hH ?_
          try simp only [Act.put, List.setIfInBounds_toArray, List.set_cons_zero, List.set_cons_succ]
          refine wpAnyH_take (i := 12) (oi := { dst := some 11, op := Op.assign (Operand.tmp 36), type := 31, pos := "outright.go:98", after := #[{ on := 8, ground := Ground.data }, { on := 11, ground := Ground.chain }, { on := 0, ground := Ground.phase }, { on := 1, ground := Ground.phase }, { on := 2, ground := Ground.phase }, { on := 3, ground := Ground.phase }, { on := 4, ground := Ground.phase }, { on := 5, ground := Ground.phase }, { on := 6, ground := Ground.phase }, { on := 7, ground := Ground.phase }, { on := 8, ground := Ground.phase }, { on := 9, ground := Ground.phase }, { on := 10, ground := Ground.phase }, { on := 11, ground := Ground.phase }], guard := none }) (v := .int .i64 ans.1) rfl (by kernel_rfl) (by kernel_rfl) (by kernel_rfl) (fun _ _ _ h => h) (Or.inl ⟨by rfl, fun w' h => by go_simp⟩) hH ?_
          try simp only [Act.put, List.setIfInBounds_toArray, List.set_cons_zero, List.set_cons_succ]
          refine wpAnyH_done (by kernel_rfl) ?_ _
          clear hH hK b9 g9 hN
          go_wp2_with fail
          go_meet
          case rel => exact ⟨_, rfl, ⟨_, _, _, rfl⟩, rfl, PX⟩
      · go_simp
        have hN : Blk w7.drew.heap.size 29 (csL ⟨0, false, 0, 0, 0, 0, 0, 0, 0, 0, 0, 0, 0, 0, 0⟩) (w7.drew.alloc (.cells #[.int .i64 0, .bool false, .int .i64 0, .int .i64 0, .int .i64 0, .int .i64 0, .int .i64 0, .int .i64 0, .int .i64 0, .int .i64 0, .int .i64 0, .int .i64 0, .int .i64 0, .int .i64 0, .int .i64 0] 29)) := Blk.new _ _ _
        have hG : CB < w7.drew.heap.size := hH.c.lt
        refine hK.out _ _ (hH.later (below_alloc _ _)) (fun hH => ?_)
        refine wpAnyH_ready (rs := [1]) (by kernel_rfl) (by simp) ?_
        refine AllReadyH.cons (o := { dst := some 30, op := Op.call { callee := Callee.value (Operand.func 12), args := #[Operand.tmp 29], argTypes := #[24] }, type := 24, pos := "outright.go:98", after := #[{ on := 0, ground := Ground.data }], guard := none }) rfl (fun K hK => ?_) AllReadyH.nil
        go_simp
        refine (OW.out _ hH.bb).mono ?_
        rintro e x4 ⟨oa, on, oc, rfl, orow, bX⟩
        have hN := hN.below bX
        refine hK.out _ _ (hH.later bX) (fun hH => ?_)
        refine wpAnyH_ready (rs := [4]) (by kernel_rfl) (by simp) ?_
        refine AllReadyH.cons (o := { dst := some 33, op := Op.call { callee := Callee.value (Operand.func 11), args := #[Operand.tmp 30, Operand.tmp 31, Operand.tmp 32], argTypes := #[24, 29, 36] }, type := 32, pos := "outright.go:98", after := #[{ on := 1, ground := Ground.data }, { on := 2, ground := Ground.data }, { on := 3, ground := Ground.data }, { on := 1, ground := Ground.chain }], guard := none }) rfl (fun K hK => ?_) AllReadyH.nil
        go_simp
        refine (SK.out _ _ orow.rd).mono ?_
        rintro e x5 ⟨ra, rn, rc, rfl, rrow, bX⟩
        have hN := hN.below bX
        have orow := orow.later bX
        refine hK.out _ _ (hH.later bX) (fun hH => ?_)
        refine wpAnyH_take (i := 5) (oi := { dst := some 28, op := Op.move (Operand.tmp 33), type := 32, pos := "outright.go:98", after := #[{ on := 4, ground := Ground.data }], guard := none }) (v := .tuple #[csV ans.2.1, .slice ra rn rc, .int .i64 ans.1]) rfl (by kernel_rfl) (by kernel_rfl) (by kernel_rfl) (fun _ _ _ h => h) (Or.inl ⟨by rfl, fun w' h => by go_simp⟩) hH ?_
        try simp only [Act.put, List.setIfInBounds_toArray, List.set_cons_zero, List.set_cons_succ]
        refine wpAnyH_take (i := 6) (oi := { dst := some 34, op := Op.extract (Operand.tmp 28) 0, type := 29, pos := "outright.go:98", after := #[{ on := 5, ground := Ground.data }], guard := none }) (v := csV ans.2.1) rfl (by kernel_rfl) (by kernel_rfl) (by kernel_rfl) (fun _ _ _ h => h) (Or.inl ⟨by rfl, fun w' h => by go_simp⟩) hH ?_
        try simp only [Act.put, List.setIfInBounds_toArray, List.set_cons_zero, List.set_cons_succ]
        refine wpAnyH_take (i := 7) (oi := { dst := some 35, op := Op.extract (Operand.tmp 28) 1, type := 22, pos := "outright.go:98", after := #[{ on := 5, ground := Ground.data }, { on := 10, ground := Ground.gcOnly Departure.lateStores }], guard := none }) (v := .slice ra rn rc) rfl (by kernel_rfl) (by kernel_rfl) (by kernel_rfl) (fun _ _ _ h => h) (Or.inl ⟨by rfl, fun w' h => by go_simp⟩) hH ?_
        try simp only [Act.put, List.setIfInBounds_toArray, List.set_cons_zero, List.set_cons_succ]
        refine wpAnyH_take (i := 8) (oi := { dst := some 36, op := Op.extract (Operand.tmp 28) 2, type := 31, pos := "outright.go:98", after := #[{ on := 5, ground := Ground.data }, { on := 11, ground := Ground.gcOnly Departure.lateStores }], guard := none }) (v := .int .i64 ans.1) rfl (by kernel_rfl) (by kernel_rfl) (by kernel_rfl) (fun _ _ _ h => h) (Or.inl ⟨by rfl, fun w' h => by go_simp⟩) hH ?_
        try simp only [Act.put, List.setIfInBounds_toArray, List.set_cons_zero, List.set_cons_succ]
        refine wpAnyH_ready (rs := [10]) (by kernel_rfl) (by simp) ?_
        refine AllReadyH.cons (o := { dst := none, op := Op.store 29 (Operand.tmp 9) (Operand.tmp 34), type := 0, pos := "outright.go:98", after := #[{ on := 9, ground := Ground.data }, { on := 6, ground := Ground.data }, { on := 4, ground := Ground.chain }, { on := 0, ground := Ground.phase }, { on := 1, ground := Ground.phase }, { on := 2, ground := Ground.phase }, { on := 3, ground := Ground.phase }, { on := 4, ground := Ground.phase }, { on := 5, ground := Ground.phase }, { on := 6, ground := Ground.phase }, { on := 7, ground := Ground.textOnly Departure.lateStores }, { on := 8, ground := Ground.textOnly Departure.lateStores }, { on := 9, ground := Ground.phase }], guard := none }) rfl (fun K hK => ?_) AllReadyH.nil
        refine op_putC (zs := csL ⟨0, false, 0, 0, 0, 0, 0, 0, 0, 0, 0, 0, 0, 0, 0⟩) (csL ans.2.1) rfl (sizeCsL _) (csL_one _) rfl _ _ rfl _ rfl rfl hN ?_
        intro w9 b9 g9
        have PX : Hid (PD w l s ev c CB ans.2.1 _ w9) := ⟨hH.grown g9 hG, b9⟩
        refine hK.out _ _ PX.out.pc (fun hH => ?_)
        simp only [Act.put]
        refine wpAnyH_take (i := 11) (oi := { dst := some 10, op := Op.assign (Operand.tmp 35), type := 22, pos := "outright.go:98", after := #[{ on := 7, ground := Ground.data }, { on := 10, ground := Ground.chain }, { on := 0, ground := Ground.phase }, { on := 1, ground := Ground.phase }, { on := 2, ground := Ground.phase }, { on := 3, ground := Ground.phase }, { on := 4, ground := Ground.phase }, { on := 5, ground := Ground.phase }, { on := 6, ground := Ground.phase }, { on := 7, ground := Ground.phase }, { on := 8, ground := Ground.textOnly Departure.lateStores }, { on := 9, ground := Ground.phase }, { on := 10, ground := Ground.phase }], guard := none }) (v := .slice ra rn rc) rfl (by kernel_rfl) (by kernel_rfl) (by kernel_rfl) (fun _ _ _ h => h) (Or.inl ⟨by rfl, fun w' h => by go_simp⟩) hH ?_
        try simp only [Act.put, List.setIfInBounds_toArray, List.set_cons_zero, List.set_cons_succ]
        refine wpAnyH_take (i := 12) (oi := { dst := some 11, op := Op.assign (Operand.tmp 36), type := 31, pos := "outright.go:98", after := #[{ on := 8, ground := Ground.data }, { on := 11, ground := Ground.chain }, { on := 0, ground := Ground.phase }, { on := 1, ground := Ground.phase }, { on := 2, ground := Ground.phase }, { on := 3, ground := Ground.phase }, { on := 4, ground := Ground.phase }, { on := 5, ground := Ground.phase }, { on := 6, ground := Ground.phase }, { on := 7, ground := Ground.phase }, { on := 8, ground := Ground.phase }, { on := 9, ground := Ground.phase }, { on := 10, ground := Ground.phase }, { on := 11, ground := Ground.phase }], guard := none }) (v := .int .i64 ans.1) rfl (by kernel_rfl) (by kernel_rfl) (by kernel_rfl) (fun _ _ _ h => h) (Or.inl ⟨by rfl, fun w' h => by go_simp⟩) hH ?_
        try simp only [Act.put, List.setIfInBounds_toArray, List.set_cons_zero, List.set_cons_succ]
        refine wpAnyH_done (by kernel_rfl) ?_ _
        clear hH hK b9 g9 hN
        go_wp2_with fail
        go_meet
        case rel => exact ⟨_, rfl, ⟨_, _, _, rfl⟩, rfl, PX⟩
    case rest =>
      obtain ⟨G, rfl, ⟨ra, rn, rc, rfl⟩, rfl, SX⟩ := hcut
      clear S7
      obtain ⟨f1, f2, f3⟩ := AA.out
      have F1 : Hid (ans.1 = 0 → opn ans.2.1 = true → opn c = false → ev.k = 1 ∧ ans.2.1.pr = 0 ∧ ans.2.1.si = ev.t ∧ ans.2.1.dl = wrap64 (ev.t + l.getD 3 0) ∧ ans.2.1.cy = wrap64 (c.cy + 1)) := f1
      have F2 : Hid (ans.1 = 0 → opn ans.2.1 = true → opn c = true → ans.2.1.cy = c.cy ∧ ans.2.1.si = c.si ∧ ¬ wrap64 (c.dl + wrap64 (wrap64 (l.getD 9 0 - c.pr) * l.getD 10 0)) < wrap64 (ans.2.1.dl + wrap64 (wrap64 (l.getD 9 0 - ans.2.1.pr) * l.getD 10 0)) ∧ decide (l.getD 9 0 < ans.2.1.pr) = false) := f2
      have F3 : Hid (ans.1 = 0 → opn ans.2.1 = true → ev.k = 1 → decide (ev.t < ans.2.1.dl) = true) := f3
      clear f1 f2 f3 AA
      by_cases h0 : ans.1 = 0
      · have d0 : (ans.1 != 0) = false := by simp [h0]
        go_wp2_with ((with_reducible refine at_loadG 29 ?_); refine step_loadG rfl 29 _ rfl (G) 0 rfl (csL ans.2.1) _ (Blk.all SX.out.d) Try.underlying29 rfl (sizeCsL _) ?_)
        refine (O1.out ans.2.1 _).mono ?_
        cases hp : opn ans.2.1
        · rintro e x1 ⟨rfl, bX⟩
          have Y1 : Hid (PD w l s ev c CB ans.2.1 G x1) := SX.out.later bX
          clear bX
          go_wp2_with fail
          go_ret
          exact ⟨rfl, Y1.out.pc.bb⟩
        · rintro e x1 ⟨rfl, bX⟩
          have Y1 : Hid (PD w l s ev c CB ans.2.1 G x1) := SX.out.later bX
          clear bX
          go_wp2_with ((with_reducible refine at_loadT 29 ?_); refine step_load rfl 29 _ rfl (CB) 0 rfl (csL c) _ (Blk.all Y1.out.pc.c) Try.underlying29 rfl (sizeCsL _) ?_)
          refine (O1.out c _).mono ?_
          cases hq : opn c
          · rintro e x2 ⟨rfl, bX⟩
            have Y2 : Hid (PD w l s ev c CB ans.2.1 G x2) := Y1.out.later bX
            clear bX
            obtain ⟨n1, n2, n3, n4, n5⟩ := F1.out h0 hp hq
            have d5 : x2.cell? ⟨G, 5, none⟩ = some (.int .i64 0) := by rw [← n2]; exact Y2.out.d.cell 5 _ rfl
            have d3 : x2.cell? ⟨G, 3, none⟩ = some (.int .i64 ev.t) := by rw [← n3]; exact Y2.out.d.cell 3 _ rfl
            have d4 : x2.cell? ⟨G, 4, none⟩ = some (.int .i64 (wrap64 (ev.t + l.getD 3 0))) := by rw [← n4]; exact Y2.out.d.cell 4 _ rfl
            have d2 : x2.cell? ⟨G, 2, none⟩ = some (.int .i64 (wrap64 (c.cy + 1))) := by rw [← n5]; exact Y2.out.d.cell 2 _ rfl
            have c2 : x2.cell? ⟨CB, 2, none⟩ = some (.int .i64 c.cy) := Y2.out.pc.c.cell 2 _ rfl
            have e0 : x2.cell? ⟨w.heap.size + 1, 0, none⟩ = some (.int .i64 1) := by rw [← n1]; exact Y2.out.pc.e.cell 0 _ rfl
            have e1 : x2.cell? ⟨w.heap.size + 1, 1, none⟩ = some (.int .i64 ev.t) := Y2.out.pc.e.cell 1 _ rfl
            have p3 : x2.cell? ⟨w.heap.size, 3, none⟩ = some (.int .i64 (l.getD 3 0)) := Y2.out.pc.p.cell 3 _ (polL_at HL.out 3 (by decide))
            clear n1 n2 n3 n4 n5 h0
            generalize l.getD 3 0 = CO at *
            go_wp2_with fail
            go_ret
            exact ⟨rfl, Y2.out.pc.bb⟩
          · rintro e x2 ⟨rfl, bX⟩
            have Y2 : Hid (PD w l s ev c CB ans.2.1 G x2) := Y1.out.later bX
            clear bX
            obtain ⟨n1, n2, n3, n4⟩ := F2.out h0 hp hq
            have N1 : Hid (ans.2.1.cy = c.cy) := n1
            have N2 : Hid (ans.2.1.si = c.si) := n2
            have G3 : Hid (ev.k = 1 → decide (ev.t < ans.2.1.dl) = true) := F3.out h0 hp
            have AD : Hid (∀ w', Calls Try.prog 17 #[PV l s, csV ans.2.1] w' fun e w'' => e = .returned (.int .i64 (wrap64 (ans.2.1.dl + wrap64 (wrap64 (l.getD 9 0 - ans.2.1.pr) * l.getD 10 0)))) ∧ Below w'.heap.size w' w'') := fun w' => ahead_at l s ans.2.1 w' HL.out
            have AC : Hid (∀ w', Calls Try.prog 17 #[PV l s, csV c] w' fun e w'' => e = .returned (.int .i64 (wrap64 (c.dl + wrap64 (wrap64 (l.getD 9 0 - c.pr) * l.getD 10 0)))) ∧ Below w'.heap.size w' w'') := fun w' => ahead_at l s c w' HL.out
            have PN : Hid (∀ w', PD w l s ev c CB ans.2.1 G w' → w'.cell? ⟨w.heap.size, 9, none⟩ = some (.int .i64 (l.getD 9 0))) := fun w' h => h.pc.p.cell 9 _ (polL_at HL.out 9 (by decide))
            generalize wrap64 (ans.2.1.dl + wrap64 (wrap64 (l.getD 9 0 - ans.2.1.pr) * l.getD 10 0)) = XD at *
            generalize wrap64 (c.dl + wrap64 (wrap64 (l.getD 9 0 - c.pr) * l.getD 10 0)) = XC at *
            clear F1 F2 F3 n1 n2
            generalize l.getD 9 0 = P9 at *
            go_upto_region 12 with fail
            go_cut [108] from 13 to 118 (fun v wx => v = .bool false ∧ Hid (PD w l s ev c CB ans.2.1 G wx))
            case first =>
              have hu := Try.underlying24
              have hi := SZ.out
              have hu2 := Try.underlying29
              have hi2 := sizeCsL c
              have hi4 := sizeCsL ans.2.1
              refine wp_region_held_drew (S := fun w' => PD w l s ev c CB ans.2.1 G w') (by kernel_rfl) (Y2.out.drew) (fun hH => ?_)
              refine wpAnyH_take (i := 0) (oi := { dst := some 81, op := Op.fieldAddr 29 (Operand.tmp 9) 2, type := 0, pos := "outright.go:106", after := #[], guard := none }) (v := .pointer (some ⟨G, 2, none⟩)) rfl (by kernel_rfl) (by kernel_rfl) (by kernel_rfl) (fun _ _ _ h => h) (Or.inl ⟨by rfl, fun w' h => by go_simp⟩) hH ?_
              try simp only [Act.put, List.setIfInBounds_toArray, List.set_cons_zero, List.set_cons_succ]
              refine wpAnyH_take (i := 1) (oi := { dst := some 82, op := Op.load 3 (Operand.tmp 81), type := 3, pos := "outright.go:106", after := #[{ on := 0, ground := Ground.data }], guard := none }) (v := .int .i64 c.cy) rfl (by kernel_rfl) (by kernel_rfl) (by kernel_rfl) (fun _ _ _ h => h) (Or.inl ⟨by rfl, fun w' h => by have q : w'.cell? ⟨G, 2, none⟩ = some (.int .i64 c.cy) := (by rw [← N1.out]; exact h.d.cell 2 _ rfl); go_simp⟩) hH ?_
              try simp only [Act.put, List.setIfInBounds_toArray, List.set_cons_zero, List.set_cons_succ]
              refine wpAnyH_take (i := 2) (oi := { dst := some 83, op := Op.fieldAddr 29 (Operand.tmp 7) 2, type := 0, pos := "outright.go:106", after := #[], guard := none }) (v := .pointer (some ⟨CB, 2, none⟩)) rfl (by kernel_rfl) (by kernel_rfl) (by kernel_rfl) (fun _ _ _ h => h) (Or.inl ⟨by rfl, fun w' h => by go_simp⟩) hH ?_
              try simp only [Act.put, List.setIfInBounds_toArray, List.set_cons_zero, List.set_cons_succ]
              refine wpAnyH_take (i := 3) (oi := { dst := some 84, op := Op.load 3 (Operand.tmp 83), type := 3, pos := "outright.go:106", after := #[{ on := 2, ground := Ground.data }], guard := none }) (v := .int .i64 c.cy) rfl (by kernel_rfl) (by kernel_rfl) (by kernel_rfl) (fun _ _ _ h => h) (Or.inl ⟨by rfl, fun w' h => by have q : w'.cell? ⟨CB, 2, none⟩ = some (.int .i64 c.cy) := h.pc.c.cell 2 _ rfl; go_simp⟩) hH ?_
              try simp only [Act.put, List.setIfInBounds_toArray, List.set_cons_zero, List.set_cons_succ]
              refine wpAnyH_take (i := 4) (oi := { dst := some 85, op := Op.binOp BinOp.neq 3 (Operand.tmp 82) (Operand.tmp 84) 3, type := 4, pos := "outright.go:106", after := #[{ on := 1, ground := Ground.data }, { on := 3, ground := Ground.data }], guard := none }) (v := .bool false) rfl (by kernel_rfl) (by kernel_rfl) (by kernel_rfl) (fun _ _ _ h => h) (Or.inl ⟨by rfl, fun w' h => by go_simp⟩) hH ?_
              try simp only [Act.put, List.setIfInBounds_toArray, List.set_cons_zero, List.set_cons_succ]
              refine wpAnyH_take (i := 5) (oi := { dst := some 86, op := Op.move (Operand.tmp 85), type := 4, pos := "outright.go:106", after := #[{ on := 4, ground := Ground.data }], guard := none }) (v := .bool false) rfl (by kernel_rfl) (by kernel_rfl) (by kernel_rfl) (fun _ _ _ h => h) (Or.inl ⟨by rfl, fun w' h => by go_simp⟩) hH ?_
              try simp only [Act.put, List.setIfInBounds_toArray, List.set_cons_zero, List.set_cons_succ]
              refine wpAnyH_take (i := 6) (oi := { dst := some 87, op := Op.fieldAddr 29 (Operand.tmp 9) 3, type := 0, pos := "outright.go:106", after := #[{ on := 5, ground := Ground.guard }], guard := some (5, false) }) (v := .pointer (some ⟨G, 3, none⟩)) rfl (by kernel_rfl) (by kernel_rfl) (by kernel_rfl) (fun _ _ _ h => h) (Or.inl ⟨by rfl, fun w' h => by go_simp⟩) hH ?_
              try simp only [Act.put, List.setIfInBounds_toArray, List.set_cons_zero, List.set_cons_succ]
              refine wpAnyH_take (i := 7) (oi := { dst := some 88, op := Op.load 3 (Operand.tmp 87), type := 3, pos := "outright.go:106", after := #[{ on := 6, ground := Ground.data }, { on := 5, ground := Ground.guard }], guard := some (5, false) }) (v := .int .i64 c.si) rfl (by kernel_rfl) (by kernel_rfl) (by kernel_rfl) (fun _ _ _ h => h) (Or.inl ⟨by rfl, fun w' h => by have q : w'.cell? ⟨G, 3, none⟩ = some (.int .i64 c.si) := (by rw [← N2.out]; exact h.d.cell 3 _ rfl); go_simp⟩) hH ?_
              try simp only [Act.put, List.setIfInBounds_toArray, List.set_cons_zero, List.set_cons_succ]
              refine wpAnyH_take (i := 8) (oi := { dst := some 89, op := Op.fieldAddr 29 (Operand.tmp 7) 3, type := 0, pos := "outright.go:106", after := #[{ on := 5, ground := Ground.guard }], guard := some (5, false) }) (v := .pointer (some ⟨CB, 3, none⟩)) rfl (by kernel_rfl) (by kernel_rfl) (by kernel_rfl) (fun _ _ _ h => h) (Or.inl ⟨by rfl, fun w' h => by go_simp⟩) hH ?_
              try simp only [Act.put, List.setIfInBounds_toArray, List.set_cons_zero, List.set_cons_succ]
              refine wpAnyH_take (i := 9) (oi := { dst := some 90, op := Op.load 3 (Operand.tmp 89), type := 3, pos := "outright.go:106", after := #[{ on := 8, ground := Ground.data }, { on := 5, ground := Ground.guard }], guard := some (5, false) }) (v := .int .i64 c.si) rfl (by kernel_rfl) (by kernel_rfl) (by kernel_rfl) (fun _ _ _ h => h) (Or.inl ⟨by rfl, fun w' h => by have q : w'.cell? ⟨CB, 3, none⟩ = some (.int .i64 c.si) := h.pc.c.cell 3 _ rfl; go_simp⟩) hH ?_
              try simp only [Act.put, List.setIfInBounds_toArray, List.set_cons_zero, List.set_cons_succ]
              refine wpAnyH_take (i := 10) (oi := { dst := some 91, op := Op.binOp BinOp.neq 3 (Operand.tmp 88) (Operand.tmp 90) 3, type := 4, pos := "outright.go:106", after := #[{ on := 7, ground := Ground.data }, { on := 9, ground := Ground.data }, { on := 5, ground := Ground.guard }], guard := some (5, false) }) (v := .bool false) rfl (by kernel_rfl) (by kernel_rfl) (by kernel_rfl) (fun _ _ _ h => h) (Or.inl ⟨by rfl, fun w' h => by go_simp⟩) hH ?_
              try simp only [Act.put, List.setIfInBounds_toArray, List.set_cons_zero, List.set_cons_succ]
              refine wpAnyH_take (i := 11) (oi := { dst := some 92, op := Op.pick (Operand.tmp 86) (Operand.const (Value.bool true)) (Operand.tmp 91), type := 4, pos := "outright.go:106", after := #[{ on := 5, ground := Ground.data }, { on := 10, ground := Ground.data }], guard := none }) (v := .bool false) rfl (by kernel_rfl) (by kernel_rfl) (by kernel_rfl) (fun _ _ _ h => h) (Or.inl ⟨by rfl, fun w' h => by go_simp⟩) hH ?_
              try simp only [Act.put, List.setIfInBounds_toArray, List.set_cons_zero, List.set_cons_succ]
              refine wpAnyH_take (i := 12) (oi := { dst := some 93, op := Op.move (Operand.tmp 92), type := 4, pos := "outright.go:106", after := #[{ on := 11, ground := Ground.data }, { on := 5, ground := Ground.chain }], guard := none }) (v := .bool false) rfl (by kernel_rfl) (by kernel_rfl) (by kernel_rfl) (fun _ _ _ h => h) (Or.inl ⟨by rfl, fun w' h => by go_simp⟩) hH ?_
              try simp only [Act.put, List.setIfInBounds_toArray, List.set_cons_zero, List.set_cons_succ]
              refine wpAnyH_take (i := 13) (oi := { dst := some 94, op := Op.load 24 (Operand.tmp 3), type := 24, pos := "outright.go:106", after := #[{ on := 12, ground := Ground.guard }], guard := some (12, false) }) (v := .agg (polL l s).toArray) rfl (by kernel_rfl) (by kernel_rfl) (by kernel_rfl) (fun _ _ _ h => h) (yieldsIf_load_mid (by rfl) _ _ rfl w.heap.size 0 rfl (polL l s) _ (fun w' h => h.pc.p.all) hu rfl hi) hH ?_
              try simp only [Act.put, List.setIfInBounds_toArray, List.set_cons_zero, List.set_cons_succ]
              refine wpAnyH_take (i := 14) (oi := { dst := some 95, op := Op.load 29 (Operand.tmp 9), type := 29, pos := "outright.go:106", after := #[{ on := 12, ground := Ground.guard }], guard := some (12, false) }) (v := .agg (csL ans.2.1).toArray) rfl (by kernel_rfl) (by kernel_rfl) (by kernel_rfl) (fun _ _ _ h => h) (yieldsIf_load_mid (by rfl) _ _ rfl G 0 rfl (csL ans.2.1) _ (fun w' h => h.d.all) hu2 rfl hi4) hH ?_
              try simp only [Act.put, List.setIfInBounds_toArray, List.set_cons_zero, List.set_cons_succ]
              refine wpAnyH_take (i := 16) (oi := { dst := some 97, op := Op.load 24 (Operand.tmp 3), type := 24, pos := "outright.go:106", after := #[{ on := 12, ground := Ground.guard }], guard := some (12, false) }) (v := .agg (polL l s).toArray) rfl (by kernel_rfl) (by kernel_rfl) (by kernel_rfl) (fun _ _ _ h => h) (yieldsIf_load_mid (by rfl) _ _ rfl w.heap.size 0 rfl (polL l s) _ (fun w' h => h.pc.p.all) hu rfl hi) hH ?_
              try simp only [Act.put, List.setIfInBounds_toArray, List.set_cons_zero, List.set_cons_succ]
              refine wpAnyH_take (i := 17) (oi := { dst := some 98, op := Op.load 29 (Operand.tmp 7), type := 29, pos := "outright.go:106", after := #[{ on := 12, ground := Ground.guard }], guard := some (12, false) }) (v := .agg (csL c).toArray) rfl (by kernel_rfl) (by kernel_rfl) (by kernel_rfl) (fun _ _ _ h => h) (yieldsIf_load_mid (by rfl) _ _ rfl CB 0 rfl (csL c) _ (fun w' h => h.pc.c.all) hu2 rfl hi2) hH ?_
              try simp only [Act.put, List.setIfInBounds_toArray, List.set_cons_zero, List.set_cons_succ]
              refine wpAnyH_ready (rs := [15]) (by kernel_rfl) (by simp) ?_
              refine AllReadyH.cons (o := { dst := some 96, op := Op.call { callee := Callee.value (Operand.func 17), args := #[Operand.tmp 94, Operand.tmp 95], argTypes := #[24, 29] }, type := 3, pos := "outright.go:106", after := #[{ on := 13, ground := Ground.data }, { on := 14, ground := Ground.data }, { on := 12, ground := Ground.chain }, { on := 12, ground := Ground.guard }], guard := some (12, false) }) rfl (fun K hK => ?_) AllReadyH.nil
              go_simp
              refine (AD.out _).mono ?_
              rintro e x1 ⟨rfl, bX⟩
              refine hK.out _ _ (hH.later bX) (fun hH => ?_)
              refine wpAnyH_ready (rs := [18]) (by kernel_rfl) (by simp) ?_
              refine AllReadyH.cons (o := { dst := some 99, op := Op.call { callee := Callee.value (Operand.func 17), args := #[Operand.tmp 97, Operand.tmp 98], argTypes := #[24, 29] }, type := 3, pos := "outright.go:106", after := #[{ on := 16, ground := Ground.data }, { on := 17, ground := Ground.data }, { on := 15, ground := Ground.chain }, { on := 12, ground := Ground.guard }], guard := some (12, false) }) rfl (fun K hK => ?_) AllReadyH.nil
              go_simp
              refine (AC.out _).mono ?_
              rintro e x2 ⟨rfl, bX⟩
              refine hK.out _ _ (hH.later bX) (fun hH => ?_)
              refine wpAnyH_take (i := 19) (oi := { dst := some 100, op := Op.binOp BinOp.gtr 3 (Operand.tmp 96) (Operand.tmp 99) 3, type := 4, pos := "outright.go:106", after := #[{ on := 15, ground := Ground.data }, { on := 18, ground := Ground.data }, { on := 12, ground := Ground.guard }], guard := some (12, false) }) (v := .bool false) rfl (by kernel_rfl) (by kernel_rfl) (by kernel_rfl) (fun _ _ _ h => h) (Or.inl ⟨by rfl, fun w' h => by go_simp⟩) hH ?_
              try simp only [Act.put, List.setIfInBounds_toArray, List.set_cons_zero, List.set_cons_succ]
              refine wpAnyH_take (i := 20) (oi := { dst := some 101, op := Op.pick (Operand.tmp 93) (Operand.const (Value.bool true)) (Operand.tmp 100), type := 4, pos := "outright.go:106", after := #[{ on := 12, ground := Ground.data }, { on := 19, ground := Ground.data }], guard := none }) (v := .bool false) rfl (by kernel_rfl) (by kernel_rfl) (by kernel_rfl) (fun _ _ _ h => h) (Or.inl ⟨by rfl, fun w' h => by go_simp⟩) hH ?_
              try simp only [Act.put, List.setIfInBounds_toArray, List.set_cons_zero, List.set_cons_succ]
              refine wpAnyH_take (i := 21) (oi := { dst := some 102, op := Op.move (Operand.tmp 101), type := 4, pos := "outright.go:106", after := #[{ on := 20, ground := Ground.data }, { on := 18, ground := Ground.chain }], guard := none }) (v := .bool false) rfl (by kernel_rfl) (by kernel_rfl) (by kernel_rfl) (fun _ _ _ h => h) (Or.inl ⟨by rfl, fun w' h => by go_simp⟩) hH ?_
              try simp only [Act.put, List.setIfInBounds_toArray, List.set_cons_zero, List.set_cons_succ]
              refine wpAnyH_take (i := 22) (oi := { dst := some 103, op := Op.fieldAddr 29 (Operand.tmp 9) 5, type := 0, pos := "outright.go:106", after := #[{ on := 21, ground := Ground.guard }], guard := some (21, false) }) (v := .pointer (some ⟨G, 5, none⟩)) rfl (by kernel_rfl) (by kernel_rfl) (by kernel_rfl) (fun _ _ _ h => h) (Or.inl ⟨by rfl, fun w' h => by go_simp⟩) hH ?_
              try simp only [Act.put, List.setIfInBounds_toArray, List.set_cons_zero, List.set_cons_succ]
              refine wpAnyH_take (i := 23) (oi := { dst := some 104, op := Op.load 3 (Operand.tmp 103), type := 3, pos := "outright.go:106", after := #[{ on := 22, ground := Ground.data }, { on := 21, ground := Ground.guard }], guard := some (21, false) }) (v := .int .i64 ans.2.1.pr) rfl (by kernel_rfl) (by kernel_rfl) (by kernel_rfl) (fun _ _ _ h => h) (Or.inl ⟨by rfl, fun w' h => by have q : w'.cell? ⟨G, 5, none⟩ = some (.int .i64 ans.2.1.pr) := h.d.cell 5 _ rfl; go_simp⟩) hH ?_
              try simp only [Act.put, List.setIfInBounds_toArray, List.set_cons_zero, List.set_cons_succ]
              refine wpAnyH_take (i := 24) (oi := { dst := some 105, op := Op.fieldAddr 24 (Operand.tmp 3) 9, type := 0, pos := "outright.go:106", after := #[{ on := 21, ground := Ground.guard }], guard := some (21, false) }) (v := .pointer (some ⟨w.heap.size, 9, none⟩)) rfl (by kernel_rfl) (by kernel_rfl) (by kernel_rfl) (fun _ _ _ h => h) (Or.inl ⟨by rfl, fun w' h => by go_simp⟩) hH ?_
              try simp only [Act.put, List.setIfInBounds_toArray, List.set_cons_zero, List.set_cons_succ]
              refine wpAnyH_take (i := 25) (oi := { dst := some 106, op := Op.load 3 (Operand.tmp 105), type := 3, pos := "outright.go:106", after := #[{ on := 24, ground := Ground.data }, { on := 21, ground := Ground.guard }], guard := some (21, false) }) (v := .int .i64 P9) rfl (by kernel_rfl) (by kernel_rfl) (by kernel_rfl) (fun _ _ _ h => h) (Or.inl ⟨by rfl, fun w' h => by have q := PN.out _ h; go_simp⟩) hH ?_
              try simp only [Act.put, List.setIfInBounds_toArray, List.set_cons_zero, List.set_cons_succ]
              refine wpAnyH_take (i := 26) (oi := { dst := some 107, op := Op.binOp BinOp.gtr 3 (Operand.tmp 104) (Operand.tmp 106) 3, type := 4, pos := "outright.go:106", after := #[{ on := 23, ground := Ground.data }, { on := 25, ground := Ground.data }, { on := 21, ground := Ground.guard }], guard := some (21, false) }) (v := .bool false) rfl (by kernel_rfl) (by kernel_rfl) (by kernel_rfl) (fun _ _ _ h => h) (Or.inl ⟨by rfl, fun w' h => by go_simp⟩) hH ?_
              try simp only [Act.put, List.setIfInBounds_toArray, List.set_cons_zero, List.set_cons_succ]
              refine wpAnyH_take (i := 27) (oi := { dst := some 108, op := Op.pick (Operand.tmp 102) (Operand.const (Value.bool true)) (Operand.tmp 107), type := 4, pos := "outright.go:106", after := #[{ on := 21, ground := Ground.data }, { on := 26, ground := Ground.data }], guard := none }) (v := .bool false) rfl (by kernel_rfl) (by kernel_rfl) (by kernel_rfl) (fun _ _ _ h => h) (Or.inl ⟨by rfl, fun w' h => by go_simp⟩) hH ?_
              try simp only [Act.put, List.setIfInBounds_toArray, List.set_cons_zero, List.set_cons_succ]
              refine wpAnyH_done (by kernel_rfl) ?_ _
              have SZ9 : Hid _ := hH
              clear hH hK
              go_wp2_with fail
              go_meet
              case rel => exact ⟨rfl, SZ9⟩
            case rest =>
              obtain ⟨rfl, Y3⟩ := hcut
              have e0 : wc.cell? ⟨w.heap.size + 1, 0, none⟩ = some (.int .i64 ev.k) := Y3.out.pc.e.cell 0 _ rfl
              have e1 : wc.cell? ⟨w.heap.size + 1, 1, none⟩ = some (.int .i64 ev.t) := Y3.out.pc.e.cell 1 _ rfl
              have d4 : wc.cell? ⟨G, 4, none⟩ = some (.int .i64 ans.2.1.dl) := Y3.out.d.cell 4 _ rfl
              clear Y2
              by_cases k1 : ev.k = 1
              · have q1 : (ev.k != 1) = false := by simp [k1]
                have z1 := G3.out k1
                clear k1
                go_wp2_with fail
                go_ret
                exact ⟨rfl, Y3.out.pc.bb⟩
              · have q1 : (ev.k != 1) = true := by simpa using k1
                clear k1
                go_wp2_with fail
                go_ret
                exact ⟨rfl, Y3.out.pc.bb⟩
      · have d0 : (ans.1 != 0) = true := by simpa using h0
        clear h0
        go_wp2_with fail
        go_ret
        exact ⟨rfl, SX.out.pc.bb⟩
end Go.Proofs.Ytmhjghaipfijdab
