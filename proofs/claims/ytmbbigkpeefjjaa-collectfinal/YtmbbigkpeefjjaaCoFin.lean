/-
  Ours: the walk of CollectFinal (gen_colaw.py: THE SEAT's OWN NUMBERS).
-/
import Derived.Test.YtmbbigkpeefjjaaCoZ0
import Derived.Test.YtmbbigkpeefjjaaCoEq
namespace Go.Proofs.Ytmbbigkpeefjjaa
open Go.RowKit LedM PolM CoM

namespace CoM
def shutC : Cs := ⟨9, false, 0, 0, 0, 0, 0, 0, 0, 0, 0, 0, 0, 0, 0⟩
theorem fresh_shut {l hs : List Int} (hg : good l hs = true) : stepA l hs fresh ⟨7, 0, 0, 0⟩ = (0, (shutC, [8])) := by
  have e : stepM l hs fresh ⟨7, 0, 0, 0⟩ = (0, (shutC, [8])) := by unfold stepM; rw [if_pos hg]; rfl
  unfold stepA; rw [e, if_pos rfl]
theorem over_nz {l : List Int} {c : Cs} {e : Ev} (ho : ovr c = true) : (ruleR l e (c, [])).1 ≠ 0 := by
  have z1 : (130 : Int) ≠ 0 := by decide
  have z2 : (2 : Int) ≠ 0 := by decide
  have z4 : (4 : Int) ≠ 0 := by decide
  unfold ruleR ageR paidR retR proR resR feeR shutR
  simp only [ho, if_true]
  repeat' split
  all_goals first | exact z1 | exact z2 | exact z4
theorem over_no {l hs : List Int} {c : Cs} (hg : good l hs = true) (ho : ovr c = true) (e : Ev) : ∃ n, n ≠ 0 ∧ stepA l hs c e = (n, (c, [])) := by
  have h : (stepM l hs c e).1 ≠ 0 := by unfold stepM; rw [if_pos hg]; exact over_nz ho
  exact ⟨_, h, by unfold stepA; rw [if_neg h]⟩
theorem over_age {l hs : List Int} {c : Cs} (hg : good l hs = true) (ho : ovr c = true) : stepA l hs c ⟨1, 1, 0, 0⟩ = (130, (c, [])) := by
  have e : stepM l hs c ⟨1, 1, 0, 0⟩ = (130, (c, [])) := by
    unfold stepM ruleR ageR
    rw [if_pos hg, if_pos rfl, if_neg (by decide), if_pos ho]
  unfold stepA; rw [e, if_neg (show ¬ (130 : Int) = 0 by decide)]
theorem over_paid {l hs : List Int} {c : Cs} (hg : good l hs = true) (ho : ovr c = true) : stepA l hs c ⟨2, 0, 0, 1⟩ = (130, (c, [])) := by
  have e : stepM l hs c ⟨2, 0, 0, 1⟩ = (130, (c, [])) := by
    unfold stepM ruleR paidR
    rw [if_pos hg, if_neg (by decide), if_pos rfl, if_neg (by decide), if_neg (by decide), if_pos ho]
  unfold stepA; rw [e, if_neg (show ¬ (130 : Int) = 0 by decide)]
end CoM
/-- A policy's box, an event's, the cases bs in blocks, and all that was there. -/
structure ZM (w : World) (l : List Int) (s : Value) (MB : Nat) (ev : Ev) (bs : List (Nat × Cs)) (w' : World) : Prop where
  p : Blk w.heap.size 24 (polL l s) w'
  m : Blk MB 35 (evL ev) w'
  bb : Below w.heap.size w w'
  b : ∀ x ∈ bs, Blk x.1 28 (csL x.2) w'
  gm : w.heap.size < MB
  gt : ∀ x ∈ bs, MB < x.1
section
variable {w w1 w2 : World} {l : List Int} {s : Value} {MB : Nat} {ev : Ev} {bs : List (Nat × Cs)} {G : Nat} {c c' d : Cs} {zs : List Value}
theorem ZM.later (h : ZM w l s MB ev bs w1) (hb : Below w1.heap.size w1 w2) : ZM w l s MB ev bs w2 := ⟨h.p.below hb, h.m.below hb, below_trans h.bb hb, fun x hx => (h.b x hx).below hb, h.gm, h.gt⟩
theorem ZM.drew (h : ZM w l s MB ev bs w1) : ZM w l s MB ev bs w1.drew := ⟨h.p, h.m, Below.drew h.bb, h.b, h.gm, h.gt⟩
theorem ZM.lts (h : ZM w l s MB ev bs w1) : ∀ x ∈ bs, x.1 < w1.heap.size := fun x hx => (h.b x hx).lt
theorem ZM.grown (h : ZM w l s MB ev bs w1) (_hN : Blk G 28 zs w1) (g : w1.grownBy w2 (some G)) (hG : ∀ x ∈ bs, x.1 < G) (hp : MB < G) : ZM w l s MB ev bs w2 := by
  have := h.gm
  exact ⟨h.p.grown g (fun e => by injection e with e; omega), h.m.grown g (fun e => by injection e with e; omega), below_row h.bb g (by omega), fun x hx => (h.b x hx).grown g (fun e => by injection e with e; have := hG x hx; omega), h.gm, h.gt⟩
theorem ZM.addB (h : ZM w l s MB ev bs w1) (nb : Blk G 28 (csL d) w1) (hp : MB < G) : ZM w l s MB ev ((G, d) :: bs) w1 :=
  ⟨h.p, h.m, h.bb, fun x hx => by rcases List.mem_cons.1 hx with rfl | hx; (exact nb); exact h.b x hx, h.gm, fun x hx => by rcases List.mem_cons.1 hx with rfl | hx; (exact hp); exact h.gt x hx⟩
theorem ZM.put (h : ZM w l s MB ev ((G, c) :: bs) w1) (nb : Blk G 28 (csL c') w2) (g : w1.grownBy w2 (some G)) (hn : ∀ x ∈ bs, x.1 ≠ G) : ZM w l s MB ev ((G, c') :: bs) w2 := by
  have hp : MB < G := h.gt (G, c) (by simp)
  have hm := h.gm
  refine ⟨h.p.grown g (fun e => by injection e with e; omega), h.m.grown g (fun e => by injection e with e; omega), below_row h.bb g (by omega), fun x hx => ?_, h.gm, fun x hx => ?_⟩
  · rcases List.mem_cons.1 hx with rfl | hx
    · exact nb
    · exact (h.b x (List.mem_cons_of_mem _ hx)).grown g (fun e => by injection e with e; exact hn x hx e.symm)
  · rcases List.mem_cons.1 hx with rfl | hx
    · exact hp
    · exact h.gt x (List.mem_cons_of_mem _ hx)
theorem ZM.putM (h : ZM w l s MB ev bs w1) (j : Int) : ZM w l s MB { ev with k := j } bs (w1.setCell ⟨MB, 0, none⟩ (.int .i64 j)) := by
  have hm := h.gm
  have g := setCell_grown w1 MB 0 (.int .i64 j)
  refine ⟨h.p.grown g (fun e => by injection e with e; omega), ?_, below_row h.bb g (by omega), fun x hx => (h.b x hx).grown g (fun e => by injection e with e; have := h.gt x hx; omega), h.gm, h.gt⟩
  have := h.m.set (i := 0) (.int .i64 j)
  exact this
theorem ZM.sub {bs' : List (Nat × Cs)} (h : ZM w l s MB ev bs w1) (hb : ∀ x ∈ bs', x ∈ bs) : ZM w l s MB ev bs' w1 := ⟨h.p, h.m, h.bb, fun x hx => h.b x (hb x hx), h.gm, fun x hx => h.gt x (hb x hx)⟩
end
theorem op_loadC {P : Program} {ops : Array Oper} {op : Oper} {a : Act} {wr : World} {K : Act → World → Prop} {Q : Exit → Act → World → Prop} {E : Prop} (hgd : op.guard = none) (ty : TypeId) (x : Operand) (ho : op.op = .load ty x)
    (G o : Nat) (hx : a.eval x = .pointer (some ⟨G, o, none⟩)) (cs : List Value) (d : TypeDesc) (hc : wr.rangeAt G o cs)
    (hu : P.underlying ty = some d) (hd : d.isRow = true) (hi : (P.info? ty).map (·.size) = some cs.length)
    (h : K (a.put op.dst (.agg cs.toArray)) wr) : if Region.wanted op (yielded ops a.tmps) = true then Oper.wp P op a wr K Q else E := by
  have hwd : Region.wanted op (yielded ops a.tmps) = true := by simp [Region.wanted, hgd]
  rw [if_pos hwd]
  exact wp_load_mid ty x ho G o hx cs d hc hu hd hi h
theorem rd_oneF (w : World) (x : Int) : Rd (w.alloc (.cells #[.int .i64 x] 3)) (.slice (some ⟨w.heap.size, 0, none⟩) 1 1) (bkL [x]) := by
  refine ⟨_, _, rfl, Nat.le_refl _, (fun h => by cases h), fun i hi => ?_⟩
  obtain rfl : i = 0 := by simpa [bkL] using hi
  exact ⟨_, _, rfl, by simp, (Blk.new 3 [.int .i64 x] w).cell 0 _ rfl⟩
theorem below_transF {w w1 w2 : World} (h : Below w.heap.size w w1) (h' : Below w1.heap.size w1 w2) : Below w.heap.size w w2 := below_trans h h'
set_option maxRecDepth 20000 in
set_option maxHeartbeats 16000000 in
theorem final_any (l hs : List Int) (s v : Value) (es : List Ev) (w : World) (hl : l.length = 17) (hr : Rd w s (bkL hs)) (hb : hs.length * 8 ≤ 140737488355328) (er : RdV w v es) (hE : es.length ≤ 4398046511104) (e0 : Ev) :
    Calls Try.prog 6 #[PV l s, v, evV e0] w fun e w' => e = .returned (.bool true) ∧ Below w.heap.size w w' := by
  show Calls _ _ #[.agg (polL l s).toArray, _, .agg (evL e0).toArray] _ _
  have OW : Hid (∀ w', Below w.heap.size w w' → Calls Try.prog 13 #[PV l s] w' (OwnAns l hs w')) := fun w' h => own_at l hs s w' hl (hr.later h) hb
  have FR : Hid (∀ w', Calls Try.prog 11 #[] w' fun e w'' => e = .returned (csV fresh) ∧ Below w'.heap.size w' w'') := fresh_at
  have MY : Hid (∀ w', Below w.heap.size w w' → Calls Try.prog 9 #[PV l s] w' fun e w'' => e = .returned (.bool (good l hs)) ∧ Below w'.heap.size w' w'') := fun w' h => mayc_at l hs s w' hl (hr.later h) (by omega)
  have OP : Hid (good l hs = true → ∀ w', Below w.heap.size w w' → Calls Try.prog 10 #[PV l s] w' fun e w'' => e = .returned (.bool true) ∧ Below w'.heap.size w' w'') := fun hg w' h => opens_at l hs s w' hl (hr.later h) hb hg
  have ST : Hid (∀ c ev s' w', Rd w' s' (bkL hs) → Calls Try.prog 12 #[PV l s', csV c, evV ev] w' (StepAns (stepA l hs c ev) w')) := fun c ev s' w' h => step_at l hs s' c ev w' hl h (by omega)
  have SZ : Hid ((Try.prog.info? 24).map (·.size) = some (polL l s).length) := by show _ = _; rw [polL_len hl]; exact sizeP
  have S0 : Hid (ZM w l s (w.heap.size + 1) e0 [] ((w.alloc (.cells (polL l s).toArray 24)).alloc (.cells (evL e0).toArray 35))) := ⟨(Blk.new _ _ _).below (below_alloc _ _), Blk.new2 _ _ _ _, below_trans (below_alloc _ _) (below_alloc _ _), by simp, by omega, by simp⟩
  have HL : Hid (l.length = 17) := hl
  have ER : Hid (RdV w v es) := er
  have SM : Hid (∀ (L : List Int) v v' w', L.length ≤ 1152921504606846976 → Rd w' v (bkL L) → Rd w' v' (bkL L) → Calls Try.prog 15 #[v, v'] w' fun e w'' => e = .returned (.bool true) ∧ Below w'.heap.size w' w'') := fun L v v' w' hb h h' => same_at L v v' w' h h' hb
  have LT : Hid (∀ t d w', Calls Try.prog 16 #[.int .i64 t, .int .i64 d] w' fun e w'' => e = .returned (evV ⟨1, t, d, 0⟩) ∧ Below w'.heap.size w' w'') := late_at
  have SKF : Hid (good l hs = true → ∀ s' w', Rd w' s' (bkL hs) → Calls Try.prog 12 #[PV l s', csV fresh, evV ⟨7, 0, 0, 0⟩] w' (StepAns (0, (shutC, [8])) w')) := fun hg s' w' h => by have x := ST.out fresh ⟨7, 0, 0, 0⟩ s' w' h; rw [fresh_shut hg] at x; exact x
  obtain ⟨ao, cap, rfl, hcap, hno, er'⟩ := er
  have EC : Hid (∀ k, k < es.length → ∃ g o, ao = some ⟨g, o, none⟩ ∧ g < w.heap.size ∧ w.rangeAt g (o + k * 4) (evL (eN es k))) := er'
  clear hl hr hb er' ER hno OP
  generalize es.length = N at *
  cases hg : good l hs
  · go_enter Try.func6, Try.ntmps6
    go_upto_region 1 with fail
    generalize (w.alloc (.cells (polL l s).toArray 24)).alloc (.cells (evL e0).toArray 35) = w0 at *
    obtain ⟨MB, hMB⟩ : ∃ MB, w.heap.size + 1 = MB := ⟨_, rfl⟩
    rw [hMB] at S0
    rw [hMB]
    clear hMB
    go_wp2_with ((with_reducible refine at_loadT 24 ?_); refine step_load rfl 24 _ rfl w.heap.size 0 rfl (polL l s) _ (Blk.all S0.out.p) Try.underlying24 rfl SZ.out ?_)
    refine (MY.out _ S0.out.bb).mono ?_
    rw [hg]
    rintro e w1 ⟨rfl, bX⟩
    have S1 : Hid (ZM w l s MB e0 [] w1) := S0.out.later bX
    clear bX S0
    go_wp2_with fail
    go_ret
    exact ⟨rfl, S1.out.bb⟩
  · have SKF : Hid _ := SKF.out hg
    go_enter Try.func6, Try.ntmps6
    go_upto_region 1 with fail
    generalize (w.alloc (.cells (polL l s).toArray 24)).alloc (.cells (evL e0).toArray 35) = w0 at *
    obtain ⟨MB, hMB⟩ : ∃ MB, w.heap.size + 1 = MB := ⟨_, rfl⟩
    rw [hMB] at S0
    rw [hMB]
    clear hMB
    go_wp2_with ((with_reducible refine at_loadT 24 ?_); refine step_load rfl 24 _ rfl w.heap.size 0 rfl (polL l s) _ (Blk.all S0.out.p) Try.underlying24 rfl SZ.out ?_)
    refine (MY.out _ S0.out.bb).mono ?_
    rw [hg]
    rintro e w1 ⟨rfl, bX⟩
    have S1 : Hid (ZM w l s MB e0 [] w1) := S0.out.later bX
    clear bX S0
    go_wp2_with ((with_reducible refine at_loadT 24 ?_); refine step_load rfl 24 _ rfl w.heap.size 0 rfl (polL l s) _ (Blk.all S1.out.p) Try.underlying24 rfl SZ.out ?_)
    refine (OW.out _ S1.out.bb).mono ?_
    rintro e x1 ⟨oa, on, oc, rfl, orow, bX⟩
    have T1 : Hid (ZM w l s MB e0 [] x1) := S1.out.later bX
    have O1 : Hid (Rd x1 (.slice oa on oc) (bkL hs)) := orow.rd
    clear bX orow S1
    go_wp2_with fail
    refine (FR.out _).mono ?_
    rintro e x2 ⟨rfl, bX⟩
    have T2 : Hid (ZM w l s MB e0 [] x2) := T1.out.later bX
    have O2 : Hid (Rd x2 (.slice oa on oc) (bkL hs)) := O1.out.later bX
    clear bX T1 O1
    go_wp2_with fail
    refine (SKF.out _ _ O2.out).mono ?_
    rintro e x3 ⟨ra, rn, rc, rfl, rrow, bX⟩
    have T3 : Hid (ZM w l s MB e0 [] x3) := T2.out.later bX
    have RR : Hid (RowV 3 x2.heap.size x3 (.slice ra rn rc) (bkL [8])) := rrow
    clear bX T2 O2 rrow
    have NZ : Hid (Blk x3.heap.size 28 (csL ⟨0, false, 0, 0, 0, 0, 0, 0, 0, 0, 0, 0, 0, 0, 0⟩) (x3.alloc (.cells #[.int .i64 0, .bool false, .int .i64 0, .int .i64 0, .int .i64 0, .int .i64 0, .int .i64 0, .int .i64 0, .int .i64 0, .int .i64 0, .int .i64 0, .int .i64 0, .int .i64 0, .int .i64 0, .int .i64 0] 28))) := Blk.new _ _ _
    go_upto_region 4 with ((with_reducible refine at_store ?_); refine step_store rfl 28 _ _ rfl x3.heap.size 0 28 (csL ⟨0, false, 0, 0, 0, 0, 0, 0, 0, 0, 0, 0, 0, 0, 0⟩) (csL shutC) rfl rfl NZ.out (Nat.le_refl 15) (sizeCsL _) (csL_one _) ?_; intro x4 n4 g4)
    have S4 : Hid (ZM w l s MB e0 [(x3.heap.size, shutC)] x4) := ((T3.out.later (below_alloc _ _)).grown NZ.out g4 (by simp) T3.out.m.lt).addB n4 T3.out.m.lt
    have R4 : Hid (Rd x4 (.slice ra rn rc) (bkL [8])) := (rowV_blk (RR.out.later (below_alloc _ _)) NZ.out g4 (by decide)).rd
    clear n4 g4 NZ T3 RR
    obtain ⟨CB, hCB⟩ : ∃ CB, x3.heap.size = CB := ⟨_, rfl⟩
    rw [hCB] at S4
    rw [hCB]
    clear hCB
    have g0 : x4.cell? ⟨CB, 0, none⟩ = some (.int .i64 9) := (S4.out.b (CB, shutC) (by simp)).cell 0 _ rfl
    go_wp2_with fail
    refine (SM.out [8] _ _ _ (by simp) (R4.out.later (below_alloc _ _)) (rd_oneF _ _)).mono ?_
    rintro e x5 ⟨rfl, bX⟩
    have S5 : Hid (ZM w l s MB e0 [(CB, shutC)] x5) := S4.out.later (below_transF (below_alloc _ _) bX)
    clear bX S4 R4 g0 SKF
    go_wp2_with fail
    go_loopw [10, 11, 12, 13, 14, 15, 16, 17, 18, 19, 20] (fun v10 _ _ _ _ _ _ _ _ _ _ wr => ∃ (k : Nat) (c : Cs) (ev : Ev), v10 = .int .i64 (k : Int) ∧ k ≤ N + 1 ∧ Hid (ZM w l s MB ev [(CB, c)] wr)) (fun v10 _ _ _ _ _ _ _ _ _ _ _ => N + 1 - (intOf v10).toNat)
    case atStart => exact ⟨0, shutC, e0, rfl, by omega, S5⟩
    case round =>
      clear S5
      obtain ⟨k, c, ev, rfl, hk, SR⟩ := hrel
      by_cases hlt : (k : Int) ≤ (N : Int)
      · have c0 : wr.cell? ⟨CB, 0, none⟩ = some (.int .i64 c.st) := (SR.out.b (CB, c) (by simp)).cell 0 _ rfl
        go_upto_region 9 with fail
        go_cut [59] from 46 to 129 (fun v59 wx => v59 = .bool (ovr c) ∧ Hid (ZM w l s MB ev [(CB, c)] wx))
        case first =>
          by_cases h9 : c.st = 9
          · have hv : ovr c = true := by simp [ovr, h9]
            have HV : Hid (ovr c = true) := hv
            have d9 : (c.st == 9) = true := by simpa using h9
            clear h9 hv
            go_wp2_with fail
            go_meet
            case rel => exact ⟨by rw [HV.out], SR⟩
          · by_cases h8 : c.st = 8
            · have hv : ovr c = true := by simp [ovr, h8]
              have HV : Hid (ovr c = true) := hv
              have d9 : (c.st == 9) = false := by simpa using h9
              have d8 : (c.st == 8) = true := by simpa using h8
              clear h9 h8 hv
              go_wp2_with fail
              go_meet
              case rel => exact ⟨by rw [HV.out], SR⟩
            · have hv : ovr c = false := by simp [ovr, h9, h8]
              have HV : Hid (ovr c = false) := hv
              have d9 : (c.st == 9) = false := by simpa using h9
              have d8 : (c.st == 8) = false := by simpa using h8
              clear h9 h8 hv
              go_wp2_with fail
              go_meet
              case rel => exact ⟨by rw [HV.out], SR⟩
        case rest =>
          obtain ⟨rfl, S9⟩ := hcut
          clear SR c0
          go_upto_if 59 with fail
          go_cut [11, 12, 13, 14, 15, 16, 17, 18, 19, 20] from 46 to 129 (fun _ _ _ _ _ _ _ _ _ _ wx => ∃ ev', Hid (ZM w l s MB ev' [(CB, c)] wx))
          case first =>
            cases ho : ovr c
            · go_wp2_with fail
              go_meet
              case rel => exact ⟨ev, S9⟩
            · have OV : Hid (∀ e, ∃ n, n ≠ 0 ∧ stepA l hs c e = (n, (c, []))) := fun e => over_no hg ho e
              have SKA : Hid (∀ s' w', Rd w' s' (bkL hs) → Calls Try.prog 12 #[PV l s', csV c, evV ⟨1, 1, 0, 0⟩] w' (StepAns (130, (c, [])) w')) := fun s' w' h => by have x := ST.out c ⟨1, 1, 0, 0⟩ s' w' h; rw [over_age hg ho] at x; exact x
              have SKB : Hid (∀ s' w', Rd w' s' (bkL hs) → Calls Try.prog 12 #[PV l s', csV c, evV ⟨2, 0, 0, 1⟩] w' (StepAns (130, (c, [])) w')) := fun s' w' h => by have x := ST.out c ⟨2, 0, 0, 1⟩ s' w' h; rw [over_paid hg ho] at x; exact x
              go_wp2_with fail
              go_loopw [11, 12, 13, 14] (fun v11 _ _ _ wr => ∃ (j : Nat) (ev : Ev), v11 = .int .i64 (j : Int) ∧ j ≤ 9 ∧ Hid (ZM w l s MB ev [(CB, c)] wr)) (fun v11 _ _ _ _ => 9 - (intOf v11).toNat)
              case atStart => exact ⟨0, ev, rfl, by omega, S9⟩
              case round =>
                clear S9
                clear ev
                obtain ⟨j, ev, rfl, hj9, SR⟩ := hrel
                by_cases hj : (j : Int) ≤ 8
                · have m0 : wr.cell? ⟨MB, 0, none⟩ = some (.int .i64 ev.k) := SR.out.m.cell 0 _ rfl
                  have f0 := SR.out.m.fz 0
                  have lt0 := SR.out.m.lt
                  go_upto_region 14 with fail
                  have S13 : Hid (ZM w l s MB { ev with k := (j : Int) } [(CB, c)] (wr.setCell ⟨MB, 0, none⟩ (.int .i64 (j : Int)))) := SR.out.putM (j : Int)
                  clear SR m0 f0 lt0
                  generalize wr.setCell ⟨MB, 0, none⟩ (.int .i64 (j : Int)) = wz at *
                  generalize ({ ev with k := (j : Int) } : Ev) = ez at *
                  clear ev
                  obtain ⟨n, hn, hx⟩ := OV.out ez
                  have SKn : Hid (∀ s' w', Rd w' s' (bkL hs) → Calls Try.prog 12 #[PV l s', csV c, evV ez] w' (StepAns (n, (c, [])) w')) := fun s' w' h => by have x := ST.out c ez s' w' h; rw [hx] at x; exact x
                  clear hx
                  have n0 : (n == 0) = false := by simpa using hn
                  clear hn
                  go_upto_region 14 with fail
                  go_cut [12, 13, 14] from 60 to 86 (fun v12 v13 v14 wx => ∃ G ra rc, v12 = .pointer (some ⟨G, 0, none⟩) ∧ v13 = .slice ra 0 rc ∧ v14 = .int .i64 n ∧ Hid (ZM w l s MB ez [(G, c), (CB, c)] wx))
                  case first => as_aux_lemma =>
                    have hu := Try.underlying24
                    have hi := SZ.out
                    have hu2 := Try.underlying28
                    have hu3 := Try.underlying35
                    refine wp_region_held_drew (S := fun w' => ZM w l s MB ez [(CB, c)] w') (by kernel_rfl) (S13.out.drew) (fun hH => ?_)
                    refine wpAnyH_take (i := 0) (oi := { dst := some 67, op := Op.load 24 (Operand.tmp 3), type := 24, pos := "outright.go:154", after := #[], guard := none }) (v := .agg (polL l s).toArray) rfl (by kernel_rfl) (by kernel_rfl) (by kernel_rfl) (fun _ _ _ h => h) (yieldsIf_load_mid (by rfl) _ _ rfl w.heap.size 0 rfl (polL l s) _ (fun w' h => h.p.all) hu rfl hi) hH ?_
                    try simp only [Act.put, List.setIfInBounds_toArray, List.set_cons_zero, List.set_cons_succ]
                    refine wpAnyH_take (i := 2) (oi := { dst := some 69, op := Op.load 28 (Operand.tmp 7), type := 28, pos := "outright.go:154", after := #[], guard := none }) (v := .agg (csL c).toArray) rfl (by kernel_rfl) (by kernel_rfl) (by kernel_rfl) (fun _ _ _ h => h) (yieldsIf_load_mid (by rfl) _ _ rfl CB 0 rfl (csL c) _ (fun w' h => (h.b (CB, c) (by simp)).all) hu2 rfl (sizeCsL c)) hH ?_
                    try simp only [Act.put, List.setIfInBounds_toArray, List.set_cons_zero, List.set_cons_succ]
                    refine wpAnyH_take (i := 3) (oi := { dst := some 70, op := Op.load 35 (Operand.tmp 5), type := 35, pos := "outright.go:154", after := #[], guard := none }) (v := .agg (evL ez).toArray) rfl (by kernel_rfl) (by kernel_rfl) (by kernel_rfl) (fun _ _ _ h => h) (yieldsIf_load_mid (by rfl) _ _ rfl MB 0 rfl (evL ez) _ (fun w' h => h.m.all) hu3 rfl (sizeEvL ez)) hH ?_
                    try simp only [Act.put, List.setIfInBounds_toArray, List.set_cons_zero, List.set_cons_succ]
                    refine wpAnyH_ready (rs := [1, 9]) (by kernel_rfl) (by simp) ?_
                    refine AllReadyH.cons (o := { dst := some 68, op := Op.call { callee := Callee.value (Operand.func 13), args := #[Operand.tmp 67], argTypes := #[24] }, type := 24, pos := "outright.go:154", after := #[{ on := 0, ground := Ground.data }], guard := none }) rfl (fun K hK => ?_) (AllReadyH.cons (o := { dst := some 12, op := Op.alloc 28, type := 0, pos := "outright.go:154", after := #[], guard := none }) rfl (fun K hK => ?_) AllReadyH.nil)
                    · go_simp
                      refine (OW.out _ hH.bb).mono ?_
                      rintro e x1 ⟨oa, on, oc, rfl, orow, bX⟩
                      refine hK.out _ _ (hH.later bX) (fun hH => ?_)
                      refine wpAnyH_ready (rs := [4, 9]) (by kernel_rfl) (by simp) ?_
                      refine AllReadyH.cons (o := { dst := some 71, op := Op.call { callee := Callee.value (Operand.func 12), args := #[Operand.tmp 68, Operand.tmp 69, Operand.tmp 70], argTypes := #[24, 28, 35] }, type := 31, pos := "outright.go:154", after := #[{ on := 1, ground := Ground.data }, { on := 2, ground := Ground.data }, { on := 3, ground := Ground.data }, { on := 1, ground := Ground.chain }], guard := none }) rfl (fun K hK => ?_) (AllReadyH.cons (o := { dst := some 12, op := Op.alloc 28, type := 0, pos := "outright.go:154", after := #[], guard := none }) rfl (fun K hK => ?_) AllReadyH.nil)
                      · go_simp
                        refine (SKn.out _ _ orow.rd).mono ?_
                        rintro e x2 ⟨ra, rn, rc, rfl, rrow, bX⟩
                        have orow := orow.later bX
                        have rn0 : rn = 0 := by
                          obtain ⟨a', c', q, _⟩ := rrow.rd.len
                          injection q with _ q _
                        subst rn0
                        clear rrow
                        refine hK.out _ _ (hH.later bX) (fun hH => ?_)
                        refine wpAnyH_take (i := 5) (oi := { dst := some 66, op := Op.move (Operand.tmp 71), type := 31, pos := "outright.go:154", after := #[{ on := 4, ground := Ground.data }], guard := none }) (v := .tuple #[csV c, .slice ra 0 rc, .int .i64 n]) rfl (by kernel_rfl) (by kernel_rfl) (by kernel_rfl) (fun _ _ _ h => h) (Or.inl ⟨by rfl, fun w' h => by go_simp⟩) hH ?_
                        try simp only [Act.put, List.setIfInBounds_toArray, List.set_cons_zero, List.set_cons_succ]
                        refine wpAnyH_take (i := 6) (oi := { dst := some 72, op := Op.extract (Operand.tmp 66) 0, type := 28, pos := "outright.go:154", after := #[{ on := 5, ground := Ground.data }], guard := none }) (v := csV c) rfl (by kernel_rfl) (by kernel_rfl) (by kernel_rfl) (fun _ _ _ h => h) (Or.inl ⟨by rfl, fun w' h => by go_simp⟩) hH ?_
                        try simp only [Act.put, List.setIfInBounds_toArray, List.set_cons_zero, List.set_cons_succ]
                        refine wpAnyH_take (i := 7) (oi := { dst := some 73, op := Op.extract (Operand.tmp 66) 1, type := 22, pos := "outright.go:154", after := #[{ on := 5, ground := Ground.data }, { on := 10, ground := Ground.gcOnly Departure.lateStores }], guard := none }) (v := .slice ra 0 rc) rfl (by kernel_rfl) (by kernel_rfl) (by kernel_rfl) (fun _ _ _ h => h) (Or.inl ⟨by rfl, fun w' h => by go_simp⟩) hH ?_
                        try simp only [Act.put, List.setIfInBounds_toArray, List.set_cons_zero, List.set_cons_succ]
                        refine wpAnyH_take (i := 8) (oi := { dst := some 74, op := Op.extract (Operand.tmp 66) 2, type := 30, pos := "outright.go:154", after := #[{ on := 5, ground := Ground.data }, { on := 11, ground := Ground.gcOnly Departure.lateStores }], guard := none }) (v := .int .i64 n) rfl (by kernel_rfl) (by kernel_rfl) (by kernel_rfl) (fun _ _ _ h => h) (Or.inl ⟨by rfl, fun w' h => by go_simp⟩) hH ?_
                        try simp only [Act.put, List.setIfInBounds_toArray, List.set_cons_zero, List.set_cons_succ]
                        refine wpAnyH_ready (rs := [9]) (by kernel_rfl) (by simp) ?_
                        refine AllReadyH.cons (o := { dst := some 12, op := Op.alloc 28, type := 0, pos := "outright.go:154", after := #[], guard := none }) rfl (fun K hK => ?_) AllReadyH.nil
                        go_simp
                        have hN : Blk x2.heap.size 28 (csL ⟨0, false, 0, 0, 0, 0, 0, 0, 0, 0, 0, 0, 0, 0, 0⟩) (x2.alloc (.cells #[.int .i64 0, .bool false, .int .i64 0, .int .i64 0, .int .i64 0, .int .i64 0, .int .i64 0, .int .i64 0, .int .i64 0, .int .i64 0, .int .i64 0, .int .i64 0, .int .i64 0, .int .i64 0, .int .i64 0] 28)) := Blk.new _ _ _
                        have hG := hH.lts
                        have hp : MB < x2.heap.size := hH.m.lt
                        have orow := orow.later (below_alloc x2 (.cells #[.int .i64 0, .bool false, .int .i64 0, .int .i64 0, .int .i64 0, .int .i64 0, .int .i64 0, .int .i64 0, .int .i64 0, .int .i64 0, .int .i64 0, .int .i64 0, .int .i64 0, .int .i64 0, .int .i64 0] 28))
                        refine hK.out _ _ (hH.later (below_alloc _ _)) (fun hH => ?_)
                        refine wpAnyH_ready (rs := [10]) (by kernel_rfl) (by simp) ?_
                        refine AllReadyH.cons (o := { dst := none, op := Op.store 28 (Operand.tmp 12) (Operand.tmp 72), type := 0, pos := "outright.go:154", after := #[{ on := 9, ground := Ground.data }, { on := 6, ground := Ground.data }, { on := 4, ground := Ground.chain }, { on := 0, ground := Ground.phase }, { on := 1, ground := Ground.phase }, { on := 2, ground := Ground.phase }, { on := 3, ground := Ground.phase }, { on := 4, ground := Ground.phase }, { on := 5, ground := Ground.phase }, { on := 6, ground := Ground.phase }, { on := 7, ground := Ground.textOnly Departure.lateStores }, { on := 8, ground := Ground.textOnly Departure.lateStores }, { on := 9, ground := Ground.phase }], guard := none }) rfl (fun K hK => ?_) AllReadyH.nil
                        refine op_putC (zs := csL ⟨0, false, 0, 0, 0, 0, 0, 0, 0, 0, 0, 0, 0, 0, 0⟩) (csL c) rfl (sizeCsL _) (csL_one _) rfl _ _ rfl _ rfl rfl hN ?_
                        intro w9 b9 g9
                        have hZ := hH.grown hN g9 hG hp
                        have PX : Hid (ZM w l s MB ez [(_, c), (CB, c)] w9) := hZ.addB b9 hp
                        refine hK.out _ _ hZ (fun hH => ?_)
                        simp only [Act.put]
                        refine wpAnyH_take (i := 11) (oi := { dst := some 13, op := Op.assign (Operand.tmp 73), type := 22, pos := "outright.go:154", after := #[{ on := 7, ground := Ground.data }, { on := 10, ground := Ground.chain }, { on := 0, ground := Ground.phase }, { on := 1, ground := Ground.phase }, { on := 2, ground := Ground.phase }, { on := 3, ground := Ground.phase }, { on := 4, ground := Ground.phase }, { on := 5, ground := Ground.phase }, { on := 6, ground := Ground.phase }, { on := 7, ground := Ground.phase }, { on := 8, ground := Ground.textOnly Departure.lateStores }, { on := 9, ground := Ground.phase }, { on := 10, ground := Ground.phase }], guard := none }) (v := .slice ra 0 rc) rfl (by kernel_rfl) (by kernel_rfl) (by kernel_rfl) (fun _ _ _ h => h) (Or.inl ⟨by rfl, fun w' h => by go_simp⟩) hH ?_
                        try simp only [Act.put, List.setIfInBounds_toArray, List.set_cons_zero, List.set_cons_succ]
                        refine wpAnyH_take (i := 12) (oi := { dst := some 14, op := Op.assign (Operand.tmp 74), type := 30, pos := "outright.go:154", after := #[{ on := 8, ground := Ground.data }, { on := 11, ground := Ground.chain }, { on := 0, ground := Ground.phase }, { on := 1, ground := Ground.phase }, { on := 2, ground := Ground.phase }, { on := 3, ground := Ground.phase }, { on := 4, ground := Ground.phase }, { on := 5, ground := Ground.phase }, { on := 6, ground := Ground.phase }, { on := 7, ground := Ground.phase }, { on := 8, ground := Ground.phase }, { on := 9, ground := Ground.phase }, { on := 10, ground := Ground.phase }, { on := 11, ground := Ground.phase }], guard := none }) (v := .int .i64 n) rfl (by kernel_rfl) (by kernel_rfl) (by kernel_rfl) (fun _ _ _ h => h) (Or.inl ⟨by rfl, fun w' h => by go_simp⟩) hH ?_
                        try simp only [Act.put, List.setIfInBounds_toArray, List.set_cons_zero, List.set_cons_succ]
                        refine wpAnyH_done (by kernel_rfl) ?_ _
                        clear hH hK b9 g9 hN hZ
                        go_wp2_with fail
                        go_meet
                        case rel => exact ⟨_, _, _, rfl, rfl, rfl, PX⟩
                      · go_simp
                        have hN : Blk x1.heap.size 28 (csL ⟨0, false, 0, 0, 0, 0, 0, 0, 0, 0, 0, 0, 0, 0, 0⟩) (x1.alloc (.cells #[.int .i64 0, .bool false, .int .i64 0, .int .i64 0, .int .i64 0, .int .i64 0, .int .i64 0, .int .i64 0, .int .i64 0, .int .i64 0, .int .i64 0, .int .i64 0, .int .i64 0, .int .i64 0, .int .i64 0] 28)) := Blk.new _ _ _
                        have hG := hH.lts
                        have hp : MB < x1.heap.size := hH.m.lt
                        have orow := orow.later (below_alloc x1 (.cells #[.int .i64 0, .bool false, .int .i64 0, .int .i64 0, .int .i64 0, .int .i64 0, .int .i64 0, .int .i64 0, .int .i64 0, .int .i64 0, .int .i64 0, .int .i64 0, .int .i64 0, .int .i64 0, .int .i64 0] 28))
                        refine hK.out _ _ (hH.later (below_alloc _ _)) (fun hH => ?_)
                        refine wpAnyH_ready (rs := [4]) (by kernel_rfl) (by simp) ?_
                        refine AllReadyH.cons (o := { dst := some 71, op := Op.call { callee := Callee.value (Operand.func 12), args := #[Operand.tmp 68, Operand.tmp 69, Operand.tmp 70], argTypes := #[24, 28, 35] }, type := 31, pos := "outright.go:154", after := #[{ on := 1, ground := Ground.data }, { on := 2, ground := Ground.data }, { on := 3, ground := Ground.data }, { on := 1, ground := Ground.chain }], guard := none }) rfl (fun K hK => ?_) AllReadyH.nil
                        go_simp
                        refine (SKn.out _ _ orow.rd).mono ?_
                        rintro e x3 ⟨ra, rn, rc, rfl, rrow, bX⟩
                        have orow := orow.later bX
                        have hN := hN.below bX
                        have rn0 : rn = 0 := by
                          obtain ⟨a', c', q, _⟩ := rrow.rd.len
                          injection q with _ q _
                        subst rn0
                        clear rrow
                        refine hK.out _ _ (hH.later bX) (fun hH => ?_)
                        refine wpAnyH_take (i := 5) (oi := { dst := some 66, op := Op.move (Operand.tmp 71), type := 31, pos := "outright.go:154", after := #[{ on := 4, ground := Ground.data }], guard := none }) (v := .tuple #[csV c, .slice ra 0 rc, .int .i64 n]) rfl (by kernel_rfl) (by kernel_rfl) (by kernel_rfl) (fun _ _ _ h => h) (Or.inl ⟨by rfl, fun w' h => by go_simp⟩) hH ?_
                        try simp only [Act.put, List.setIfInBounds_toArray, List.set_cons_zero, List.set_cons_succ]
                        refine wpAnyH_take (i := 6) (oi := { dst := some 72, op := Op.extract (Operand.tmp 66) 0, type := 28, pos := "outright.go:154", after := #[{ on := 5, ground := Ground.data }], guard := none }) (v := csV c) rfl (by kernel_rfl) (by kernel_rfl) (by kernel_rfl) (fun _ _ _ h => h) (Or.inl ⟨by rfl, fun w' h => by go_simp⟩) hH ?_
                        try simp only [Act.put, List.setIfInBounds_toArray, List.set_cons_zero, List.set_cons_succ]
                        refine wpAnyH_take (i := 7) (oi := { dst := some 73, op := Op.extract (Operand.tmp 66) 1, type := 22, pos := "outright.go:154", after := #[{ on := 5, ground := Ground.data }, { on := 10, ground := Ground.gcOnly Departure.lateStores }], guard := none }) (v := .slice ra 0 rc) rfl (by kernel_rfl) (by kernel_rfl) (by kernel_rfl) (fun _ _ _ h => h) (Or.inl ⟨by rfl, fun w' h => by go_simp⟩) hH ?_
                        try simp only [Act.put, List.setIfInBounds_toArray, List.set_cons_zero, List.set_cons_succ]
                        refine wpAnyH_take (i := 8) (oi := { dst := some 74, op := Op.extract (Operand.tmp 66) 2, type := 30, pos := "outright.go:154", after := #[{ on := 5, ground := Ground.data }, { on := 11, ground := Ground.gcOnly Departure.lateStores }], guard := none }) (v := .int .i64 n) rfl (by kernel_rfl) (by kernel_rfl) (by kernel_rfl) (fun _ _ _ h => h) (Or.inl ⟨by rfl, fun w' h => by go_simp⟩) hH ?_
                        try simp only [Act.put, List.setIfInBounds_toArray, List.set_cons_zero, List.set_cons_succ]
                        refine wpAnyH_ready (rs := [10]) (by kernel_rfl) (by simp) ?_
                        refine AllReadyH.cons (o := { dst := none, op := Op.store 28 (Operand.tmp 12) (Operand.tmp 72), type := 0, pos := "outright.go:154", after := #[{ on := 9, ground := Ground.data }, { on := 6, ground := Ground.data }, { on := 4, ground := Ground.chain }, { on := 0, ground := Ground.phase }, { on := 1, ground := Ground.phase }, { on := 2, ground := Ground.phase }, { on := 3, ground := Ground.phase }, { on := 4, ground := Ground.phase }, { on := 5, ground := Ground.phase }, { on := 6, ground := Ground.phase }, { on := 7, ground := Ground.textOnly Departure.lateStores }, { on := 8, ground := Ground.textOnly Departure.lateStores }, { on := 9, ground := Ground.phase }], guard := none }) rfl (fun K hK => ?_) AllReadyH.nil
                        refine op_putC (zs := csL ⟨0, false, 0, 0, 0, 0, 0, 0, 0, 0, 0, 0, 0, 0, 0⟩) (csL c) rfl (sizeCsL _) (csL_one _) rfl _ _ rfl _ rfl rfl hN ?_
                        intro w9 b9 g9
                        have hZ := hH.grown hN g9 hG hp
                        have PX : Hid (ZM w l s MB ez [(_, c), (CB, c)] w9) := hZ.addB b9 hp
                        refine hK.out _ _ hZ (fun hH => ?_)
                        simp only [Act.put]
                        refine wpAnyH_take (i := 11) (oi := { dst := some 13, op := Op.assign (Operand.tmp 73), type := 22, pos := "outright.go:154", after := #[{ on := 7, ground := Ground.data }, { on := 10, ground := Ground.chain }, { on := 0, ground := Ground.phase }, { on := 1, ground := Ground.phase }, { on := 2, ground := Ground.phase }, { on := 3, ground := Ground.phase }, { on := 4, ground := Ground.phase }, { on := 5, ground := Ground.phase }, { on := 6, ground := Ground.phase }, { on := 7, ground := Ground.phase }, { on := 8, ground := Ground.textOnly Departure.lateStores }, { on := 9, ground := Ground.phase }, { on := 10, ground := Ground.phase }], guard := none }) (v := .slice ra 0 rc) rfl (by kernel_rfl) (by kernel_rfl) (by kernel_rfl) (fun _ _ _ h => h) (Or.inl ⟨by rfl, fun w' h => by go_simp⟩) hH ?_
                        try simp only [Act.put, List.setIfInBounds_toArray, List.set_cons_zero, List.set_cons_succ]
                        refine wpAnyH_take (i := 12) (oi := { dst := some 14, op := Op.assign (Operand.tmp 74), type := 30, pos := "outright.go:154", after := #[{ on := 8, ground := Ground.data }, { on := 11, ground := Ground.chain }, { on := 0, ground := Ground.phase }, { on := 1, ground := Ground.phase }, { on := 2, ground := Ground.phase }, { on := 3, ground := Ground.phase }, { on := 4, ground := Ground.phase }, { on := 5, ground := Ground.phase }, { on := 6, ground := Ground.phase }, { on := 7, ground := Ground.phase }, { on := 8, ground := Ground.phase }, { on := 9, ground := Ground.phase }, { on := 10, ground := Ground.phase }, { on := 11, ground := Ground.phase }], guard := none }) (v := .int .i64 n) rfl (by kernel_rfl) (by kernel_rfl) (by kernel_rfl) (fun _ _ _ h => h) (Or.inl ⟨by rfl, fun w' h => by go_simp⟩) hH ?_
                        try simp only [Act.put, List.setIfInBounds_toArray, List.set_cons_zero, List.set_cons_succ]
                        refine wpAnyH_done (by kernel_rfl) ?_ _
                        clear hH hK b9 g9 hN hZ
                        go_wp2_with fail
                        go_meet
                        case rel => exact ⟨_, _, _, rfl, rfl, rfl, PX⟩
                    · go_simp
                      have hN : Blk wz.drew.heap.size 28 (csL ⟨0, false, 0, 0, 0, 0, 0, 0, 0, 0, 0, 0, 0, 0, 0⟩) (wz.drew.alloc (.cells #[.int .i64 0, .bool false, .int .i64 0, .int .i64 0, .int .i64 0, .int .i64 0, .int .i64 0, .int .i64 0, .int .i64 0, .int .i64 0, .int .i64 0, .int .i64 0, .int .i64 0, .int .i64 0, .int .i64 0] 28)) := Blk.new _ _ _
                      have hG := hH.lts
                      have hp : MB < wz.drew.heap.size := hH.m.lt
                      refine hK.out _ _ (hH.later (below_alloc _ _)) (fun hH => ?_)
                      refine wpAnyH_ready (rs := [1]) (by kernel_rfl) (by simp) ?_
                      refine AllReadyH.cons (o := { dst := some 68, op := Op.call { callee := Callee.value (Operand.func 13), args := #[Operand.tmp 67], argTypes := #[24] }, type := 24, pos := "outright.go:154", after := #[{ on := 0, ground := Ground.data }], guard := none }) rfl (fun K hK => ?_) AllReadyH.nil
                      go_simp
                      refine (OW.out _ hH.bb).mono ?_
                      rintro e x4 ⟨oa, on, oc, rfl, orow, bX⟩
                      have hN := hN.below bX
                      refine hK.out _ _ (hH.later bX) (fun hH => ?_)
                      refine wpAnyH_ready (rs := [4]) (by kernel_rfl) (by simp) ?_
                      refine AllReadyH.cons (o := { dst := some 71, op := Op.call { callee := Callee.value (Operand.func 12), args := #[Operand.tmp 68, Operand.tmp 69, Operand.tmp 70], argTypes := #[24, 28, 35] }, type := 31, pos := "outright.go:154", after := #[{ on := 1, ground := Ground.data }, { on := 2, ground := Ground.data }, { on := 3, ground := Ground.data }, { on := 1, ground := Ground.chain }], guard := none }) rfl (fun K hK => ?_) AllReadyH.nil
                      go_simp
                      refine (SKn.out _ _ orow.rd).mono ?_
                      rintro e x5 ⟨ra, rn, rc, rfl, rrow, bX⟩
                      have hN := hN.below bX
                      have orow := orow.later bX
                      have rn0 : rn = 0 := by
                        obtain ⟨a', c', q, _⟩ := rrow.rd.len
                        injection q with _ q _
                      subst rn0
                      clear rrow
                      refine hK.out _ _ (hH.later bX) (fun hH => ?_)
                      refine wpAnyH_take (i := 5) (oi := { dst := some 66, op := Op.move (Operand.tmp 71), type := 31, pos := "outright.go:154", after := #[{ on := 4, ground := Ground.data }], guard := none }) (v := .tuple #[csV c, .slice ra 0 rc, .int .i64 n]) rfl (by kernel_rfl) (by kernel_rfl) (by kernel_rfl) (fun _ _ _ h => h) (Or.inl ⟨by rfl, fun w' h => by go_simp⟩) hH ?_
                      try simp only [Act.put, List.setIfInBounds_toArray, List.set_cons_zero, List.set_cons_succ]
                      refine wpAnyH_take (i := 6) (oi := { dst := some 72, op := Op.extract (Operand.tmp 66) 0, type := 28, pos := "outright.go:154", after := #[{ on := 5, ground := Ground.data }], guard := none }) (v := csV c) rfl (by kernel_rfl) (by kernel_rfl) (by kernel_rfl) (fun _ _ _ h => h) (Or.inl ⟨by rfl, fun w' h => by go_simp⟩) hH ?_
                      try simp only [Act.put, List.setIfInBounds_toArray, List.set_cons_zero, List.set_cons_succ]
                      refine wpAnyH_take (i := 7) (oi := { dst := some 73, op := Op.extract (Operand.tmp 66) 1, type := 22, pos := "outright.go:154", after := #[{ on := 5, ground := Ground.data }, { on := 10, ground := Ground.gcOnly Departure.lateStores }], guard := none }) (v := .slice ra 0 rc) rfl (by kernel_rfl) (by kernel_rfl) (by kernel_rfl) (fun _ _ _ h => h) (Or.inl ⟨by rfl, fun w' h => by go_simp⟩) hH ?_
                      try simp only [Act.put, List.setIfInBounds_toArray, List.set_cons_zero, List.set_cons_succ]
                      refine wpAnyH_take (i := 8) (oi := { dst := some 74, op := Op.extract (Operand.tmp 66) 2, type := 30, pos := "outright.go:154", after := #[{ on := 5, ground := Ground.data }, { on := 11, ground := Ground.gcOnly Departure.lateStores }], guard := none }) (v := .int .i64 n) rfl (by kernel_rfl) (by kernel_rfl) (by kernel_rfl) (fun _ _ _ h => h) (Or.inl ⟨by rfl, fun w' h => by go_simp⟩) hH ?_
                      try simp only [Act.put, List.setIfInBounds_toArray, List.set_cons_zero, List.set_cons_succ]
                      refine wpAnyH_ready (rs := [10]) (by kernel_rfl) (by simp) ?_
                      refine AllReadyH.cons (o := { dst := none, op := Op.store 28 (Operand.tmp 12) (Operand.tmp 72), type := 0, pos := "outright.go:154", after := #[{ on := 9, ground := Ground.data }, { on := 6, ground := Ground.data }, { on := 4, ground := Ground.chain }, { on := 0, ground := Ground.phase }, { on := 1, ground := Ground.phase }, { on := 2, ground := Ground.phase }, { on := 3, ground := Ground.phase }, { on := 4, ground := Ground.phase }, { on := 5, ground := Ground.phase }, { on := 6, ground := Ground.phase }, { on := 7, ground := Ground.textOnly Departure.lateStores }, { on := 8, ground := Ground.textOnly Departure.lateStores }, { on := 9, ground := Ground.phase }], guard := none }) rfl (fun K hK => ?_) AllReadyH.nil
                      refine op_putC (zs := csL ⟨0, false, 0, 0, 0, 0, 0, 0, 0, 0, 0, 0, 0, 0, 0⟩) (csL c) rfl (sizeCsL _) (csL_one _) rfl _ _ rfl _ rfl rfl hN ?_
                      intro w9 b9 g9
                      have hZ := hH.grown hN g9 hG hp
                      have PX : Hid (ZM w l s MB ez [(_, c), (CB, c)] w9) := hZ.addB b9 hp
                      refine hK.out _ _ hZ (fun hH => ?_)
                      simp only [Act.put]
                      refine wpAnyH_take (i := 11) (oi := { dst := some 13, op := Op.assign (Operand.tmp 73), type := 22, pos := "outright.go:154", after := #[{ on := 7, ground := Ground.data }, { on := 10, ground := Ground.chain }, { on := 0, ground := Ground.phase }, { on := 1, ground := Ground.phase }, { on := 2, ground := Ground.phase }, { on := 3, ground := Ground.phase }, { on := 4, ground := Ground.phase }, { on := 5, ground := Ground.phase }, { on := 6, ground := Ground.phase }, { on := 7, ground := Ground.phase }, { on := 8, ground := Ground.textOnly Departure.lateStores }, { on := 9, ground := Ground.phase }, { on := 10, ground := Ground.phase }], guard := none }) (v := .slice ra 0 rc) rfl (by kernel_rfl) (by kernel_rfl) (by kernel_rfl) (fun _ _ _ h => h) (Or.inl ⟨by rfl, fun w' h => by go_simp⟩) hH ?_
                      try simp only [Act.put, List.setIfInBounds_toArray, List.set_cons_zero, List.set_cons_succ]
                      refine wpAnyH_take (i := 12) (oi := { dst := some 14, op := Op.assign (Operand.tmp 74), type := 30, pos := "outright.go:154", after := #[{ on := 8, ground := Ground.data }, { on := 11, ground := Ground.chain }, { on := 0, ground := Ground.phase }, { on := 1, ground := Ground.phase }, { on := 2, ground := Ground.phase }, { on := 3, ground := Ground.phase }, { on := 4, ground := Ground.phase }, { on := 5, ground := Ground.phase }, { on := 6, ground := Ground.phase }, { on := 7, ground := Ground.phase }, { on := 8, ground := Ground.phase }, { on := 9, ground := Ground.phase }, { on := 10, ground := Ground.phase }, { on := 11, ground := Ground.phase }], guard := none }) (v := .int .i64 n) rfl (by kernel_rfl) (by kernel_rfl) (by kernel_rfl) (fun _ _ _ h => h) (Or.inl ⟨by rfl, fun w' h => by go_simp⟩) hH ?_
                      try simp only [Act.put, List.setIfInBounds_toArray, List.set_cons_zero, List.set_cons_succ]
                      refine wpAnyH_done (by kernel_rfl) ?_ _
                      clear hH hK b9 g9 hN hZ
                      go_wp2_with fail
                      go_meet
                      case rel => exact ⟨_, _, _, rfl, rfl, rfl, PX⟩
                  case rest =>
                    obtain ⟨G, ra, rc, rfl, rfl, rfl, S14⟩ := hcut
                    clear S13 SKn
                    have NQ := cs_neq c
                    go_wp2_with (first
                    | ((with_reducible refine at_loadG 28 ?_); refine step_loadG rfl 28 _ rfl G 0 rfl (csL c) _ (Blk.all (S14.out.b (G, c) (by simp))) Try.underlying28 rfl (sizeCsL _) ?_)
                    | ((with_reducible refine at_loadG 28 ?_); refine step_loadG rfl 28 _ rfl CB 0 rfl (csL c) _ (Blk.all (S14.out.b (CB, c) (by simp))) Try.underlying28 rfl (sizeCsL _) ?_))
                    go_roundw
                    case rel => exact ⟨j + 1, ez, by go_num, by omega, S14.out.sub (by simp)⟩
                    case measure => simp [intOf]; omega
                · obtain rfl : j = 9 := by omega
                  clear hj hj9
                  go_upto_region 17 with fail
                  go_cut [15, 16, 17] from 46 to 129 (fun v15 v16 v17 wx => ∃ G ra rc, v15 = .pointer (some ⟨G, 0, none⟩) ∧ v16 = .slice ra 0 rc ∧ v17 = .int .i64 130 ∧ Hid (ZM w l s MB ev [(G, c), (CB, c)] wx))
                  case first => as_aux_lemma =>
                    have hu := Try.underlying24
                    have hi := SZ.out
                    have hu2 := Try.underlying28
                    have hu3 := Try.underlying35
                    refine wp_region_held_drew (S := fun w' => ZM w l s MB ev [(CB, c)] w') (by kernel_rfl) (SR.out.drew) (fun hH => ?_)
                    refine wpAnyH_take (i := 0) (oi := { dst := some 88, op := Op.load 24 (Operand.tmp 3), type := 24, pos := "outright.go:159", after := #[], guard := none }) (v := .agg (polL l s).toArray) rfl (by kernel_rfl) (by kernel_rfl) (by kernel_rfl) (fun _ _ _ h => h) (yieldsIf_load_mid (by rfl) _ _ rfl w.heap.size 0 rfl (polL l s) _ (fun w' h => h.p.all) hu rfl hi) hH ?_
                    try simp only [Act.put, List.setIfInBounds_toArray, List.set_cons_zero, List.set_cons_succ]
                    refine wpAnyH_take (i := 2) (oi := { dst := some 90, op := Op.load 28 (Operand.tmp 7), type := 28, pos := "outright.go:159", after := #[], guard := none }) (v := .agg (csL c).toArray) rfl (by kernel_rfl) (by kernel_rfl) (by kernel_rfl) (fun _ _ _ h => h) (yieldsIf_load_mid (by rfl) _ _ rfl CB 0 rfl (csL c) _ (fun w' h => (h.b (CB, c) (by simp)).all) hu2 rfl (sizeCsL c)) hH ?_
                    try simp only [Act.put, List.setIfInBounds_toArray, List.set_cons_zero, List.set_cons_succ]
                    refine wpAnyH_ready (rs := [1, 9]) (by kernel_rfl) (by simp) ?_
                    refine AllReadyH.cons (o := { dst := some 89, op := Op.call { callee := Callee.value (Operand.func 13), args := #[Operand.tmp 88], argTypes := #[24] }, type := 24, pos := "outright.go:159", after := #[{ on := 0, ground := Ground.data }], guard := none }) rfl (fun K hK => ?_) (AllReadyH.cons (o := { dst := some 15, op := Op.alloc 28, type := 0, pos := "outright.go:159", after := #[], guard := none }) rfl (fun K hK => ?_) AllReadyH.nil)
                    · go_simp
                      refine (OW.out _ hH.bb).mono ?_
                      rintro e x1 ⟨oa, on, oc, rfl, orow, bX⟩
                      refine hK.out _ _ (hH.later bX) (fun hH => ?_)
                      refine wpAnyH_ready (rs := [3, 9]) (by kernel_rfl) (by simp) ?_
                      refine AllReadyH.cons (o := { dst := some 91, op := Op.call { callee := Callee.value (Operand.func 16), args := #[Operand.const (Value.int IntKind.i64 1), Operand.const (Value.int IntKind.i64 0)], argTypes := #[3, 3] }, type := 35, pos := "outright.go:159", after := #[{ on := 1, ground := Ground.chain }], guard := none }) rfl (fun K hK => ?_) (AllReadyH.cons (o := { dst := some 15, op := Op.alloc 28, type := 0, pos := "outright.go:159", after := #[], guard := none }) rfl (fun K hK => ?_) AllReadyH.nil)
                      · go_simp
                        refine (LT.out _ _ _).mono ?_
                        rintro e x2 ⟨rfl, bX⟩
                        have orow := orow.later bX
                        refine hK.out _ _ (hH.later bX) (fun hH => ?_)
                        refine wpAnyH_ready (rs := [4, 9]) (by kernel_rfl) (by simp) ?_
                        refine AllReadyH.cons (o := { dst := some 92, op := Op.call { callee := Callee.value (Operand.func 12), args := #[Operand.tmp 89, Operand.tmp 90, Operand.tmp 91], argTypes := #[24, 28, 35] }, type := 31, pos := "outright.go:159", after := #[{ on := 1, ground := Ground.data }, { on := 2, ground := Ground.data }, { on := 3, ground := Ground.data }, { on := 3, ground := Ground.chain }], guard := none }) rfl (fun K hK => ?_) (AllReadyH.cons (o := { dst := some 15, op := Op.alloc 28, type := 0, pos := "outright.go:159", after := #[], guard := none }) rfl (fun K hK => ?_) AllReadyH.nil)
                        · go_simp
                          refine (SKA.out _ _ orow.rd).mono ?_
                          rintro e x3 ⟨ra, rn, rc, rfl, rrow, bX⟩
                          have orow := orow.later bX
                          have rn0 : rn = 0 := by
                            obtain ⟨a', c', q, _⟩ := rrow.rd.len
                            injection q with _ q _
                          subst rn0
                          clear rrow
                          refine hK.out _ _ (hH.later bX) (fun hH => ?_)
                          refine wpAnyH_take (i := 5) (oi := { dst := some 87, op := Op.move (Operand.tmp 92), type := 31, pos := "outright.go:159", after := #[{ on := 4, ground := Ground.data }], guard := none }) (v := .tuple #[csV c, .slice ra 0 rc, .int .i64 130]) rfl (by kernel_rfl) (by kernel_rfl) (by kernel_rfl) (fun _ _ _ h => h) (Or.inl ⟨by rfl, fun w' h => by go_simp⟩) hH ?_
                          try simp only [Act.put, List.setIfInBounds_toArray, List.set_cons_zero, List.set_cons_succ]
                          refine wpAnyH_take (i := 6) (oi := { dst := some 93, op := Op.extract (Operand.tmp 87) 0, type := 28, pos := "outright.go:159", after := #[{ on := 5, ground := Ground.data }], guard := none }) (v := csV c) rfl (by kernel_rfl) (by kernel_rfl) (by kernel_rfl) (fun _ _ _ h => h) (Or.inl ⟨by rfl, fun w' h => by go_simp⟩) hH ?_
                          try simp only [Act.put, List.setIfInBounds_toArray, List.set_cons_zero, List.set_cons_succ]
                          refine wpAnyH_take (i := 7) (oi := { dst := some 94, op := Op.extract (Operand.tmp 87) 1, type := 22, pos := "outright.go:159", after := #[{ on := 5, ground := Ground.data }, { on := 10, ground := Ground.gcOnly Departure.lateStores }], guard := none }) (v := .slice ra 0 rc) rfl (by kernel_rfl) (by kernel_rfl) (by kernel_rfl) (fun _ _ _ h => h) (Or.inl ⟨by rfl, fun w' h => by go_simp⟩) hH ?_
                          try simp only [Act.put, List.setIfInBounds_toArray, List.set_cons_zero, List.set_cons_succ]
                          refine wpAnyH_take (i := 8) (oi := { dst := some 95, op := Op.extract (Operand.tmp 87) 2, type := 30, pos := "outright.go:159", after := #[{ on := 5, ground := Ground.data }, { on := 11, ground := Ground.gcOnly Departure.lateStores }], guard := none }) (v := .int .i64 130) rfl (by kernel_rfl) (by kernel_rfl) (by kernel_rfl) (fun _ _ _ h => h) (Or.inl ⟨by rfl, fun w' h => by go_simp⟩) hH ?_
                          try simp only [Act.put, List.setIfInBounds_toArray, List.set_cons_zero, List.set_cons_succ]
                          refine wpAnyH_ready (rs := [9]) (by kernel_rfl) (by simp) ?_
                          refine AllReadyH.cons (o := { dst := some 15, op := Op.alloc 28, type := 0, pos := "outright.go:159", after := #[], guard := none }) rfl (fun K hK => ?_) AllReadyH.nil
                          go_simp
                          have hN : Blk x3.heap.size 28 (csL ⟨0, false, 0, 0, 0, 0, 0, 0, 0, 0, 0, 0, 0, 0, 0⟩) (x3.alloc (.cells #[.int .i64 0, .bool false, .int .i64 0, .int .i64 0, .int .i64 0, .int .i64 0, .int .i64 0, .int .i64 0, .int .i64 0, .int .i64 0, .int .i64 0, .int .i64 0, .int .i64 0, .int .i64 0, .int .i64 0] 28)) := Blk.new _ _ _
                          have hG := hH.lts
                          have hp : MB < x3.heap.size := hH.m.lt
                          have orow := orow.later (below_alloc x3 (.cells #[.int .i64 0, .bool false, .int .i64 0, .int .i64 0, .int .i64 0, .int .i64 0, .int .i64 0, .int .i64 0, .int .i64 0, .int .i64 0, .int .i64 0, .int .i64 0, .int .i64 0, .int .i64 0, .int .i64 0] 28))
                          refine hK.out _ _ (hH.later (below_alloc _ _)) (fun hH => ?_)
                          refine wpAnyH_ready (rs := [10]) (by kernel_rfl) (by simp) ?_
                          refine AllReadyH.cons (o := { dst := none, op := Op.store 28 (Operand.tmp 15) (Operand.tmp 93), type := 0, pos := "outright.go:159", after := #[{ on := 9, ground := Ground.data }, { on := 6, ground := Ground.data }, { on := 4, ground := Ground.chain }, { on := 0, ground := Ground.phase }, { on := 1, ground := Ground.phase }, { on := 2, ground := Ground.phase }, { on := 3, ground := Ground.phase }, { on := 4, ground := Ground.phase }, { on := 5, ground := Ground.phase }, { on := 6, ground := Ground.phase }, { on := 7, ground := Ground.textOnly Departure.lateStores }, { on := 8, ground := Ground.textOnly Departure.lateStores }, { on := 9, ground := Ground.phase }], guard := none }) rfl (fun K hK => ?_) AllReadyH.nil
                          refine op_putC (zs := csL ⟨0, false, 0, 0, 0, 0, 0, 0, 0, 0, 0, 0, 0, 0, 0⟩) (csL c) rfl (sizeCsL _) (csL_one _) rfl _ _ rfl _ rfl rfl hN ?_
                          intro w9 b9 g9
                          have hZ := hH.grown hN g9 hG hp
                          have PX : Hid (ZM w l s MB ev [(_, c), (CB, c)] w9) := hZ.addB b9 hp
                          refine hK.out _ _ hZ (fun hH => ?_)
                          simp only [Act.put]
                          refine wpAnyH_take (i := 11) (oi := { dst := some 16, op := Op.assign (Operand.tmp 94), type := 22, pos := "outright.go:159", after := #[{ on := 7, ground := Ground.data }, { on := 10, ground := Ground.chain }, { on := 0, ground := Ground.phase }, { on := 1, ground := Ground.phase }, { on := 2, ground := Ground.phase }, { on := 3, ground := Ground.phase }, { on := 4, ground := Ground.phase }, { on := 5, ground := Ground.phase }, { on := 6, ground := Ground.phase }, { on := 7, ground := Ground.phase }, { on := 8, ground := Ground.textOnly Departure.lateStores }, { on := 9, ground := Ground.phase }, { on := 10, ground := Ground.phase }], guard := none }) (v := .slice ra 0 rc) rfl (by kernel_rfl) (by kernel_rfl) (by kernel_rfl) (fun _ _ _ h => h) (Or.inl ⟨by rfl, fun w' h => by go_simp⟩) hH ?_
                          try simp only [Act.put, List.setIfInBounds_toArray, List.set_cons_zero, List.set_cons_succ]
                          refine wpAnyH_take (i := 12) (oi := { dst := some 17, op := Op.assign (Operand.tmp 95), type := 30, pos := "outright.go:159", after := #[{ on := 8, ground := Ground.data }, { on := 11, ground := Ground.chain }, { on := 0, ground := Ground.phase }, { on := 1, ground := Ground.phase }, { on := 2, ground := Ground.phase }, { on := 3, ground := Ground.phase }, { on := 4, ground := Ground.phase }, { on := 5, ground := Ground.phase }, { on := 6, ground := Ground.phase }, { on := 7, ground := Ground.phase }, { on := 8, ground := Ground.phase }, { on := 9, ground := Ground.phase }, { on := 10, ground := Ground.phase }, { on := 11, ground := Ground.phase }], guard := none }) (v := .int .i64 130) rfl (by kernel_rfl) (by kernel_rfl) (by kernel_rfl) (fun _ _ _ h => h) (Or.inl ⟨by rfl, fun w' h => by go_simp⟩) hH ?_
                          try simp only [Act.put, List.setIfInBounds_toArray, List.set_cons_zero, List.set_cons_succ]
                          refine wpAnyH_done (by kernel_rfl) ?_ _
                          clear hH hK b9 g9 hN hZ
                          go_wp2_with fail
                          go_meet
                          case rel => exact ⟨_, _, _, rfl, rfl, rfl, PX⟩
                        · go_simp
                          have hN : Blk x2.heap.size 28 (csL ⟨0, false, 0, 0, 0, 0, 0, 0, 0, 0, 0, 0, 0, 0, 0⟩) (x2.alloc (.cells #[.int .i64 0, .bool false, .int .i64 0, .int .i64 0, .int .i64 0, .int .i64 0, .int .i64 0, .int .i64 0, .int .i64 0, .int .i64 0, .int .i64 0, .int .i64 0, .int .i64 0, .int .i64 0, .int .i64 0] 28)) := Blk.new _ _ _
                          have hG := hH.lts
                          have hp : MB < x2.heap.size := hH.m.lt
                          have orow := orow.later (below_alloc x2 (.cells #[.int .i64 0, .bool false, .int .i64 0, .int .i64 0, .int .i64 0, .int .i64 0, .int .i64 0, .int .i64 0, .int .i64 0, .int .i64 0, .int .i64 0, .int .i64 0, .int .i64 0, .int .i64 0, .int .i64 0] 28))
                          refine hK.out _ _ (hH.later (below_alloc _ _)) (fun hH => ?_)
                          refine wpAnyH_ready (rs := [4]) (by kernel_rfl) (by simp) ?_
                          refine AllReadyH.cons (o := { dst := some 92, op := Op.call { callee := Callee.value (Operand.func 12), args := #[Operand.tmp 89, Operand.tmp 90, Operand.tmp 91], argTypes := #[24, 28, 35] }, type := 31, pos := "outright.go:159", after := #[{ on := 1, ground := Ground.data }, { on := 2, ground := Ground.data }, { on := 3, ground := Ground.data }, { on := 3, ground := Ground.chain }], guard := none }) rfl (fun K hK => ?_) AllReadyH.nil
                          go_simp
                          refine (SKA.out _ _ orow.rd).mono ?_
                          rintro e x4 ⟨ra, rn, rc, rfl, rrow, bX⟩
                          have orow := orow.later bX
                          have hN := hN.below bX
                          have rn0 : rn = 0 := by
                            obtain ⟨a', c', q, _⟩ := rrow.rd.len
                            injection q with _ q _
                          subst rn0
                          clear rrow
                          refine hK.out _ _ (hH.later bX) (fun hH => ?_)
                          refine wpAnyH_take (i := 5) (oi := { dst := some 87, op := Op.move (Operand.tmp 92), type := 31, pos := "outright.go:159", after := #[{ on := 4, ground := Ground.data }], guard := none }) (v := .tuple #[csV c, .slice ra 0 rc, .int .i64 130]) rfl (by kernel_rfl) (by kernel_rfl) (by kernel_rfl) (fun _ _ _ h => h) (Or.inl ⟨by rfl, fun w' h => by go_simp⟩) hH ?_
                          try simp only [Act.put, List.setIfInBounds_toArray, List.set_cons_zero, List.set_cons_succ]
                          refine wpAnyH_take (i := 6) (oi := { dst := some 93, op := Op.extract (Operand.tmp 87) 0, type := 28, pos := "outright.go:159", after := #[{ on := 5, ground := Ground.data }], guard := none }) (v := csV c) rfl (by kernel_rfl) (by kernel_rfl) (by kernel_rfl) (fun _ _ _ h => h) (Or.inl ⟨by rfl, fun w' h => by go_simp⟩) hH ?_
                          try simp only [Act.put, List.setIfInBounds_toArray, List.set_cons_zero, List.set_cons_succ]
                          refine wpAnyH_take (i := 7) (oi := { dst := some 94, op := Op.extract (Operand.tmp 87) 1, type := 22, pos := "outright.go:159", after := #[{ on := 5, ground := Ground.data }, { on := 10, ground := Ground.gcOnly Departure.lateStores }], guard := none }) (v := .slice ra 0 rc) rfl (by kernel_rfl) (by kernel_rfl) (by kernel_rfl) (fun _ _ _ h => h) (Or.inl ⟨by rfl, fun w' h => by go_simp⟩) hH ?_
                          try simp only [Act.put, List.setIfInBounds_toArray, List.set_cons_zero, List.set_cons_succ]
                          refine wpAnyH_take (i := 8) (oi := { dst := some 95, op := Op.extract (Operand.tmp 87) 2, type := 30, pos := "outright.go:159", after := #[{ on := 5, ground := Ground.data }, { on := 11, ground := Ground.gcOnly Departure.lateStores }], guard := none }) (v := .int .i64 130) rfl (by kernel_rfl) (by kernel_rfl) (by kernel_rfl) (fun _ _ _ h => h) (Or.inl ⟨by rfl, fun w' h => by go_simp⟩) hH ?_
                          try simp only [Act.put, List.setIfInBounds_toArray, List.set_cons_zero, List.set_cons_succ]
                          refine wpAnyH_ready (rs := [10]) (by kernel_rfl) (by simp) ?_
                          refine AllReadyH.cons (o := { dst := none, op := Op.store 28 (Operand.tmp 15) (Operand.tmp 93), type := 0, pos := "outright.go:159", after := #[{ on := 9, ground := Ground.data }, { on := 6, ground := Ground.data }, { on := 4, ground := Ground.chain }, { on := 0, ground := Ground.phase }, { on := 1, ground := Ground.phase }, { on := 2, ground := Ground.phase }, { on := 3, ground := Ground.phase }, { on := 4, ground := Ground.phase }, { on := 5, ground := Ground.phase }, { on := 6, ground := Ground.phase }, { on := 7, ground := Ground.textOnly Departure.lateStores }, { on := 8, ground := Ground.textOnly Departure.lateStores }, { on := 9, ground := Ground.phase }], guard := none }) rfl (fun K hK => ?_) AllReadyH.nil
                          refine op_putC (zs := csL ⟨0, false, 0, 0, 0, 0, 0, 0, 0, 0, 0, 0, 0, 0, 0⟩) (csL c) rfl (sizeCsL _) (csL_one _) rfl _ _ rfl _ rfl rfl hN ?_
                          intro w9 b9 g9
                          have hZ := hH.grown hN g9 hG hp
                          have PX : Hid (ZM w l s MB ev [(_, c), (CB, c)] w9) := hZ.addB b9 hp
                          refine hK.out _ _ hZ (fun hH => ?_)
                          simp only [Act.put]
                          refine wpAnyH_take (i := 11) (oi := { dst := some 16, op := Op.assign (Operand.tmp 94), type := 22, pos := "outright.go:159", after := #[{ on := 7, ground := Ground.data }, { on := 10, ground := Ground.chain }, { on := 0, ground := Ground.phase }, { on := 1, ground := Ground.phase }, { on := 2, ground := Ground.phase }, { on := 3, ground := Ground.phase }, { on := 4, ground := Ground.phase }, { on := 5, ground := Ground.phase }, { on := 6, ground := Ground.phase }, { on := 7, ground := Ground.phase }, { on := 8, ground := Ground.textOnly Departure.lateStores }, { on := 9, ground := Ground.phase }, { on := 10, ground := Ground.phase }], guard := none }) (v := .slice ra 0 rc) rfl (by kernel_rfl) (by kernel_rfl) (by kernel_rfl) (fun _ _ _ h => h) (Or.inl ⟨by rfl, fun w' h => by go_simp⟩) hH ?_
                          try simp only [Act.put, List.setIfInBounds_toArray, List.set_cons_zero, List.set_cons_succ]
                          refine wpAnyH_take (i := 12) (oi := { dst := some 17, op := Op.assign (Operand.tmp 95), type := 30, pos := "outright.go:159", after := #[{ on := 8, ground := Ground.data }, { on := 11, ground := Ground.chain }, { on := 0, ground := Ground.phase }, { on := 1, ground := Ground.phase }, { on := 2, ground := Ground.phase }, { on := 3, ground := Ground.phase }, { on := 4, ground := Ground.phase }, { on := 5, ground := Ground.phase }, { on := 6, ground := Ground.phase }, { on := 7, ground := Ground.phase }, { on := 8, ground := Ground.phase }, { on := 9, ground := Ground.phase }, { on := 10, ground := Ground.phase }, { on := 11, ground := Ground.phase }], guard := none }) (v := .int .i64 130) rfl (by kernel_rfl) (by kernel_rfl) (by kernel_rfl) (fun _ _ _ h => h) (Or.inl ⟨by rfl, fun w' h => by go_simp⟩) hH ?_
                          try simp only [Act.put, List.setIfInBounds_toArray, List.set_cons_zero, List.set_cons_succ]
                          refine wpAnyH_done (by kernel_rfl) ?_ _
                          clear hH hK b9 g9 hN hZ
                          go_wp2_with fail
                          go_meet
                          case rel => exact ⟨_, _, _, rfl, rfl, rfl, PX⟩
                      · go_simp
                        have hN : Blk x1.heap.size 28 (csL ⟨0, false, 0, 0, 0, 0, 0, 0, 0, 0, 0, 0, 0, 0, 0⟩) (x1.alloc (.cells #[.int .i64 0, .bool false, .int .i64 0, .int .i64 0, .int .i64 0, .int .i64 0, .int .i64 0, .int .i64 0, .int .i64 0, .int .i64 0, .int .i64 0, .int .i64 0, .int .i64 0, .int .i64 0, .int .i64 0] 28)) := Blk.new _ _ _
                        have hG := hH.lts
                        have hp : MB < x1.heap.size := hH.m.lt
                        have orow := orow.later (below_alloc x1 (.cells #[.int .i64 0, .bool false, .int .i64 0, .int .i64 0, .int .i64 0, .int .i64 0, .int .i64 0, .int .i64 0, .int .i64 0, .int .i64 0, .int .i64 0, .int .i64 0, .int .i64 0, .int .i64 0, .int .i64 0] 28))
                        refine hK.out _ _ (hH.later (below_alloc _ _)) (fun hH => ?_)
                        refine wpAnyH_ready (rs := [3]) (by kernel_rfl) (by simp) ?_
                        refine AllReadyH.cons (o := { dst := some 91, op := Op.call { callee := Callee.value (Operand.func 16), args := #[Operand.const (Value.int IntKind.i64 1), Operand.const (Value.int IntKind.i64 0)], argTypes := #[3, 3] }, type := 35, pos := "outright.go:159", after := #[{ on := 1, ground := Ground.chain }], guard := none }) rfl (fun K hK => ?_) AllReadyH.nil
                        go_simp
                        refine (LT.out _ _ _).mono ?_
                        rintro e x5 ⟨rfl, bX⟩
                        have orow := orow.later bX
                        have hN := hN.below bX
                        refine hK.out _ _ (hH.later bX) (fun hH => ?_)
                        refine wpAnyH_ready (rs := [4]) (by kernel_rfl) (by simp) ?_
                        refine AllReadyH.cons (o := { dst := some 92, op := Op.call { callee := Callee.value (Operand.func 12), args := #[Operand.tmp 89, Operand.tmp 90, Operand.tmp 91], argTypes := #[24, 28, 35] }, type := 31, pos := "outright.go:159", after := #[{ on := 1, ground := Ground.data }, { on := 2, ground := Ground.data }, { on := 3, ground := Ground.data }, { on := 3, ground := Ground.chain }], guard := none }) rfl (fun K hK => ?_) AllReadyH.nil
                        go_simp
                        refine (SKA.out _ _ orow.rd).mono ?_
                        rintro e x6 ⟨ra, rn, rc, rfl, rrow, bX⟩
                        have orow := orow.later bX
                        have hN := hN.below bX
                        have rn0 : rn = 0 := by
                          obtain ⟨a', c', q, _⟩ := rrow.rd.len
                          injection q with _ q _
                        subst rn0
                        clear rrow
                        refine hK.out _ _ (hH.later bX) (fun hH => ?_)
                        refine wpAnyH_take (i := 5) (oi := { dst := some 87, op := Op.move (Operand.tmp 92), type := 31, pos := "outright.go:159", after := #[{ on := 4, ground := Ground.data }], guard := none }) (v := .tuple #[csV c, .slice ra 0 rc, .int .i64 130]) rfl (by kernel_rfl) (by kernel_rfl) (by kernel_rfl) (fun _ _ _ h => h) (Or.inl ⟨by rfl, fun w' h => by go_simp⟩) hH ?_
                        try simp only [Act.put, List.setIfInBounds_toArray, List.set_cons_zero, List.set_cons_succ]
                        refine wpAnyH_take (i := 6) (oi := { dst := some 93, op := Op.extract (Operand.tmp 87) 0, type := 28, pos := "outright.go:159", after := #[{ on := 5, ground := Ground.data }], guard := none }) (v := csV c) rfl (by kernel_rfl) (by kernel_rfl) (by kernel_rfl) (fun _ _ _ h => h) (Or.inl ⟨by rfl, fun w' h => by go_simp⟩) hH ?_
                        try simp only [Act.put, List.setIfInBounds_toArray, List.set_cons_zero, List.set_cons_succ]
                        refine wpAnyH_take (i := 7) (oi := { dst := some 94, op := Op.extract (Operand.tmp 87) 1, type := 22, pos := "outright.go:159", after := #[{ on := 5, ground := Ground.data }, { on := 10, ground := Ground.gcOnly Departure.lateStores }], guard := none }) (v := .slice ra 0 rc) rfl (by kernel_rfl) (by kernel_rfl) (by kernel_rfl) (fun _ _ _ h => h) (Or.inl ⟨by rfl, fun w' h => by go_simp⟩) hH ?_
                        try simp only [Act.put, List.setIfInBounds_toArray, List.set_cons_zero, List.set_cons_succ]
                        refine wpAnyH_take (i := 8) (oi := { dst := some 95, op := Op.extract (Operand.tmp 87) 2, type := 30, pos := "outright.go:159", after := #[{ on := 5, ground := Ground.data }, { on := 11, ground := Ground.gcOnly Departure.lateStores }], guard := none }) (v := .int .i64 130) rfl (by kernel_rfl) (by kernel_rfl) (by kernel_rfl) (fun _ _ _ h => h) (Or.inl ⟨by rfl, fun w' h => by go_simp⟩) hH ?_
                        try simp only [Act.put, List.setIfInBounds_toArray, List.set_cons_zero, List.set_cons_succ]
                        refine wpAnyH_ready (rs := [10]) (by kernel_rfl) (by simp) ?_
                        refine AllReadyH.cons (o := { dst := none, op := Op.store 28 (Operand.tmp 15) (Operand.tmp 93), type := 0, pos := "outright.go:159", after := #[{ on := 9, ground := Ground.data }, { on := 6, ground := Ground.data }, { on := 4, ground := Ground.chain }, { on := 0, ground := Ground.phase }, { on := 1, ground := Ground.phase }, { on := 2, ground := Ground.phase }, { on := 3, ground := Ground.phase }, { on := 4, ground := Ground.phase }, { on := 5, ground := Ground.phase }, { on := 6, ground := Ground.phase }, { on := 7, ground := Ground.textOnly Departure.lateStores }, { on := 8, ground := Ground.textOnly Departure.lateStores }, { on := 9, ground := Ground.phase }], guard := none }) rfl (fun K hK => ?_) AllReadyH.nil
                        refine op_putC (zs := csL ⟨0, false, 0, 0, 0, 0, 0, 0, 0, 0, 0, 0, 0, 0, 0⟩) (csL c) rfl (sizeCsL _) (csL_one _) rfl _ _ rfl _ rfl rfl hN ?_
                        intro w9 b9 g9
                        have hZ := hH.grown hN g9 hG hp
                        have PX : Hid (ZM w l s MB ev [(_, c), (CB, c)] w9) := hZ.addB b9 hp
                        refine hK.out _ _ hZ (fun hH => ?_)
                        simp only [Act.put]
                        refine wpAnyH_take (i := 11) (oi := { dst := some 16, op := Op.assign (Operand.tmp 94), type := 22, pos := "outright.go:159", after := #[{ on := 7, ground := Ground.data }, { on := 10, ground := Ground.chain }, { on := 0, ground := Ground.phase }, { on := 1, ground := Ground.phase }, { on := 2, ground := Ground.phase }, { on := 3, ground := Ground.phase }, { on := 4, ground := Ground.phase }, { on := 5, ground := Ground.phase }, { on := 6, ground := Ground.phase }, { on := 7, ground := Ground.phase }, { on := 8, ground := Ground.textOnly Departure.lateStores }, { on := 9, ground := Ground.phase }, { on := 10, ground := Ground.phase }], guard := none }) (v := .slice ra 0 rc) rfl (by kernel_rfl) (by kernel_rfl) (by kernel_rfl) (fun _ _ _ h => h) (Or.inl ⟨by rfl, fun w' h => by go_simp⟩) hH ?_
                        try simp only [Act.put, List.setIfInBounds_toArray, List.set_cons_zero, List.set_cons_succ]
                        refine wpAnyH_take (i := 12) (oi := { dst := some 17, op := Op.assign (Operand.tmp 95), type := 30, pos := "outright.go:159", after := #[{ on := 8, ground := Ground.data }, { on := 11, ground := Ground.chain }, { on := 0, ground := Ground.phase }, { on := 1, ground := Ground.phase }, { on := 2, ground := Ground.phase }, { on := 3, ground := Ground.phase }, { on := 4, ground := Ground.phase }, { on := 5, ground := Ground.phase }, { on := 6, ground := Ground.phase }, { on := 7, ground := Ground.phase }, { on := 8, ground := Ground.phase }, { on := 9, ground := Ground.phase }, { on := 10, ground := Ground.phase }, { on := 11, ground := Ground.phase }], guard := none }) (v := .int .i64 130) rfl (by kernel_rfl) (by kernel_rfl) (by kernel_rfl) (fun _ _ _ h => h) (Or.inl ⟨by rfl, fun w' h => by go_simp⟩) hH ?_
                        try simp only [Act.put, List.setIfInBounds_toArray, List.set_cons_zero, List.set_cons_succ]
                        refine wpAnyH_done (by kernel_rfl) ?_ _
                        clear hH hK b9 g9 hN hZ
                        go_wp2_with fail
                        go_meet
                        case rel => exact ⟨_, _, _, rfl, rfl, rfl, PX⟩
                    · go_simp
                      have hN : Blk wr.drew.heap.size 28 (csL ⟨0, false, 0, 0, 0, 0, 0, 0, 0, 0, 0, 0, 0, 0, 0⟩) (wr.drew.alloc (.cells #[.int .i64 0, .bool false, .int .i64 0, .int .i64 0, .int .i64 0, .int .i64 0, .int .i64 0, .int .i64 0, .int .i64 0, .int .i64 0, .int .i64 0, .int .i64 0, .int .i64 0, .int .i64 0, .int .i64 0] 28)) := Blk.new _ _ _
                      have hG := hH.lts
                      have hp : MB < wr.drew.heap.size := hH.m.lt
                      refine hK.out _ _ (hH.later (below_alloc _ _)) (fun hH => ?_)
                      refine wpAnyH_ready (rs := [1]) (by kernel_rfl) (by simp) ?_
                      refine AllReadyH.cons (o := { dst := some 89, op := Op.call { callee := Callee.value (Operand.func 13), args := #[Operand.tmp 88], argTypes := #[24] }, type := 24, pos := "outright.go:159", after := #[{ on := 0, ground := Ground.data }], guard := none }) rfl (fun K hK => ?_) AllReadyH.nil
                      go_simp
                      refine (OW.out _ hH.bb).mono ?_
                      rintro e x7 ⟨oa, on, oc, rfl, orow, bX⟩
                      have hN := hN.below bX
                      refine hK.out _ _ (hH.later bX) (fun hH => ?_)
                      refine wpAnyH_ready (rs := [3]) (by kernel_rfl) (by simp) ?_
                      refine AllReadyH.cons (o := { dst := some 91, op := Op.call { callee := Callee.value (Operand.func 16), args := #[Operand.const (Value.int IntKind.i64 1), Operand.const (Value.int IntKind.i64 0)], argTypes := #[3, 3] }, type := 35, pos := "outright.go:159", after := #[{ on := 1, ground := Ground.chain }], guard := none }) rfl (fun K hK => ?_) AllReadyH.nil
                      go_simp
                      refine (LT.out _ _ _).mono ?_
                      rintro e x8 ⟨rfl, bX⟩
                      have hN := hN.below bX
                      have orow := orow.later bX
                      refine hK.out _ _ (hH.later bX) (fun hH => ?_)
                      refine wpAnyH_ready (rs := [4]) (by kernel_rfl) (by simp) ?_
                      refine AllReadyH.cons (o := { dst := some 92, op := Op.call { callee := Callee.value (Operand.func 12), args := #[Operand.tmp 89, Operand.tmp 90, Operand.tmp 91], argTypes := #[24, 28, 35] }, type := 31, pos := "outright.go:159", after := #[{ on := 1, ground := Ground.data }, { on := 2, ground := Ground.data }, { on := 3, ground := Ground.data }, { on := 3, ground := Ground.chain }], guard := none }) rfl (fun K hK => ?_) AllReadyH.nil
                      go_simp
                      refine (SKA.out _ _ orow.rd).mono ?_
                      rintro e x9 ⟨ra, rn, rc, rfl, rrow, bX⟩
                      have hN := hN.below bX
                      have orow := orow.later bX
                      have rn0 : rn = 0 := by
                        obtain ⟨a', c', q, _⟩ := rrow.rd.len
                        injection q with _ q _
                      subst rn0
                      clear rrow
                      refine hK.out _ _ (hH.later bX) (fun hH => ?_)
                      refine wpAnyH_take (i := 5) (oi := { dst := some 87, op := Op.move (Operand.tmp 92), type := 31, pos := "outright.go:159", after := #[{ on := 4, ground := Ground.data }], guard := none }) (v := .tuple #[csV c, .slice ra 0 rc, .int .i64 130]) rfl (by kernel_rfl) (by kernel_rfl) (by kernel_rfl) (fun _ _ _ h => h) (Or.inl ⟨by rfl, fun w' h => by go_simp⟩) hH ?_
                      try simp only [Act.put, List.setIfInBounds_toArray, List.set_cons_zero, List.set_cons_succ]
                      refine wpAnyH_take (i := 6) (oi := { dst := some 93, op := Op.extract (Operand.tmp 87) 0, type := 28, pos := "outright.go:159", after := #[{ on := 5, ground := Ground.data }], guard := none }) (v := csV c) rfl (by kernel_rfl) (by kernel_rfl) (by kernel_rfl) (fun _ _ _ h => h) (Or.inl ⟨by rfl, fun w' h => by go_simp⟩) hH ?_
                      try simp only [Act.put, List.setIfInBounds_toArray, List.set_cons_zero, List.set_cons_succ]
                      refine wpAnyH_take (i := 7) (oi := { dst := some 94, op := Op.extract (Operand.tmp 87) 1, type := 22, pos := "outright.go:159", after := #[{ on := 5, ground := Ground.data }, { on := 10, ground := Ground.gcOnly Departure.lateStores }], guard := none }) (v := .slice ra 0 rc) rfl (by kernel_rfl) (by kernel_rfl) (by kernel_rfl) (fun _ _ _ h => h) (Or.inl ⟨by rfl, fun w' h => by go_simp⟩) hH ?_
                      try simp only [Act.put, List.setIfInBounds_toArray, List.set_cons_zero, List.set_cons_succ]
                      refine wpAnyH_take (i := 8) (oi := { dst := some 95, op := Op.extract (Operand.tmp 87) 2, type := 30, pos := "outright.go:159", after := #[{ on := 5, ground := Ground.data }, { on := 11, ground := Ground.gcOnly Departure.lateStores }], guard := none }) (v := .int .i64 130) rfl (by kernel_rfl) (by kernel_rfl) (by kernel_rfl) (fun _ _ _ h => h) (Or.inl ⟨by rfl, fun w' h => by go_simp⟩) hH ?_
                      try simp only [Act.put, List.setIfInBounds_toArray, List.set_cons_zero, List.set_cons_succ]
                      refine wpAnyH_ready (rs := [10]) (by kernel_rfl) (by simp) ?_
                      refine AllReadyH.cons (o := { dst := none, op := Op.store 28 (Operand.tmp 15) (Operand.tmp 93), type := 0, pos := "outright.go:159", after := #[{ on := 9, ground := Ground.data }, { on := 6, ground := Ground.data }, { on := 4, ground := Ground.chain }, { on := 0, ground := Ground.phase }, { on := 1, ground := Ground.phase }, { on := 2, ground := Ground.phase }, { on := 3, ground := Ground.phase }, { on := 4, ground := Ground.phase }, { on := 5, ground := Ground.phase }, { on := 6, ground := Ground.phase }, { on := 7, ground := Ground.textOnly Departure.lateStores }, { on := 8, ground := Ground.textOnly Departure.lateStores }, { on := 9, ground := Ground.phase }], guard := none }) rfl (fun K hK => ?_) AllReadyH.nil
                      refine op_putC (zs := csL ⟨0, false, 0, 0, 0, 0, 0, 0, 0, 0, 0, 0, 0, 0, 0⟩) (csL c) rfl (sizeCsL _) (csL_one _) rfl _ _ rfl _ rfl rfl hN ?_
                      intro w9 b9 g9
                      have hZ := hH.grown hN g9 hG hp
                      have PX : Hid (ZM w l s MB ev [(_, c), (CB, c)] w9) := hZ.addB b9 hp
                      refine hK.out _ _ hZ (fun hH => ?_)
                      simp only [Act.put]
                      refine wpAnyH_take (i := 11) (oi := { dst := some 16, op := Op.assign (Operand.tmp 94), type := 22, pos := "outright.go:159", after := #[{ on := 7, ground := Ground.data }, { on := 10, ground := Ground.chain }, { on := 0, ground := Ground.phase }, { on := 1, ground := Ground.phase }, { on := 2, ground := Ground.phase }, { on := 3, ground := Ground.phase }, { on := 4, ground := Ground.phase }, { on := 5, ground := Ground.phase }, { on := 6, ground := Ground.phase }, { on := 7, ground := Ground.phase }, { on := 8, ground := Ground.textOnly Departure.lateStores }, { on := 9, ground := Ground.phase }, { on := 10, ground := Ground.phase }], guard := none }) (v := .slice ra 0 rc) rfl (by kernel_rfl) (by kernel_rfl) (by kernel_rfl) (fun _ _ _ h => h) (Or.inl ⟨by rfl, fun w' h => by go_simp⟩) hH ?_
                      try simp only [Act.put, List.setIfInBounds_toArray, List.set_cons_zero, List.set_cons_succ]
                      refine wpAnyH_take (i := 12) (oi := { dst := some 17, op := Op.assign (Operand.tmp 95), type := 30, pos := "outright.go:159", after := #[{ on := 8, ground := Ground.data }, { on := 11, ground := Ground.chain }, { on := 0, ground := Ground.phase }, { on := 1, ground := Ground.phase }, { on := 2, ground := Ground.phase }, { on := 3, ground := Ground.phase }, { on := 4, ground := Ground.phase }, { on := 5, ground := Ground.phase }, { on := 6, ground := Ground.phase }, { on := 7, ground := Ground.phase }, { on := 8, ground := Ground.phase }, { on := 9, ground := Ground.phase }, { on := 10, ground := Ground.phase }, { on := 11, ground := Ground.phase }], guard := none }) (v := .int .i64 130) rfl (by kernel_rfl) (by kernel_rfl) (by kernel_rfl) (fun _ _ _ h => h) (Or.inl ⟨by rfl, fun w' h => by go_simp⟩) hH ?_
                      try simp only [Act.put, List.setIfInBounds_toArray, List.set_cons_zero, List.set_cons_succ]
                      refine wpAnyH_done (by kernel_rfl) ?_ _
                      clear hH hK b9 g9 hN hZ
                      go_wp2_with fail
                      go_meet
                      case rel => exact ⟨_, _, _, rfl, rfl, rfl, PX⟩
                  case rest =>
                    obtain ⟨G, ra, rc, rfl, rfl, rfl, S17⟩ := hcut
                    have S17 : Hid (ZM w l s MB ev [(CB, c)] wc) := S17.out.sub (by simp)
                    clear SR
                    go_upto_region 18 with fail
                    go_cut [18, 19, 20] from 46 to 129 (fun v18 v19 v20 wx => ∃ G ra rc, v18 = .pointer (some ⟨G, 0, none⟩) ∧ v19 = .slice ra 0 rc ∧ v20 = .int .i64 130 ∧ Hid (ZM w l s MB ev [(G, c), (CB, c)] wx))
                    case first => as_aux_lemma =>
                      have hu := Try.underlying24
                      have hi := SZ.out
                      have hu2 := Try.underlying28
                      have hu3 := Try.underlying35
                      refine wp_region_held_drew (S := fun w' => ZM w l s MB ev [(CB, c)] w') (by kernel_rfl) (S17.out.drew) (fun hH => ?_)
                      refine wpAnyH_take (i := 0) (oi := { dst := some 97, op := Op.load 24 (Operand.tmp 3), type := 24, pos := "outright.go:160", after := #[], guard := none }) (v := .agg (polL l s).toArray) rfl (by kernel_rfl) (by kernel_rfl) (by kernel_rfl) (fun _ _ _ h => h) (yieldsIf_load_mid (by rfl) _ _ rfl w.heap.size 0 rfl (polL l s) _ (fun w' h => h.p.all) hu rfl hi) hH ?_
                      try simp only [Act.put, List.setIfInBounds_toArray, List.set_cons_zero, List.set_cons_succ]
                      refine wpAnyH_take (i := 2) (oi := { dst := some 99, op := Op.load 28 (Operand.tmp 7), type := 28, pos := "outright.go:160", after := #[], guard := none }) (v := .agg (csL c).toArray) rfl (by kernel_rfl) (by kernel_rfl) (by kernel_rfl) (fun _ _ _ h => h) (yieldsIf_load_mid (by rfl) _ _ rfl CB 0 rfl (csL c) _ (fun w' h => (h.b (CB, c) (by simp)).all) hu2 rfl (sizeCsL c)) hH ?_
                      try simp only [Act.put, List.setIfInBounds_toArray, List.set_cons_zero, List.set_cons_succ]
                      refine wpAnyH_take (i := 3) (oi := { dst := some 100, op := Op.build 35 #[(0, Operand.const (Value.int IntKind.i64 2)), (3, Operand.const (Value.int IntKind.i64 1))], type := 35, pos := "outright.go:160", after := #[], guard := none }) (v := .agg #[.int .i64 2, .int .i64 0, .int .i64 0, .int .i64 1]) rfl (by kernel_rfl) (by kernel_rfl) (by kernel_rfl) (fun _ _ _ h => h) (Or.inl ⟨by rfl, fun w' h => by go_simp⟩) hH ?_
                      try simp only [Act.put, List.setIfInBounds_toArray, List.set_cons_zero, List.set_cons_succ]
                      refine wpAnyH_ready (rs := [1, 9]) (by kernel_rfl) (by simp) ?_
                      refine AllReadyH.cons (o := { dst := some 98, op := Op.call { callee := Callee.value (Operand.func 13), args := #[Operand.tmp 97], argTypes := #[24] }, type := 24, pos := "outright.go:160", after := #[{ on := 0, ground := Ground.data }], guard := none }) rfl (fun K hK => ?_) (AllReadyH.cons (o := { dst := some 18, op := Op.alloc 28, type := 0, pos := "outright.go:160", after := #[], guard := none }) rfl (fun K hK => ?_) AllReadyH.nil)
                      · go_simp
                        refine (OW.out _ hH.bb).mono ?_
                        rintro e x1 ⟨oa, on, oc, rfl, orow, bX⟩
                        refine hK.out _ _ (hH.later bX) (fun hH => ?_)
                        refine wpAnyH_ready (rs := [4, 9]) (by kernel_rfl) (by simp) ?_
                        refine AllReadyH.cons (o := { dst := some 101, op := Op.call { callee := Callee.value (Operand.func 12), args := #[Operand.tmp 98, Operand.tmp 99, Operand.tmp 100], argTypes := #[24, 28, 35] }, type := 31, pos := "outright.go:160", after := #[{ on := 1, ground := Ground.data }, { on := 2, ground := Ground.data }, { on := 3, ground := Ground.data }, { on := 1, ground := Ground.chain }], guard := none }) rfl (fun K hK => ?_) (AllReadyH.cons (o := { dst := some 18, op := Op.alloc 28, type := 0, pos := "outright.go:160", after := #[], guard := none }) rfl (fun K hK => ?_) AllReadyH.nil)
                        · go_simp
                          refine (SKB.out _ _ orow.rd).mono ?_
                          rintro e x2 ⟨ra, rn, rc, rfl, rrow, bX⟩
                          have orow := orow.later bX
                          have rn0 : rn = 0 := by
                            obtain ⟨a', c', q, _⟩ := rrow.rd.len
                            injection q with _ q _
                          subst rn0
                          clear rrow
                          refine hK.out _ _ (hH.later bX) (fun hH => ?_)
                          refine wpAnyH_take (i := 5) (oi := { dst := some 96, op := Op.move (Operand.tmp 101), type := 31, pos := "outright.go:160", after := #[{ on := 4, ground := Ground.data }], guard := none }) (v := .tuple #[csV c, .slice ra 0 rc, .int .i64 130]) rfl (by kernel_rfl) (by kernel_rfl) (by kernel_rfl) (fun _ _ _ h => h) (Or.inl ⟨by rfl, fun w' h => by go_simp⟩) hH ?_
                          try simp only [Act.put, List.setIfInBounds_toArray, List.set_cons_zero, List.set_cons_succ]
                          refine wpAnyH_take (i := 6) (oi := { dst := some 102, op := Op.extract (Operand.tmp 96) 0, type := 28, pos := "outright.go:160", after := #[{ on := 5, ground := Ground.data }], guard := none }) (v := csV c) rfl (by kernel_rfl) (by kernel_rfl) (by kernel_rfl) (fun _ _ _ h => h) (Or.inl ⟨by rfl, fun w' h => by go_simp⟩) hH ?_
                          try simp only [Act.put, List.setIfInBounds_toArray, List.set_cons_zero, List.set_cons_succ]
                          refine wpAnyH_take (i := 7) (oi := { dst := some 103, op := Op.extract (Operand.tmp 96) 1, type := 22, pos := "outright.go:160", after := #[{ on := 5, ground := Ground.data }, { on := 10, ground := Ground.gcOnly Departure.lateStores }], guard := none }) (v := .slice ra 0 rc) rfl (by kernel_rfl) (by kernel_rfl) (by kernel_rfl) (fun _ _ _ h => h) (Or.inl ⟨by rfl, fun w' h => by go_simp⟩) hH ?_
                          try simp only [Act.put, List.setIfInBounds_toArray, List.set_cons_zero, List.set_cons_succ]
                          refine wpAnyH_take (i := 8) (oi := { dst := some 104, op := Op.extract (Operand.tmp 96) 2, type := 30, pos := "outright.go:160", after := #[{ on := 5, ground := Ground.data }, { on := 11, ground := Ground.gcOnly Departure.lateStores }], guard := none }) (v := .int .i64 130) rfl (by kernel_rfl) (by kernel_rfl) (by kernel_rfl) (fun _ _ _ h => h) (Or.inl ⟨by rfl, fun w' h => by go_simp⟩) hH ?_
                          try simp only [Act.put, List.setIfInBounds_toArray, List.set_cons_zero, List.set_cons_succ]
                          refine wpAnyH_ready (rs := [9]) (by kernel_rfl) (by simp) ?_
                          refine AllReadyH.cons (o := { dst := some 18, op := Op.alloc 28, type := 0, pos := "outright.go:160", after := #[], guard := none }) rfl (fun K hK => ?_) AllReadyH.nil
                          go_simp
                          have hN : Blk x2.heap.size 28 (csL ⟨0, false, 0, 0, 0, 0, 0, 0, 0, 0, 0, 0, 0, 0, 0⟩) (x2.alloc (.cells #[.int .i64 0, .bool false, .int .i64 0, .int .i64 0, .int .i64 0, .int .i64 0, .int .i64 0, .int .i64 0, .int .i64 0, .int .i64 0, .int .i64 0, .int .i64 0, .int .i64 0, .int .i64 0, .int .i64 0] 28)) := Blk.new _ _ _
                          have hG := hH.lts
                          have hp : MB < x2.heap.size := hH.m.lt
                          have orow := orow.later (below_alloc x2 (.cells #[.int .i64 0, .bool false, .int .i64 0, .int .i64 0, .int .i64 0, .int .i64 0, .int .i64 0, .int .i64 0, .int .i64 0, .int .i64 0, .int .i64 0, .int .i64 0, .int .i64 0, .int .i64 0, .int .i64 0] 28))
                          refine hK.out _ _ (hH.later (below_alloc _ _)) (fun hH => ?_)
                          refine wpAnyH_ready (rs := [10]) (by kernel_rfl) (by simp) ?_
                          refine AllReadyH.cons (o := { dst := none, op := Op.store 28 (Operand.tmp 18) (Operand.tmp 102), type := 0, pos := "outright.go:160", after := #[{ on := 9, ground := Ground.data }, { on := 6, ground := Ground.data }, { on := 4, ground := Ground.chain }, { on := 0, ground := Ground.phase }, { on := 1, ground := Ground.phase }, { on := 2, ground := Ground.phase }, { on := 3, ground := Ground.phase }, { on := 4, ground := Ground.phase }, { on := 5, ground := Ground.phase }, { on := 6, ground := Ground.phase }, { on := 7, ground := Ground.textOnly Departure.lateStores }, { on := 8, ground := Ground.textOnly Departure.lateStores }, { on := 9, ground := Ground.phase }], guard := none }) rfl (fun K hK => ?_) AllReadyH.nil
                          refine op_putC (zs := csL ⟨0, false, 0, 0, 0, 0, 0, 0, 0, 0, 0, 0, 0, 0, 0⟩) (csL c) rfl (sizeCsL _) (csL_one _) rfl _ _ rfl _ rfl rfl hN ?_
                          intro w9 b9 g9
                          have hZ := hH.grown hN g9 hG hp
                          have PX : Hid (ZM w l s MB ev [(_, c), (CB, c)] w9) := hZ.addB b9 hp
                          refine hK.out _ _ hZ (fun hH => ?_)
                          simp only [Act.put]
                          refine wpAnyH_take (i := 11) (oi := { dst := some 19, op := Op.assign (Operand.tmp 103), type := 22, pos := "outright.go:160", after := #[{ on := 7, ground := Ground.data }, { on := 10, ground := Ground.chain }, { on := 0, ground := Ground.phase }, { on := 1, ground := Ground.phase }, { on := 2, ground := Ground.phase }, { on := 3, ground := Ground.phase }, { on := 4, ground := Ground.phase }, { on := 5, ground := Ground.phase }, { on := 6, ground := Ground.phase }, { on := 7, ground := Ground.phase }, { on := 8, ground := Ground.textOnly Departure.lateStores }, { on := 9, ground := Ground.phase }, { on := 10, ground := Ground.phase }], guard := none }) (v := .slice ra 0 rc) rfl (by kernel_rfl) (by kernel_rfl) (by kernel_rfl) (fun _ _ _ h => h) (Or.inl ⟨by rfl, fun w' h => by go_simp⟩) hH ?_
                          try simp only [Act.put, List.setIfInBounds_toArray, List.set_cons_zero, List.set_cons_succ]
                          refine wpAnyH_take (i := 12) (oi := { dst := some 20, op := Op.assign (Operand.tmp 104), type := 30, pos := "outright.go:160", after := #[{ on := 8, ground := Ground.data }, { on := 11, ground := Ground.chain }, { on := 0, ground := Ground.phase }, { on := 1, ground := Ground.phase }, { on := 2, ground := Ground.phase }, { on := 3, ground := Ground.phase }, { on := 4, ground := Ground.phase }, { on := 5, ground := Ground.phase }, { on := 6, ground := Ground.phase }, { on := 7, ground := Ground.phase }, { on := 8, ground := Ground.phase }, { on := 9, ground := Ground.phase }, { on := 10, ground := Ground.phase }, { on := 11, ground := Ground.phase }], guard := none }) (v := .int .i64 130) rfl (by kernel_rfl) (by kernel_rfl) (by kernel_rfl) (fun _ _ _ h => h) (Or.inl ⟨by rfl, fun w' h => by go_simp⟩) hH ?_
                          try simp only [Act.put, List.setIfInBounds_toArray, List.set_cons_zero, List.set_cons_succ]
                          refine wpAnyH_done (by kernel_rfl) ?_ _
                          clear hH hK b9 g9 hN hZ
                          go_wp2_with fail
                          go_meet
                          case rel => exact ⟨_, _, _, rfl, rfl, rfl, PX⟩
                        · go_simp
                          have hN : Blk x1.heap.size 28 (csL ⟨0, false, 0, 0, 0, 0, 0, 0, 0, 0, 0, 0, 0, 0, 0⟩) (x1.alloc (.cells #[.int .i64 0, .bool false, .int .i64 0, .int .i64 0, .int .i64 0, .int .i64 0, .int .i64 0, .int .i64 0, .int .i64 0, .int .i64 0, .int .i64 0, .int .i64 0, .int .i64 0, .int .i64 0, .int .i64 0] 28)) := Blk.new _ _ _
                          have hG := hH.lts
                          have hp : MB < x1.heap.size := hH.m.lt
                          have orow := orow.later (below_alloc x1 (.cells #[.int .i64 0, .bool false, .int .i64 0, .int .i64 0, .int .i64 0, .int .i64 0, .int .i64 0, .int .i64 0, .int .i64 0, .int .i64 0, .int .i64 0, .int .i64 0, .int .i64 0, .int .i64 0, .int .i64 0] 28))
                          refine hK.out _ _ (hH.later (below_alloc _ _)) (fun hH => ?_)
                          refine wpAnyH_ready (rs := [4]) (by kernel_rfl) (by simp) ?_
                          refine AllReadyH.cons (o := { dst := some 101, op := Op.call { callee := Callee.value (Operand.func 12), args := #[Operand.tmp 98, Operand.tmp 99, Operand.tmp 100], argTypes := #[24, 28, 35] }, type := 31, pos := "outright.go:160", after := #[{ on := 1, ground := Ground.data }, { on := 2, ground := Ground.data }, { on := 3, ground := Ground.data }, { on := 1, ground := Ground.chain }], guard := none }) rfl (fun K hK => ?_) AllReadyH.nil
                          go_simp
                          refine (SKB.out _ _ orow.rd).mono ?_
                          rintro e x3 ⟨ra, rn, rc, rfl, rrow, bX⟩
                          have orow := orow.later bX
                          have hN := hN.below bX
                          have rn0 : rn = 0 := by
                            obtain ⟨a', c', q, _⟩ := rrow.rd.len
                            injection q with _ q _
                          subst rn0
                          clear rrow
                          refine hK.out _ _ (hH.later bX) (fun hH => ?_)
                          refine wpAnyH_take (i := 5) (oi := { dst := some 96, op := Op.move (Operand.tmp 101), type := 31, pos := "outright.go:160", after := #[{ on := 4, ground := Ground.data }], guard := none }) (v := .tuple #[csV c, .slice ra 0 rc, .int .i64 130]) rfl (by kernel_rfl) (by kernel_rfl) (by kernel_rfl) (fun _ _ _ h => h) (Or.inl ⟨by rfl, fun w' h => by go_simp⟩) hH ?_
                          try simp only [Act.put, List.setIfInBounds_toArray, List.set_cons_zero, List.set_cons_succ]
                          refine wpAnyH_take (i := 6) (oi := { dst := some 102, op := Op.extract (Operand.tmp 96) 0, type := 28, pos := "outright.go:160", after := #[{ on := 5, ground := Ground.data }], guard := none }) (v := csV c) rfl (by kernel_rfl) (by kernel_rfl) (by kernel_rfl) (fun _ _ _ h => h) (Or.inl ⟨by rfl, fun w' h => by go_simp⟩) hH ?_
                          try simp only [Act.put, List.setIfInBounds_toArray, List.set_cons_zero, List.set_cons_succ]
                          refine wpAnyH_take (i := 7) (oi := { dst := some 103, op := Op.extract (Operand.tmp 96) 1, type := 22, pos := "outright.go:160", after := #[{ on := 5, ground := Ground.data }, { on := 10, ground := Ground.gcOnly Departure.lateStores }], guard := none }) (v := .slice ra 0 rc) rfl (by kernel_rfl) (by kernel_rfl) (by kernel_rfl) (fun _ _ _ h => h) (Or.inl ⟨by rfl, fun w' h => by go_simp⟩) hH ?_
                          try simp only [Act.put, List.setIfInBounds_toArray, List.set_cons_zero, List.set_cons_succ]
                          refine wpAnyH_take (i := 8) (oi := { dst := some 104, op := Op.extract (Operand.tmp 96) 2, type := 30, pos := "outright.go:160", after := #[{ on := 5, ground := Ground.data }, { on := 11, ground := Ground.gcOnly Departure.lateStores }], guard := none }) (v := .int .i64 130) rfl (by kernel_rfl) (by kernel_rfl) (by kernel_rfl) (fun _ _ _ h => h) (Or.inl ⟨by rfl, fun w' h => by go_simp⟩) hH ?_
                          try simp only [Act.put, List.setIfInBounds_toArray, List.set_cons_zero, List.set_cons_succ]
                          refine wpAnyH_ready (rs := [10]) (by kernel_rfl) (by simp) ?_
                          refine AllReadyH.cons (o := { dst := none, op := Op.store 28 (Operand.tmp 18) (Operand.tmp 102), type := 0, pos := "outright.go:160", after := #[{ on := 9, ground := Ground.data }, { on := 6, ground := Ground.data }, { on := 4, ground := Ground.chain }, { on := 0, ground := Ground.phase }, { on := 1, ground := Ground.phase }, { on := 2, ground := Ground.phase }, { on := 3, ground := Ground.phase }, { on := 4, ground := Ground.phase }, { on := 5, ground := Ground.phase }, { on := 6, ground := Ground.phase }, { on := 7, ground := Ground.textOnly Departure.lateStores }, { on := 8, ground := Ground.textOnly Departure.lateStores }, { on := 9, ground := Ground.phase }], guard := none }) rfl (fun K hK => ?_) AllReadyH.nil
                          refine op_putC (zs := csL ⟨0, false, 0, 0, 0, 0, 0, 0, 0, 0, 0, 0, 0, 0, 0⟩) (csL c) rfl (sizeCsL _) (csL_one _) rfl _ _ rfl _ rfl rfl hN ?_
                          intro w9 b9 g9
                          have hZ := hH.grown hN g9 hG hp
                          have PX : Hid (ZM w l s MB ev [(_, c), (CB, c)] w9) := hZ.addB b9 hp
                          refine hK.out _ _ hZ (fun hH => ?_)
                          simp only [Act.put]
                          refine wpAnyH_take (i := 11) (oi := { dst := some 19, op := Op.assign (Operand.tmp 103), type := 22, pos := "outright.go:160", after := #[{ on := 7, ground := Ground.data }, { on := 10, ground := Ground.chain }, { on := 0, ground := Ground.phase }, { on := 1, ground := Ground.phase }, { on := 2, ground := Ground.phase }, { on := 3, ground := Ground.phase }, { on := 4, ground := Ground.phase }, { on := 5, ground := Ground.phase }, { on := 6, ground := Ground.phase }, { on := 7, ground := Ground.phase }, { on := 8, ground := Ground.textOnly Departure.lateStores }, { on := 9, ground := Ground.phase }, { on := 10, ground := Ground.phase }], guard := none }) (v := .slice ra 0 rc) rfl (by kernel_rfl) (by kernel_rfl) (by kernel_rfl) (fun _ _ _ h => h) (Or.inl ⟨by rfl, fun w' h => by go_simp⟩) hH ?_
                          try simp only [Act.put, List.setIfInBounds_toArray, List.set_cons_zero, List.set_cons_succ]
                          refine wpAnyH_take (i := 12) (oi := { dst := some 20, op := Op.assign (Operand.tmp 104), type := 30, pos := "outright.go:160", after := #[{ on := 8, ground := Ground.data }, { on := 11, ground := Ground.chain }, { on := 0, ground := Ground.phase }, { on := 1, ground := Ground.phase }, { on := 2, ground := Ground.phase }, { on := 3, ground := Ground.phase }, { on := 4, ground := Ground.phase }, { on := 5, ground := Ground.phase }, { on := 6, ground := Ground.phase }, { on := 7, ground := Ground.phase }, { on := 8, ground := Ground.phase }, { on := 9, ground := Ground.phase }, { on := 10, ground := Ground.phase }, { on := 11, ground := Ground.phase }], guard := none }) (v := .int .i64 130) rfl (by kernel_rfl) (by kernel_rfl) (by kernel_rfl) (fun _ _ _ h => h) (Or.inl ⟨by rfl, fun w' h => by go_simp⟩) hH ?_
                          try simp only [Act.put, List.setIfInBounds_toArray, List.set_cons_zero, List.set_cons_succ]
                          refine wpAnyH_done (by kernel_rfl) ?_ _
                          clear hH hK b9 g9 hN hZ
                          go_wp2_with fail
                          go_meet
                          case rel => exact ⟨_, _, _, rfl, rfl, rfl, PX⟩
                      · go_simp
                        have hN : Blk wc.drew.heap.size 28 (csL ⟨0, false, 0, 0, 0, 0, 0, 0, 0, 0, 0, 0, 0, 0, 0⟩) (wc.drew.alloc (.cells #[.int .i64 0, .bool false, .int .i64 0, .int .i64 0, .int .i64 0, .int .i64 0, .int .i64 0, .int .i64 0, .int .i64 0, .int .i64 0, .int .i64 0, .int .i64 0, .int .i64 0, .int .i64 0, .int .i64 0] 28)) := Blk.new _ _ _
                        have hG := hH.lts
                        have hp : MB < wc.drew.heap.size := hH.m.lt
                        refine hK.out _ _ (hH.later (below_alloc _ _)) (fun hH => ?_)
                        refine wpAnyH_ready (rs := [1]) (by kernel_rfl) (by simp) ?_
                        refine AllReadyH.cons (o := { dst := some 98, op := Op.call { callee := Callee.value (Operand.func 13), args := #[Operand.tmp 97], argTypes := #[24] }, type := 24, pos := "outright.go:160", after := #[{ on := 0, ground := Ground.data }], guard := none }) rfl (fun K hK => ?_) AllReadyH.nil
                        go_simp
                        refine (OW.out _ hH.bb).mono ?_
                        rintro e x4 ⟨oa, on, oc, rfl, orow, bX⟩
                        have hN := hN.below bX
                        refine hK.out _ _ (hH.later bX) (fun hH => ?_)
                        refine wpAnyH_ready (rs := [4]) (by kernel_rfl) (by simp) ?_
                        refine AllReadyH.cons (o := { dst := some 101, op := Op.call { callee := Callee.value (Operand.func 12), args := #[Operand.tmp 98, Operand.tmp 99, Operand.tmp 100], argTypes := #[24, 28, 35] }, type := 31, pos := "outright.go:160", after := #[{ on := 1, ground := Ground.data }, { on := 2, ground := Ground.data }, { on := 3, ground := Ground.data }, { on := 1, ground := Ground.chain }], guard := none }) rfl (fun K hK => ?_) AllReadyH.nil
                        go_simp
                        refine (SKB.out _ _ orow.rd).mono ?_
                        rintro e x5 ⟨ra, rn, rc, rfl, rrow, bX⟩
                        have hN := hN.below bX
                        have orow := orow.later bX
                        have rn0 : rn = 0 := by
                          obtain ⟨a', c', q, _⟩ := rrow.rd.len
                          injection q with _ q _
                        subst rn0
                        clear rrow
                        refine hK.out _ _ (hH.later bX) (fun hH => ?_)
                        refine wpAnyH_take (i := 5) (oi := { dst := some 96, op := Op.move (Operand.tmp 101), type := 31, pos := "outright.go:160", after := #[{ on := 4, ground := Ground.data }], guard := none }) (v := .tuple #[csV c, .slice ra 0 rc, .int .i64 130]) rfl (by kernel_rfl) (by kernel_rfl) (by kernel_rfl) (fun _ _ _ h => h) (Or.inl ⟨by rfl, fun w' h => by go_simp⟩) hH ?_
                        try simp only [Act.put, List.setIfInBounds_toArray, List.set_cons_zero, List.set_cons_succ]
                        refine wpAnyH_take (i := 6) (oi := { dst := some 102, op := Op.extract (Operand.tmp 96) 0, type := 28, pos := "outright.go:160", after := #[{ on := 5, ground := Ground.data }], guard := none }) (v := csV c) rfl (by kernel_rfl) (by kernel_rfl) (by kernel_rfl) (fun _ _ _ h => h) (Or.inl ⟨by rfl, fun w' h => by go_simp⟩) hH ?_
                        try simp only [Act.put, List.setIfInBounds_toArray, List.set_cons_zero, List.set_cons_succ]
                        refine wpAnyH_take (i := 7) (oi := { dst := some 103, op := Op.extract (Operand.tmp 96) 1, type := 22, pos := "outright.go:160", after := #[{ on := 5, ground := Ground.data }, { on := 10, ground := Ground.gcOnly Departure.lateStores }], guard := none }) (v := .slice ra 0 rc) rfl (by kernel_rfl) (by kernel_rfl) (by kernel_rfl) (fun _ _ _ h => h) (Or.inl ⟨by rfl, fun w' h => by go_simp⟩) hH ?_
                        try simp only [Act.put, List.setIfInBounds_toArray, List.set_cons_zero, List.set_cons_succ]
                        refine wpAnyH_take (i := 8) (oi := { dst := some 104, op := Op.extract (Operand.tmp 96) 2, type := 30, pos := "outright.go:160", after := #[{ on := 5, ground := Ground.data }, { on := 11, ground := Ground.gcOnly Departure.lateStores }], guard := none }) (v := .int .i64 130) rfl (by kernel_rfl) (by kernel_rfl) (by kernel_rfl) (fun _ _ _ h => h) (Or.inl ⟨by rfl, fun w' h => by go_simp⟩) hH ?_
                        try simp only [Act.put, List.setIfInBounds_toArray, List.set_cons_zero, List.set_cons_succ]
                        refine wpAnyH_ready (rs := [10]) (by kernel_rfl) (by simp) ?_
                        refine AllReadyH.cons (o := { dst := none, op := Op.store 28 (Operand.tmp 18) (Operand.tmp 102), type := 0, pos := "outright.go:160", after := #[{ on := 9, ground := Ground.data }, { on := 6, ground := Ground.data }, { on := 4, ground := Ground.chain }, { on := 0, ground := Ground.phase }, { on := 1, ground := Ground.phase }, { on := 2, ground := Ground.phase }, { on := 3, ground := Ground.phase }, { on := 4, ground := Ground.phase }, { on := 5, ground := Ground.phase }, { on := 6, ground := Ground.phase }, { on := 7, ground := Ground.textOnly Departure.lateStores }, { on := 8, ground := Ground.textOnly Departure.lateStores }, { on := 9, ground := Ground.phase }], guard := none }) rfl (fun K hK => ?_) AllReadyH.nil
                        refine op_putC (zs := csL ⟨0, false, 0, 0, 0, 0, 0, 0, 0, 0, 0, 0, 0, 0, 0⟩) (csL c) rfl (sizeCsL _) (csL_one _) rfl _ _ rfl _ rfl rfl hN ?_
                        intro w9 b9 g9
                        have hZ := hH.grown hN g9 hG hp
                        have PX : Hid (ZM w l s MB ev [(_, c), (CB, c)] w9) := hZ.addB b9 hp
                        refine hK.out _ _ hZ (fun hH => ?_)
                        simp only [Act.put]
                        refine wpAnyH_take (i := 11) (oi := { dst := some 19, op := Op.assign (Operand.tmp 103), type := 22, pos := "outright.go:160", after := #[{ on := 7, ground := Ground.data }, { on := 10, ground := Ground.chain }, { on := 0, ground := Ground.phase }, { on := 1, ground := Ground.phase }, { on := 2, ground := Ground.phase }, { on := 3, ground := Ground.phase }, { on := 4, ground := Ground.phase }, { on := 5, ground := Ground.phase }, { on := 6, ground := Ground.phase }, { on := 7, ground := Ground.phase }, { on := 8, ground := Ground.textOnly Departure.lateStores }, { on := 9, ground := Ground.phase }, { on := 10, ground := Ground.phase }], guard := none }) (v := .slice ra 0 rc) rfl (by kernel_rfl) (by kernel_rfl) (by kernel_rfl) (fun _ _ _ h => h) (Or.inl ⟨by rfl, fun w' h => by go_simp⟩) hH ?_
                        try simp only [Act.put, List.setIfInBounds_toArray, List.set_cons_zero, List.set_cons_succ]
                        refine wpAnyH_take (i := 12) (oi := { dst := some 20, op := Op.assign (Operand.tmp 104), type := 30, pos := "outright.go:160", after := #[{ on := 8, ground := Ground.data }, { on := 11, ground := Ground.chain }, { on := 0, ground := Ground.phase }, { on := 1, ground := Ground.phase }, { on := 2, ground := Ground.phase }, { on := 3, ground := Ground.phase }, { on := 4, ground := Ground.phase }, { on := 5, ground := Ground.phase }, { on := 6, ground := Ground.phase }, { on := 7, ground := Ground.phase }, { on := 8, ground := Ground.phase }, { on := 9, ground := Ground.phase }, { on := 10, ground := Ground.phase }, { on := 11, ground := Ground.phase }], guard := none }) (v := .int .i64 130) rfl (by kernel_rfl) (by kernel_rfl) (by kernel_rfl) (fun _ _ _ h => h) (Or.inl ⟨by rfl, fun w' h => by go_simp⟩) hH ?_
                        try simp only [Act.put, List.setIfInBounds_toArray, List.set_cons_zero, List.set_cons_succ]
                        refine wpAnyH_done (by kernel_rfl) ?_ _
                        clear hH hK b9 g9 hN hZ
                        go_wp2_with fail
                        go_meet
                        case rel => exact ⟨_, _, _, rfl, rfl, rfl, PX⟩
                    case rest =>
                      obtain ⟨G', ra', rc', rfl, rfl, rfl, S18⟩ := hcut
                      clear S17
                      go_wp2_with fail
                      go_meet
                      case rel => exact ⟨ev, S18.out.sub (by simp)⟩
          case rest =>
            obtain ⟨ev2, S10⟩ := hcut
            clear S9
            go_upto_if 112 with fail
            go_cut [11] from 46 to 129 (fun _ wx => ∃ c', Hid (ZM w l s MB ev2 [(CB, c')] wx))
            case first =>
              by_cases hk0 : k = 0
              · have k0 : ((k : Int) == 0) = true := by simp [hk0]
                clear hk0
                go_wp2_with fail
                refine (FR.out _).mono ?_
                rintro e y1 ⟨rfl, bX⟩
                have S12 : Hid (ZM w l s MB ev2 [(CB, c)] y1) := S10.out.later bX
                clear bX
                go_wp2_with ((with_reducible refine at_store ?_); refine step_store rfl 28 _ _ rfl CB 0 28 _ (csL fresh) rfl rfl (S12.out.b (CB, c) (by simp)) (Nat.le_refl 15) (sizeCsL _) (csL_one _) ?_; intro y2 n2 g2)
                have S13 : Hid (ZM w l s MB ev2 [(CB, fresh)] y2) := S12.out.put n2 g2 (by simp)
                clear n2 g2 S12
                go_meet
                case rel => exact ⟨_, S13⟩
              · have k0 : ((k : Int) == 0) = false := by simp [hk0]
                clear hk0
                go_wp2_with fail
                go_meet
                case rel => exact ⟨_, S10⟩
            case rest =>
              obtain ⟨c', S11⟩ := hcut
              clear S10
              by_cases hkn : (k : Int) < (N : Int)
              · obtain ⟨g, o, rfl, lt, rg⟩ := EC.out k (by omega)
                have EV : Hid (∀ w', Below w.heap.size w w' → w'.rangeAt g (o + k * 4) (evL (eN es k))) := fun w' h => range_laterC rg lt h
                clear rg lt EC
                generalize eN es k = en at *
                have SK : Hid (∀ s' w', Rd w' s' (bkL hs) → Calls Try.prog 12 #[PV l s', csV c', evV en] w' (StepAns (stepA l hs c' en) w')) := fun s' w' h => ST.out c' en s' w' h
                generalize stepA l hs c' en = ans at *
                go_upto_region 24 with fail
                have hu := Try.underlying24
                have hi := SZ.out
                have hu2 := Try.underlying28
                have hu3 := Try.underlying35
                refine wp_region_held_drew (S := fun w' => ∃ c', ZM w l s MB ev2 [(CB, c')] w') (by kernel_rfl) (⟨c', S11.out.drew⟩) (fun hH => ?_)
                have hC : ZM w l s MB ev2 [(CB, c')] wc.drew := S11.out.drew
                refine wpAnyH_take (i := 0) (oi := { dst := some 119, op := Op.load 24 (Operand.tmp 3), type := 24, pos := "outright.go:169", after := #[], guard := none }) (v := .agg (polL l s).toArray) rfl (by kernel_rfl) (by kernel_rfl) (by kernel_rfl) (fun _ _ _ h => h) (yieldsIf_load_mid (by rfl) _ _ rfl w.heap.size 0 rfl (polL l s) _ (fun w' h => (by obtain ⟨c', h⟩ := h; exact h.p.all)) hu rfl hi) hH ?_
                try simp only [Act.put, List.setIfInBounds_toArray, List.set_cons_zero, List.set_cons_succ]
                refine wpAnyH_take (i := 3) (oi := { dst := some 122, op := Op.move (Operand.tmp 1), type := 25, pos := "outright.go:169", after := #[], guard := none }) (v := .slice (some ⟨g, o, none⟩) N cap) rfl (by kernel_rfl) (by kernel_rfl) (by kernel_rfl) (fun _ _ _ h => h) (Or.inl ⟨by rfl, fun w' h => by go_simp⟩) hH ?_
                try simp only [Act.put, List.setIfInBounds_toArray, List.set_cons_zero, List.set_cons_succ]
                refine wpAnyH_take (i := 4) (oi := { dst := some 123, op := Op.move (Operand.tmp 10), type := 3, pos := "outright.go:169", after := #[], guard := none }) (v := .int .i64 (k : Int)) rfl (by kernel_rfl) (by kernel_rfl) (by kernel_rfl) (fun _ _ _ h => h) (Or.inl ⟨by rfl, fun w' h => by go_simp⟩) hH ?_
                try simp only [Act.put, List.setIfInBounds_toArray, List.set_cons_zero, List.set_cons_succ]
                refine wpAnyH_take (i := 5) (oi := { dst := some 124, op := Op.indexAddr 25 (Operand.tmp 122) (Operand.tmp 123), type := 0, pos := "outright.go:169", after := #[{ on := 3, ground := Ground.data }, { on := 4, ground := Ground.data }], guard := none }) (v := .pointer (some ⟨g, o + k * 4, none⟩)) rfl (by kernel_rfl) (by kernel_rfl) (by kernel_rfl) (fun _ _ _ h => h) (Or.inl ⟨by rfl, fun w' h => by go_simp⟩) hH ?_
                try simp only [Act.put, List.setIfInBounds_toArray, List.set_cons_zero, List.set_cons_succ]
                refine wpAnyH_take (i := 6) (oi := { dst := some 125, op := Op.load 35 (Operand.tmp 124), type := 35, pos := "outright.go:169", after := #[{ on := 5, ground := Ground.data }], guard := none }) (v := .agg (evL en).toArray) rfl (by kernel_rfl) (by kernel_rfl) (by kernel_rfl) (fun _ _ _ h => h) (yieldsIf_load_mid (by rfl) _ _ rfl g (o + k * 4) rfl (evL en) _ (fun w' h => (by obtain ⟨c', h⟩ := h; exact EV.out _ h.bb)) hu3 rfl (sizeEvL en)) hH ?_
                try simp only [Act.put, List.setIfInBounds_toArray, List.set_cons_zero, List.set_cons_succ]
                refine wpAnyH_ready (rs := [1, 2]) (by kernel_rfl) (by simp) ?_
                refine AllReadyH.cons (o := { dst := some 120, op := Op.call { callee := Callee.value (Operand.func 13), args := #[Operand.tmp 119], argTypes := #[24] }, type := 24, pos := "outright.go:169", after := #[{ on := 0, ground := Ground.data }], guard := none }) rfl (fun K hK => ?_) (AllReadyH.cons (o := { dst := some 121, op := Op.load 28 (Operand.tmp 7), type := 28, pos := "outright.go:169", after := #[], guard := none }) rfl (fun K hK => ?_) AllReadyH.nil)
                · go_simp
                  refine (OW.out _ hC.bb).mono ?_
                  rintro e x1 ⟨oa, on, oc, rfl, orow, bX⟩
                  have hC := hC.later bX
                  refine hK.out _ _ ⟨_, hC⟩ (fun hH => ?_)
                  refine wpAnyH_ready (rs := [2]) (by kernel_rfl) (by simp) ?_
                  refine AllReadyH.cons (o := { dst := some 121, op := Op.load 28 (Operand.tmp 7), type := 28, pos := "outright.go:169", after := #[], guard := none }) rfl (fun K hK => ?_) AllReadyH.nil
                  refine op_loadC rfl 28 _ rfl CB 0 rfl (csL c') _ (Blk.all (hC.b (CB, c') (by simp))) Try.underlying28 rfl (sizeCsL _) ?_
                  refine hK.out _ _ ⟨_, hC⟩ (fun hH => ?_)
                  simp only [Act.put]
                  refine wpAnyH_ready (rs := [7]) (by kernel_rfl) (by simp) ?_
                  refine AllReadyH.cons (o := { dst := some 126, op := Op.call { callee := Callee.value (Operand.func 12), args := #[Operand.tmp 120, Operand.tmp 121, Operand.tmp 125], argTypes := #[24, 28, 35] }, type := 31, pos := "outright.go:169", after := #[{ on := 1, ground := Ground.data }, { on := 2, ground := Ground.data }, { on := 6, ground := Ground.data }, { on := 1, ground := Ground.chain }], guard := none }) rfl (fun K hK => ?_) AllReadyH.nil
                  go_simp
                  refine (SK.out _ _ orow.rd).mono ?_
                  rintro e x9 ⟨ra, rn, rc, rfl, rrow, bX⟩
                  have hC := hC.later bX
                  refine hK.out _ _ ⟨_, hC⟩ (fun hH => ?_)
                  refine wpAnyH_take (i := 8) (oi := { dst := some 118, op := Op.move (Operand.tmp 126), type := 31, pos := "outright.go:169", after := #[{ on := 7, ground := Ground.data }], guard := none }) (v := .tuple #[csV ans.2.1, .slice ra rn rc, .int .i64 ans.1]) rfl (by kernel_rfl) (by kernel_rfl) (by kernel_rfl) (fun _ _ _ h => h) (Or.inl ⟨by rfl, fun w' h => by go_simp⟩) hH ?_
                  try simp only [Act.put, List.setIfInBounds_toArray, List.set_cons_zero, List.set_cons_succ]
                  refine wpAnyH_take (i := 9) (oi := { dst := some 127, op := Op.extract (Operand.tmp 118) 0, type := 28, pos := "outright.go:169", after := #[{ on := 8, ground := Ground.data }], guard := none }) (v := csV ans.2.1) rfl (by kernel_rfl) (by kernel_rfl) (by kernel_rfl) (fun _ _ _ h => h) (Or.inl ⟨by rfl, fun w' h => by go_simp⟩) hH ?_
                  try simp only [Act.put, List.setIfInBounds_toArray, List.set_cons_zero, List.set_cons_succ]
                  refine wpAnyH_take (i := 10) (oi := { dst := some 128, op := Op.extract (Operand.tmp 118) 1, type := 22, pos := "outright.go:169", after := #[{ on := 8, ground := Ground.data }, { on := 12, ground := Ground.gcOnly Departure.lateStores }], guard := none }) (v := .slice ra rn rc) rfl (by kernel_rfl) (by kernel_rfl) (by kernel_rfl) (fun _ _ _ h => h) (Or.inl ⟨by rfl, fun w' h => by go_simp⟩) hH ?_
                  try simp only [Act.put, List.setIfInBounds_toArray, List.set_cons_zero, List.set_cons_succ]
                  refine wpAnyH_take (i := 11) (oi := { dst := some 129, op := Op.extract (Operand.tmp 118) 2, type := 30, pos := "outright.go:169", after := #[{ on := 8, ground := Ground.data }, { on := 12, ground := Ground.gcOnly Departure.lateStores }], guard := none }) (v := .int .i64 ans.1) rfl (by kernel_rfl) (by kernel_rfl) (by kernel_rfl) (fun _ _ _ h => h) (Or.inl ⟨by rfl, fun w' h => by go_simp⟩) hH ?_
                  try simp only [Act.put, List.setIfInBounds_toArray, List.set_cons_zero, List.set_cons_succ]
                  refine wpAnyH_ready (rs := [12]) (by kernel_rfl) (by simp) ?_
                  refine AllReadyH.cons (o := { dst := none, op := Op.store 28 (Operand.tmp 7) (Operand.tmp 127), type := 0, pos := "outright.go:169", after := #[{ on := 9, ground := Ground.data }, { on := 7, ground := Ground.chain }, { on := 0, ground := Ground.phase }, { on := 1, ground := Ground.phase }, { on := 2, ground := Ground.phase }, { on := 3, ground := Ground.phase }, { on := 4, ground := Ground.phase }, { on := 5, ground := Ground.phase }, { on := 6, ground := Ground.phase }, { on := 7, ground := Ground.phase }, { on := 8, ground := Ground.phase }, { on := 9, ground := Ground.phase }, { on := 10, ground := Ground.textOnly Departure.lateStores }, { on := 11, ground := Ground.textOnly Departure.lateStores }], guard := none }) rfl (fun K hK => ?_) AllReadyH.nil
                  refine op_putC (zs := csL c') (csL ans.2.1) rfl (sizeCsL _) (csL_one _) rfl _ _ rfl _ rfl rfl (hC.b (CB, c') (by simp)) ?_
                  intro w9 b9 g9
                  have hZ : ZM w l s MB ev2 [(CB, ans.2.1)] w9 := hC.put b9 g9 (by simp)
                  have PX : Hid (ZM w l s MB ev2 [(CB, ans.2.1)] w9) := hZ
                  refine hK.out _ _ ⟨_, hZ⟩ (fun hH => ?_)
                  simp only [Act.put]
                  refine wpAnyH_done (by kernel_rfl) ?_ _
                  clear hH hK b9 g9 hZ hC
                  go_wp2_with fail
                  go_roundw
                  case rel => exact ⟨k + 1, _, ev2, by go_num, by omega, PX⟩
                  case measure => simp [intOf]; omega
                · refine op_loadC rfl 28 _ rfl CB 0 rfl (csL c') _ (Blk.all (hC.b (CB, c') (by simp))) Try.underlying28 rfl (sizeCsL _) ?_
                  refine hK.out _ _ ⟨_, hC⟩ (fun hH => ?_)
                  simp only [Act.put]
                  refine wpAnyH_ready (rs := [1]) (by kernel_rfl) (by simp) ?_
                  refine AllReadyH.cons (o := { dst := some 120, op := Op.call { callee := Callee.value (Operand.func 13), args := #[Operand.tmp 119], argTypes := #[24] }, type := 24, pos := "outright.go:169", after := #[{ on := 0, ground := Ground.data }], guard := none }) rfl (fun K hK => ?_) AllReadyH.nil
                  go_simp
                  refine (OW.out _ hC.bb).mono ?_
                  rintro e x1 ⟨oa, on, oc, rfl, orow, bX⟩
                  have hC := hC.later bX
                  refine hK.out _ _ ⟨_, hC⟩ (fun hH => ?_)
                  refine wpAnyH_ready (rs := [7]) (by kernel_rfl) (by simp) ?_
                  refine AllReadyH.cons (o := { dst := some 126, op := Op.call { callee := Callee.value (Operand.func 12), args := #[Operand.tmp 120, Operand.tmp 121, Operand.tmp 125], argTypes := #[24, 28, 35] }, type := 31, pos := "outright.go:169", after := #[{ on := 1, ground := Ground.data }, { on := 2, ground := Ground.data }, { on := 6, ground := Ground.data }, { on := 1, ground := Ground.chain }], guard := none }) rfl (fun K hK => ?_) AllReadyH.nil
                  go_simp
                  refine (SK.out _ _ orow.rd).mono ?_
                  rintro e x9 ⟨ra, rn, rc, rfl, rrow, bX⟩
                  have hC := hC.later bX
                  refine hK.out _ _ ⟨_, hC⟩ (fun hH => ?_)
                  refine wpAnyH_take (i := 8) (oi := { dst := some 118, op := Op.move (Operand.tmp 126), type := 31, pos := "outright.go:169", after := #[{ on := 7, ground := Ground.data }], guard := none }) (v := .tuple #[csV ans.2.1, .slice ra rn rc, .int .i64 ans.1]) rfl (by kernel_rfl) (by kernel_rfl) (by kernel_rfl) (fun _ _ _ h => h) (Or.inl ⟨by rfl, fun w' h => by go_simp⟩) hH ?_
                  try simp only [Act.put, List.setIfInBounds_toArray, List.set_cons_zero, List.set_cons_succ]
                  refine wpAnyH_take (i := 9) (oi := { dst := some 127, op := Op.extract (Operand.tmp 118) 0, type := 28, pos := "outright.go:169", after := #[{ on := 8, ground := Ground.data }], guard := none }) (v := csV ans.2.1) rfl (by kernel_rfl) (by kernel_rfl) (by kernel_rfl) (fun _ _ _ h => h) (Or.inl ⟨by rfl, fun w' h => by go_simp⟩) hH ?_
                  try simp only [Act.put, List.setIfInBounds_toArray, List.set_cons_zero, List.set_cons_succ]
                  refine wpAnyH_take (i := 10) (oi := { dst := some 128, op := Op.extract (Operand.tmp 118) 1, type := 22, pos := "outright.go:169", after := #[{ on := 8, ground := Ground.data }, { on := 12, ground := Ground.gcOnly Departure.lateStores }], guard := none }) (v := .slice ra rn rc) rfl (by kernel_rfl) (by kernel_rfl) (by kernel_rfl) (fun _ _ _ h => h) (Or.inl ⟨by rfl, fun w' h => by go_simp⟩) hH ?_
                  try simp only [Act.put, List.setIfInBounds_toArray, List.set_cons_zero, List.set_cons_succ]
                  refine wpAnyH_take (i := 11) (oi := { dst := some 129, op := Op.extract (Operand.tmp 118) 2, type := 30, pos := "outright.go:169", after := #[{ on := 8, ground := Ground.data }, { on := 12, ground := Ground.gcOnly Departure.lateStores }], guard := none }) (v := .int .i64 ans.1) rfl (by kernel_rfl) (by kernel_rfl) (by kernel_rfl) (fun _ _ _ h => h) (Or.inl ⟨by rfl, fun w' h => by go_simp⟩) hH ?_
                  try simp only [Act.put, List.setIfInBounds_toArray, List.set_cons_zero, List.set_cons_succ]
                  refine wpAnyH_ready (rs := [12]) (by kernel_rfl) (by simp) ?_
                  refine AllReadyH.cons (o := { dst := none, op := Op.store 28 (Operand.tmp 7) (Operand.tmp 127), type := 0, pos := "outright.go:169", after := #[{ on := 9, ground := Ground.data }, { on := 7, ground := Ground.chain }, { on := 0, ground := Ground.phase }, { on := 1, ground := Ground.phase }, { on := 2, ground := Ground.phase }, { on := 3, ground := Ground.phase }, { on := 4, ground := Ground.phase }, { on := 5, ground := Ground.phase }, { on := 6, ground := Ground.phase }, { on := 7, ground := Ground.phase }, { on := 8, ground := Ground.phase }, { on := 9, ground := Ground.phase }, { on := 10, ground := Ground.textOnly Departure.lateStores }, { on := 11, ground := Ground.textOnly Departure.lateStores }], guard := none }) rfl (fun K hK => ?_) AllReadyH.nil
                  refine op_putC (zs := csL c') (csL ans.2.1) rfl (sizeCsL _) (csL_one _) rfl _ _ rfl _ rfl rfl (hC.b (CB, c') (by simp)) ?_
                  intro w9 b9 g9
                  have hZ : ZM w l s MB ev2 [(CB, ans.2.1)] w9 := hC.put b9 g9 (by simp)
                  have PX : Hid (ZM w l s MB ev2 [(CB, ans.2.1)] w9) := hZ
                  refine hK.out _ _ ⟨_, hZ⟩ (fun hH => ?_)
                  simp only [Act.put]
                  refine wpAnyH_done (by kernel_rfl) ?_ _
                  clear hH hK b9 g9 hZ hC
                  go_wp2_with fail
                  go_roundw
                  case rel => exact ⟨k + 1, _, ev2, by go_num, by omega, PX⟩
                  case measure => simp [intOf]; omega
              · go_wp2_with fail
                go_roundw
                case rel => exact ⟨k + 1, c', ev2, by go_num, by omega, S11⟩
                case measure => simp [intOf]; omega
      · go_wp2_with fail
        go_ret
        exact ⟨rfl, SR.out.bb⟩
end Go.Proofs.Ytmbbigkpeefjjaa
