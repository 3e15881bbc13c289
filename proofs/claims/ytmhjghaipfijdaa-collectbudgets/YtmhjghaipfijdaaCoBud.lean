/-
  Ours: the walk of CollectBudgets (gen_colaw.py: THE SEAT's OWN NUMBERS).
-/
import Derived.Test.YtmhjghaipfijdaaCoTol
namespace Go.Proofs.Ytmhjghaipfijdaa
open Go.RowKit LedM PolM CoM

namespace CoM
/-- What CollectBudgets asks of a step. -/
structure BF (l : List Int) (e : Ev) (c : Cs) (a : An) : Prop where
  f1 : e.k = 6 → a.1 = 0 → decide (e.a < 1) = false ∧ decide (wrap64 (l.getD 8 0 - c.lf) < e.a) = false ∧ wrap64 (c.lf + e.a) = a.2.1.lf
  f2 : ¬ (e.k = 6 ∧ a.1 = 0) → c.lf = a.2.1.lf
  g1 : decide (l.getD 8 0 < a.2.1.lf) = false
  g2 : decide (a.2.1.cf < 0) = false
  g3 : decide (l.getD 7 0 < a.2.1.cf) = false
  g4 : decide (a.2.1.lf < a.2.1.cf) = false
  h1 : decide (l.getD 11 0 < a.2.1.re) = false
  h2 : decide (l.getD 9 0 < a.2.1.pr) = false
  h3 : decide (a.2.1.pr < 0) = false
  o1 : opn a.2.1 = false → (a.2.1.pr != 0) = false
  o2 : opn a.2.1 = false → (a.2.1.cf != 0) = false
theorem budget_of {l hs : List Int} {c : Cs} {e : Ev} {n : Int} (hg : good l hs = true) (I : Inv (pn l) n c) (hn : 0 ≤ n ∧ n < 4611686018427387904) (E : EvOk e) : BF l e c (stepA l hs c e) := by
  have P := pol_of hg
  have I' : Inv (pn l) (n + 1) (stepA l hs c e).2.1 := by
    by_cases h0 : (stepA l hs c e).1 = 0
    · exact (step_fact rfl P I hn E h0).inv
    · rw [step_no h0]; exact I.mono (by omega)
  have x1 := I'.fe; have x2 := I'.re; have x3 := I'.pr; have y1 := I.fe
  have b5 := P.lc; have Ea := E.a
  simp only [pn] at x1 x2 x3 y1 b5
  unfold i64 at Ea
  have cl : opn (stepA l hs c e).2.1 = false → (stepA l hs c e).2.1.pr = 0 ∧ (stepA l hs c e).2.1.cf = 0 := fun h => by
    have z := I'.cl (by simpa only [opn, decide_eq_false_iff_not] using h)
    exact ⟨z.2.2.1, z.2.2.2.1⟩
  refine ⟨fun hk h0 => ?_, fun hk => ?_, decide_eq_false (by omega), decide_eq_false (by omega), decide_eq_false (by omega), decide_eq_false (by omega), decide_eq_false (by omega), decide_eq_false (by omega), decide_eq_false (by omega), fun h => ?_, fun h => ?_⟩
  · have F := (step_fact rfl P I hn E h0).fee hk
    simp only [pn] at F
    refine ⟨decide_eq_false (by omega), decide_eq_false ?_, ?_⟩
    · rw [wr (by omega) (by omega)]; omega
    · rw [wr (by omega) (by omega)]; omega
  · by_cases h0 : (stepA l hs c e).1 = 0
    · exact ((step_fact rfl P I hn E h0).nof (fun q => hk ⟨q, h0⟩)).symm
    · rw [step_no h0]
  · rw [(cl h).1]; rfl
  · rw [(cl h).2]; rfl
end CoM
set_option maxRecDepth 20000 in
set_option maxHeartbeats 4000000 in
theorem budgets_any (l hs : List Int) (s v : Value) (es : List Ev) (w : World) (hl : l.length = 17) (hr : Rd w s (bkL hs)) (hb : hs.length * 8 ≤ 140737488355328) (er : RdV w v es) (hE : es.length ≤ 4398046511104) (okE : ∀ i, EvOk (eN es i)) :
    Calls Try.prog 5 #[PV l s, v] w fun e w' => e = .returned (.bool true) ∧ Below w.heap.size w w' := by
  show Calls _ _ #[.agg (polL l s).toArray, _] _ _
  have OW : Hid (∀ w', Below w.heap.size w w' → Calls Try.prog 13 #[PV l s] w' (OwnAns l hs w')) := fun w' h => own_at l hs s w' hl (hr.later h) hb
  have FR : Hid (∀ w', Calls Try.prog 11 #[] w' fun e w'' => e = .returned (csV fresh) ∧ Below w'.heap.size w' w'') := fresh_at
  have MY : Hid (∀ w', Below w.heap.size w w' → Calls Try.prog 9 #[PV l s] w' fun e w'' => e = .returned (.bool (good l hs)) ∧ Below w'.heap.size w' w'') := fun w' h => mayc_at l hs s w' hl (hr.later h) (by omega)
  have OP : Hid (good l hs = true → ∀ w', Below w.heap.size w w' → Calls Try.prog 10 #[PV l s] w' fun e w'' => e = .returned (.bool true) ∧ Below w'.heap.size w' w'') := fun hg w' h => opens_at l hs s w' hl (hr.later h) hb hg
  have ST : Hid (∀ c ev s' w', Rd w' s' (bkL hs) → Calls Try.prog 12 #[PV l s', csV c, evV ev] w' (StepAns (stepA l hs c ev) w')) := fun c ev s' w' h => step_at l hs s' c ev w' hl h (by omega)
  have SZ : Hid ((Try.prog.info? 24).map (·.size) = some (polL l s).length) := by show _ = _; rw [polL_len hl]; exact sizeP
  have S0 : Hid (PS w l s (w.alloc (.cells (polL l s).toArray 24))) := ⟨Blk.new _ _ _, below_alloc _ _⟩
  have HL : Hid (l.length = 17) := hl
  have ER : Hid (RdV w v es) := er
  obtain ⟨ao, cap, rfl, hcap, hno, er'⟩ := er
  have EC : Hid (∀ k, k < es.length → ∃ g o, ao = some ⟨g, o, none⟩ ∧ g < w.heap.size ∧ w.rangeAt g (o + k * 4) (evL (eN es k))) := er'
  have OK : Hid (∀ k, EvOk (eN es k)) := okE
  clear hl hr hb er' ER okE hno
  generalize es.length = N at *
  cases hg : good l hs
  · go_enter Try.func5, Try.ntmps5
    go_upto_region 1 with fail
    generalize w.alloc (.cells (polL l s).toArray 24) = w0 at *
    go_wp2_with ((with_reducible refine at_loadT 24 ?_); refine step_load rfl 24 _ rfl w.heap.size 0 rfl (polL l s) _ (Blk.all S0.out.p) Try.underlying24 rfl SZ.out ?_)
    refine (MY.out _ S0.out.bb).mono ?_
    rw [hg]
    rintro e w2 ⟨rfl, bX⟩
    have S2 : Hid (PS w l s w2) := S0.out.later bX
    clear bX
    go_wp2_with fail
    go_ret
    exact ⟨rfl, S2.out.bb⟩
  · go_enter Try.func5, Try.ntmps5
    go_upto_region 1 with fail
    generalize w.alloc (.cells (polL l s).toArray 24) = w0 at *
    go_wp2_with ((with_reducible refine at_loadT 24 ?_); refine step_load rfl 24 _ rfl w.heap.size 0 rfl (polL l s) _ (Blk.all S0.out.p) Try.underlying24 rfl SZ.out ?_)
    refine (MY.out _ S0.out.bb).mono ?_
    rw [hg]
    rintro e w1 ⟨rfl, bX⟩
    have S1 : Hid (PS w l s w1) := S0.out.later bX
    clear bX
    go_wp2_with ((with_reducible refine at_loadT 24 ?_); refine step_load rfl 24 _ rfl w.heap.size 0 rfl (polL l s) _ (Blk.all S1.out.p) Try.underlying24 rfl SZ.out ?_)
    refine (OP.out hg _ S1.out.bb).mono ?_
    rintro e w2 ⟨rfl, bX⟩
    have S2 : Hid (PS w l s w2) := S1.out.later bX
    clear bX
    go_wp2_with fail
    refine (FR.out _).mono ?_
    rintro e w3 ⟨rfl, bX⟩
    have S3 : Hid (PS w l s w3) := S2.out.later bX
    clear bX S2
    have NZ : Hid (Blk w3.heap.size 28 (csL ⟨0, false, 0, 0, 0, 0, 0, 0, 0, 0, 0, 0, 0, 0, 0⟩) (w3.alloc (.cells #[.int .i64 0, .bool false, .int .i64 0, .int .i64 0, .int .i64 0, .int .i64 0, .int .i64 0, .int .i64 0, .int .i64 0, .int .i64 0, .int .i64 0, .int .i64 0, .int .i64 0, .int .i64 0, .int .i64 0] 28))) := Blk.new _ _ _
    go_upto_region 6 with ((with_reducible refine at_store ?_); refine step_store rfl 28 _ _ rfl w3.heap.size 0 28 (csL ⟨0, false, 0, 0, 0, 0, 0, 0, 0, 0, 0, 0, 0, 0, 0⟩) (csL fresh) rfl rfl NZ.out (Nat.le_refl 15) (sizeCsL _) (csL_one _) ?_; intro w4 n4 g4)
    have S4 : Hid (LS w l s fresh w3.heap.size w4) := by
      have x := S3.out.later (below_alloc w3 (.cells #[.int .i64 0, .bool false, .int .i64 0, .int .i64 0, .int .i64 0, .int .i64 0, .int .i64 0, .int .i64 0, .int .i64 0, .int .i64 0, .int .i64 0, .int .i64 0, .int .i64 0, .int .i64 0, .int .i64 0] 28))
      have y := x.grown g4 S3.out.p.lt
      exact ⟨y.p, n4, y.bb, S3.out.p.lt⟩
    clear n4 g4 NZ S3
    obtain ⟨CB, hCB⟩ : ∃ CB, w3.heap.size = CB := ⟨_, rfl⟩
    rw [hCB] at S4
    rw [hCB]
    clear hCB
    go_wp2_with fail
    go_loopw [6, 7, 8, 9, 10] (fun v6 v7 _ _ _ wr => ∃ (k : Nat) (c : Cs), v7 = .int .i64 (k : Int) ∧ k ≤ N ∧ v6 = .int .i64 c.lf ∧ Hid (Inv (pn l) (k : Int) c) ∧ Hid (LS w l s c CB wr)) (fun _ v7 _ _ _ _ => N - (intOf v7).toNat)
    case atStart => exact ⟨0, fresh, rfl, by omega, rfl, inv_fresh (pol_of hg), S4⟩
    case round =>
      obtain ⟨k, c, rfl, hk, rfl, IV, SR⟩ := hrel
      by_cases hlt : (k : Int) < (N : Int)
      · obtain ⟨g, o, rfl, lt, rg⟩ := EC.out k (by omega)
        have EV : Hid (∀ w', Below w.heap.size w w' → w'.rangeAt g (o + k * 4) (evL (eN es k))) := fun w' h => range_laterC rg lt h
        have EK : Hid (EvOk (eN es k)) := OK.out k
        clear rg lt EC
        generalize eN es k = ev at *
        have SK : Hid (∀ s' w', Rd w' s' (bkL hs) → Calls Try.prog 12 #[PV l s', csV c, evV ev] w' (StepAns (stepA l hs c ev) w')) := fun s' w' h => ST.out c ev s' w' h
        have SF : Hid ((stepA l hs c ev).1 ≠ 0 → (stepA l hs c ev).2 = (c, [])) := step_no
        have BB : Hid (BF l ev c (stepA l hs c ev)) := budget_of hg IV.out (by omega) EK.out
        have IN : Hid (Inv (pn l) ((k + 1 : Nat) : Int) (stepA l hs c ev).2.1) := (inv_next (hs := hs) (.inl IV.out) (by omega) EK.out).resolve_right (by rw [hg]; decide)

        generalize stepA l hs c ev = ans at *
        go_upto_region 10 with fail
        go_cut [8, 9, 10] from 18 to 133 (fun v7 v8 v9 wx => ∃ G ra rn rc, v7 = .pointer (some ⟨G, 0, none⟩) ∧ v8 = .slice ra rn rc ∧ v9 = .int .i64 ans.1 ∧ Hid (SA w l s c CB G ans (.slice ra rn rc) wx))
        case first =>
          have hu := Try.underlying24
          have hi := SZ.out
          have hu2 := Try.underlying28
          have hi2 := sizeCsL c
          have hu3 := Try.underlying35
          have hi3 := sizeEvL ev
          refine wp_region_held_drew (S := fun w' => LS w l s c CB w') (by kernel_rfl) (SR.out.drew) (fun hH => ?_)
          refine wpAnyH_take (i := 0) (oi := { dst := some 25, op := Op.load 24 (Operand.tmp 2), type := 24, pos := "outright.go:123", after := #[], guard := none }) (v := .agg (polL l s).toArray) rfl (by kernel_rfl) (by kernel_rfl) (by kernel_rfl) (fun _ _ _ h => h) (yieldsIf_load_mid (by rfl) _ _ rfl w.heap.size 0 rfl (polL l s) _ (fun w' h => h.p.all) hu rfl hi) hH ?_
          try simp only [Act.put, List.setIfInBounds_toArray, List.set_cons_zero, List.set_cons_succ]
          refine wpAnyH_take (i := 2) (oi := { dst := some 27, op := Op.load 28 (Operand.tmp 5), type := 28, pos := "outright.go:123", after := #[], guard := none }) (v := .agg (csL c).toArray) rfl (by kernel_rfl) (by kernel_rfl) (by kernel_rfl) (fun _ _ _ h => h) (yieldsIf_load_mid (by rfl) _ _ rfl CB 0 rfl (csL c) _ (fun w' h => h.c.all) hu2 rfl hi2) hH ?_
          try simp only [Act.put, List.setIfInBounds_toArray, List.set_cons_zero, List.set_cons_succ]
          refine wpAnyH_take (i := 3) (oi := { dst := some 28, op := Op.move (Operand.tmp 1), type := 25, pos := "outright.go:123", after := #[], guard := none }) (v := .slice (some ⟨g, o, none⟩) N cap) rfl (by kernel_rfl) (by kernel_rfl) (by kernel_rfl) (fun _ _ _ h => h) (Or.inl ⟨by rfl, fun w' h => by go_simp⟩) hH ?_
          try simp only [Act.put, List.setIfInBounds_toArray, List.set_cons_zero, List.set_cons_succ]
          refine wpAnyH_take (i := 4) (oi := { dst := some 29, op := Op.move (Operand.tmp 7), type := 3, pos := "outright.go:123", after := #[], guard := none }) (v := .int .i64 (k : Int)) rfl (by kernel_rfl) (by kernel_rfl) (by kernel_rfl) (fun _ _ _ h => h) (Or.inl ⟨by rfl, fun w' h => by go_simp⟩) hH ?_
          try simp only [Act.put, List.setIfInBounds_toArray, List.set_cons_zero, List.set_cons_succ]
          refine wpAnyH_take (i := 5) (oi := { dst := some 30, op := Op.indexAddr 25 (Operand.tmp 28) (Operand.tmp 29), type := 0, pos := "outright.go:123", after := #[{ on := 3, ground := Ground.data }, { on := 4, ground := Ground.data }], guard := none }) (v := .pointer (some ⟨g, o + k * 4, none⟩)) rfl (by kernel_rfl) (by kernel_rfl) (by kernel_rfl) (fun _ _ _ h => h) (Or.inl ⟨by rfl, fun w' h => by go_simp⟩) hH ?_
          try simp only [Act.put, List.setIfInBounds_toArray, List.set_cons_zero, List.set_cons_succ]
          refine wpAnyH_take (i := 6) (oi := { dst := some 31, op := Op.load 35 (Operand.tmp 30), type := 35, pos := "outright.go:123", after := #[{ on := 5, ground := Ground.data }], guard := none }) (v := .agg (evL ev).toArray) rfl (by kernel_rfl) (by kernel_rfl) (by kernel_rfl) (fun _ _ _ h => h) (yieldsIf_load_mid (by rfl) _ _ rfl g (o + k * 4) rfl (evL ev) _ (fun w' h => EV.out _ h.bb) hu3 rfl hi3) hH ?_
          try simp only [Act.put, List.setIfInBounds_toArray, List.set_cons_zero, List.set_cons_succ]
          refine wpAnyH_ready (rs := [1, 12]) (by kernel_rfl) (by simp) ?_
          refine AllReadyH.cons (o := { dst := some 26, op := Op.call { callee := Callee.value (Operand.func 13), args := #[Operand.tmp 25], argTypes := #[24] }, type := 24, pos := "outright.go:123", after := #[{ on := 0, ground := Ground.data }], guard := none }) rfl (fun K hK => ?_) (AllReadyH.cons (o := { dst := some 8, op := Op.alloc 28, type := 0, pos := "outright.go:123", after := #[], guard := none }) rfl (fun K hK => ?_) AllReadyH.nil)
          · go_simp
            refine (OW.out _ hH.bb).mono ?_
            rintro e x1 ⟨oa, on, oc, rfl, orow, bX⟩
            refine hK.out _ _ (hH.later bX) (fun hH => ?_)
            refine wpAnyH_ready (rs := [7, 12]) (by kernel_rfl) (by simp) ?_
            refine AllReadyH.cons (o := { dst := some 32, op := Op.call { callee := Callee.value (Operand.func 12), args := #[Operand.tmp 26, Operand.tmp 27, Operand.tmp 31], argTypes := #[24, 28, 35] }, type := 31, pos := "outright.go:123", after := #[{ on := 1, ground := Ground.data }, { on := 2, ground := Ground.data }, { on := 6, ground := Ground.data }, { on := 1, ground := Ground.chain }], guard := none }) rfl (fun K hK => ?_) (AllReadyH.cons (o := { dst := some 8, op := Op.alloc 28, type := 0, pos := "outright.go:123", after := #[], guard := none }) rfl (fun K hK => ?_) AllReadyH.nil)
            · go_simp
              refine (SK.out _ _ orow.rd).mono ?_
              rintro e x2 ⟨ra, rn, rc, rfl, rrow, bX⟩
              have orow := orow.later bX
              have rrow := rrow.mono hH.bb.size
              refine hK.out _ _ (hH.later bX) (fun hH => ?_)
              refine wpAnyH_take (i := 8) (oi := { dst := some 24, op := Op.move (Operand.tmp 32), type := 31, pos := "outright.go:123", after := #[{ on := 7, ground := Ground.data }], guard := none }) (v := .tuple #[csV ans.2.1, .slice ra rn rc, .int .i64 ans.1]) rfl (by kernel_rfl) (by kernel_rfl) (by kernel_rfl) (fun _ _ _ h => h) (Or.inl ⟨by rfl, fun w' h => by go_simp⟩) hH ?_
              try simp only [Act.put, List.setIfInBounds_toArray, List.set_cons_zero, List.set_cons_succ]
              refine wpAnyH_take (i := 9) (oi := { dst := some 33, op := Op.extract (Operand.tmp 24) 0, type := 28, pos := "outright.go:123", after := #[{ on := 8, ground := Ground.data }], guard := none }) (v := csV ans.2.1) rfl (by kernel_rfl) (by kernel_rfl) (by kernel_rfl) (fun _ _ _ h => h) (Or.inl ⟨by rfl, fun w' h => by go_simp⟩) hH ?_
              try simp only [Act.put, List.setIfInBounds_toArray, List.set_cons_zero, List.set_cons_succ]
              refine wpAnyH_take (i := 10) (oi := { dst := some 34, op := Op.extract (Operand.tmp 24) 1, type := 22, pos := "outright.go:123", after := #[{ on := 8, ground := Ground.data }, { on := 13, ground := Ground.gcOnly Departure.lateStores }], guard := none }) (v := .slice ra rn rc) rfl (by kernel_rfl) (by kernel_rfl) (by kernel_rfl) (fun _ _ _ h => h) (Or.inl ⟨by rfl, fun w' h => by go_simp⟩) hH ?_
              try simp only [Act.put, List.setIfInBounds_toArray, List.set_cons_zero, List.set_cons_succ]
              refine wpAnyH_take (i := 11) (oi := { dst := some 35, op := Op.extract (Operand.tmp 24) 2, type := 30, pos := "outright.go:123", after := #[{ on := 8, ground := Ground.data }, { on := 14, ground := Ground.gcOnly Departure.lateStores }], guard := none }) (v := .int .i64 ans.1) rfl (by kernel_rfl) (by kernel_rfl) (by kernel_rfl) (fun _ _ _ h => h) (Or.inl ⟨by rfl, fun w' h => by go_simp⟩) hH ?_
              try simp only [Act.put, List.setIfInBounds_toArray, List.set_cons_zero, List.set_cons_succ]
              refine wpAnyH_ready (rs := [12]) (by kernel_rfl) (by simp) ?_
              refine AllReadyH.cons (o := { dst := some 8, op := Op.alloc 28, type := 0, pos := "outright.go:123", after := #[], guard := none }) rfl (fun K hK => ?_) AllReadyH.nil
              go_simp
              have hN : Blk x2.heap.size 28 (csL ⟨0, false, 0, 0, 0, 0, 0, 0, 0, 0, 0, 0, 0, 0, 0⟩) (x2.alloc (.cells #[.int .i64 0, .bool false, .int .i64 0, .int .i64 0, .int .i64 0, .int .i64 0, .int .i64 0, .int .i64 0, .int .i64 0, .int .i64 0, .int .i64 0, .int .i64 0, .int .i64 0, .int .i64 0, .int .i64 0] 28)) := Blk.new _ _ _
              have hG : CB < x2.heap.size := hH.c.lt
              have orow := orow.later (below_alloc x2 (.cells #[.int .i64 0, .bool false, .int .i64 0, .int .i64 0, .int .i64 0, .int .i64 0, .int .i64 0, .int .i64 0, .int .i64 0, .int .i64 0, .int .i64 0, .int .i64 0, .int .i64 0, .int .i64 0, .int .i64 0] 28))
              have rrow := rrow.later (below_alloc x2 (.cells #[.int .i64 0, .bool false, .int .i64 0, .int .i64 0, .int .i64 0, .int .i64 0, .int .i64 0, .int .i64 0, .int .i64 0, .int .i64 0, .int .i64 0, .int .i64 0, .int .i64 0, .int .i64 0, .int .i64 0] 28))
              refine hK.out _ _ (hH.later (below_alloc _ _)) (fun hH => ?_)
              refine wpAnyH_ready (rs := [13]) (by kernel_rfl) (by simp) ?_
              refine AllReadyH.cons (o := { dst := none, op := Op.store 28 (Operand.tmp 8) (Operand.tmp 33), type := 0, pos := "outright.go:123", after := #[{ on := 12, ground := Ground.data }, { on := 9, ground := Ground.data }, { on := 7, ground := Ground.chain }, { on := 0, ground := Ground.phase }, { on := 1, ground := Ground.phase }, { on := 2, ground := Ground.phase }, { on := 3, ground := Ground.phase }, { on := 4, ground := Ground.phase }, { on := 5, ground := Ground.phase }, { on := 6, ground := Ground.phase }, { on := 7, ground := Ground.phase }, { on := 8, ground := Ground.phase }, { on := 9, ground := Ground.phase }, { on := 10, ground := Ground.textOnly Departure.lateStores }, { on := 11, ground := Ground.textOnly Departure.lateStores }, { on := 12, ground := Ground.phase }], guard := none }) rfl (fun K hK => ?_) AllReadyH.nil
              refine op_putC (zs := csL ⟨0, false, 0, 0, 0, 0, 0, 0, 0, 0, 0, 0, 0, 0, 0⟩) (csL ans.2.1) rfl (sizeCsL _) (csL_one _) rfl _ _ rfl _ rfl rfl hN ?_
              intro w9 b9 g9
              have PX : Hid (SA w l s c CB _ ans (.slice ra rn rc) w9) := ⟨hH.grown g9 hG, b9, hG, rowV_blk rrow hN g9 (by decide)⟩
              refine hK.out _ _ PX.out.ls (fun hH => ?_)
              simp only [Act.put]
              refine wpAnyH_take (i := 14) (oi := { dst := some 9, op := Op.assign (Operand.tmp 34), type := 22, pos := "outright.go:123", after := #[{ on := 10, ground := Ground.data }, { on := 13, ground := Ground.chain }, { on := 0, ground := Ground.phase }, { on := 1, ground := Ground.phase }, { on := 2, ground := Ground.phase }, { on := 3, ground := Ground.phase }, { on := 4, ground := Ground.phase }, { on := 5, ground := Ground.phase }, { on := 6, ground := Ground.phase }, { on := 7, ground := Ground.phase }, { on := 8, ground := Ground.phase }, { on := 9, ground := Ground.phase }, { on := 10, ground := Ground.phase }, { on := 11, ground := Ground.textOnly Departure.lateStores }, { on := 12, ground := Ground.phase }, { on := 13, ground := Ground.phase }], guard := none }) (v := .slice ra rn rc) rfl (by kernel_rfl) (by kernel_rfl) (by kernel_rfl) (fun _ _ _ h => h) (Or.inl ⟨by rfl, fun w' h => by go_simp⟩) hH ?_
              try simp only [Act.put, List.setIfInBounds_toArray, List.set_cons_zero, List.set_cons_succ]
              refine wpAnyH_take (i := 15) (oi := { dst := some 10, op := Op.assign (Operand.tmp 35), type := 30, pos := "outright.go:123", after := #[{ on := 11, ground := Ground.data }, { on := 14, ground := Ground.chain }, { on := 0, ground := Ground.phase }, { on := 1, ground := Ground.phase }, { on := 2, ground := Ground.phase }, { on := 3, ground := Ground.phase }, { on := 4, ground := Ground.phase }, { on := 5, ground := Ground.phase }, { on := 6, ground := Ground.phase }, { on := 7, ground := Ground.phase }, { on := 8, ground := Ground.phase }, { on := 9, ground := Ground.phase }, { on := 10, ground := Ground.phase }, { on := 11, ground := Ground.phase }, { on := 12, ground := Ground.phase }, { on := 13, ground := Ground.phase }, { on := 14, ground := Ground.phase }], guard := none }) (v := .int .i64 ans.1) rfl (by kernel_rfl) (by kernel_rfl) (by kernel_rfl) (fun _ _ _ h => h) (Or.inl ⟨by rfl, fun w' h => by go_simp⟩) hH ?_
              try simp only [Act.put, List.setIfInBounds_toArray, List.set_cons_zero, List.set_cons_succ]
              refine wpAnyH_done (by kernel_rfl) ?_ _
              clear hH hK b9 g9 hN
              go_wp2_with fail
              go_meet
              case rel => exact ⟨_, _, _, _, rfl, rfl, rfl, PX⟩
            · go_simp
              have hN : Blk x1.heap.size 28 (csL ⟨0, false, 0, 0, 0, 0, 0, 0, 0, 0, 0, 0, 0, 0, 0⟩) (x1.alloc (.cells #[.int .i64 0, .bool false, .int .i64 0, .int .i64 0, .int .i64 0, .int .i64 0, .int .i64 0, .int .i64 0, .int .i64 0, .int .i64 0, .int .i64 0, .int .i64 0, .int .i64 0, .int .i64 0, .int .i64 0] 28)) := Blk.new _ _ _
              have hG : CB < x1.heap.size := hH.c.lt
              have orow := orow.later (below_alloc x1 (.cells #[.int .i64 0, .bool false, .int .i64 0, .int .i64 0, .int .i64 0, .int .i64 0, .int .i64 0, .int .i64 0, .int .i64 0, .int .i64 0, .int .i64 0, .int .i64 0, .int .i64 0, .int .i64 0, .int .i64 0] 28))
              refine hK.out _ _ (hH.later (below_alloc _ _)) (fun hH => ?_)
              refine wpAnyH_ready (rs := [7]) (by kernel_rfl) (by simp) ?_
              refine AllReadyH.cons (o := { dst := some 32, op := Op.call { callee := Callee.value (Operand.func 12), args := #[Operand.tmp 26, Operand.tmp 27, Operand.tmp 31], argTypes := #[24, 28, 35] }, type := 31, pos := "outright.go:123", after := #[{ on := 1, ground := Ground.data }, { on := 2, ground := Ground.data }, { on := 6, ground := Ground.data }, { on := 1, ground := Ground.chain }], guard := none }) rfl (fun K hK => ?_) AllReadyH.nil
              go_simp
              refine (SK.out _ _ orow.rd).mono ?_
              rintro e x3 ⟨ra, rn, rc, rfl, rrow, bX⟩
              have orow := orow.later bX
              have hN := hN.below bX
              have rrow := rrow.mono hH.bb.size
              refine hK.out _ _ (hH.later bX) (fun hH => ?_)
              refine wpAnyH_take (i := 8) (oi := { dst := some 24, op := Op.move (Operand.tmp 32), type := 31, pos := "outright.go:123", after := #[{ on := 7, ground := Ground.data }], guard := none }) (v := .tuple #[csV ans.2.1, .slice ra rn rc, .int .i64 ans.1]) rfl (by kernel_rfl) (by kernel_rfl) (by kernel_rfl) (fun _ _ _ h => h) (Or.inl ⟨by rfl, fun w' h => by go_simp⟩) hH ?_
              try simp only [Act.put, List.setIfInBounds_toArray, List.set_cons_zero, List.set_cons_succ]
              refine wpAnyH_take (i := 9) (oi := { dst := some 33, op := Op.extract (Operand.tmp 24) 0, type := 28, pos := "outright.go:123", after := #[{ on := 8, ground := Ground.data }], guard := none }) (v := csV ans.2.1) rfl (by kernel_rfl) (by kernel_rfl) (by kernel_rfl) (fun _ _ _ h => h) (Or.inl ⟨by rfl, fun w' h => by go_simp⟩) hH ?_
              try simp only [Act.put, List.setIfInBounds_toArray, List.set_cons_zero, List.set_cons_succ]
              refine wpAnyH_take (i := 10) (oi := { dst := some 34, op := Op.extract (Operand.tmp 24) 1, type := 22, pos := "outright.go:123", after := #[{ on := 8, ground := Ground.data }, { on := 13, ground := Ground.gcOnly Departure.lateStores }], guard := none }) (v := .slice ra rn rc) rfl (by kernel_rfl) (by kernel_rfl) (by kernel_rfl) (fun _ _ _ h => h) (Or.inl ⟨by rfl, fun w' h => by go_simp⟩) hH ?_
              try simp only [Act.put, List.setIfInBounds_toArray, List.set_cons_zero, List.set_cons_succ]
              refine wpAnyH_take (i := 11) (oi := { dst := some 35, op := Op.extract (Operand.tmp 24) 2, type := 30, pos := "outright.go:123", after := #[{ on := 8, ground := Ground.data }, { on := 14, ground := Ground.gcOnly Departure.lateStores }], guard := none }) (v := .int .i64 ans.1) rfl (by kernel_rfl) (by kernel_rfl) (by kernel_rfl) (fun _ _ _ h => h) (Or.inl ⟨by rfl, fun w' h => by go_simp⟩) hH ?_
              try simp only [Act.put, List.setIfInBounds_toArray, List.set_cons_zero, List.set_cons_succ]
              refine wpAnyH_ready (rs := [13]) (by kernel_rfl) (by simp) ?_
              refine AllReadyH.cons (o := { dst := none, op := Op.store 28 (Operand.tmp 8) (Operand.tmp 33), type := 0, pos := "outright.go:123", after := #[{ on := 12, ground := Ground.data }, { on := 9, ground := Ground.data }, { on := 7, ground := Ground.chain }, { on := 0, ground := Ground.phase }, { on := 1, ground := Ground.phase }, { on := 2, ground := Ground.phase }, { on := 3, ground := Ground.phase }, { on := 4, ground := Ground.phase }, { on := 5, ground := Ground.phase }, { on := 6, ground := Ground.phase }, { on := 7, ground := Ground.phase }, { on := 8, ground := Ground.phase }, { on := 9, ground := Ground.phase }, { on := 10, ground := Ground.textOnly Departure.lateStores }, { on := 11, ground := Ground.textOnly Departure.lateStores }, { on := 12, ground := Ground.phase }], guard := none }) rfl (fun K hK => ?_) AllReadyH.nil
              refine op_putC (zs := csL ⟨0, false, 0, 0, 0, 0, 0, 0, 0, 0, 0, 0, 0, 0, 0⟩) (csL ans.2.1) rfl (sizeCsL _) (csL_one _) rfl _ _ rfl _ rfl rfl hN ?_
              intro w9 b9 g9
              have PX : Hid (SA w l s c CB _ ans (.slice ra rn rc) w9) := ⟨hH.grown g9 hG, b9, hG, rowV_blk rrow hN g9 (by decide)⟩
              refine hK.out _ _ PX.out.ls (fun hH => ?_)
              simp only [Act.put]
              refine wpAnyH_take (i := 14) (oi := { dst := some 9, op := Op.assign (Operand.tmp 34), type := 22, pos := "outright.go:123", after := #[{ on := 10, ground := Ground.data }, { on := 13, ground := Ground.chain }, { on := 0, ground := Ground.phase }, { on := 1, ground := Ground.phase }, { on := 2, ground := Ground.phase }, { on := 3, ground := Ground.phase }, { on := 4, ground := Ground.phase }, { on := 5, ground := Ground.phase }, { on := 6, ground := Ground.phase }, { on := 7, ground := Ground.phase }, { on := 8, ground := Ground.phase }, { on := 9, ground := Ground.phase }, { on := 10, ground := Ground.phase }, { on := 11, ground := Ground.textOnly Departure.lateStores }, { on := 12, ground := Ground.phase }, { on := 13, ground := Ground.phase }], guard := none }) (v := .slice ra rn rc) rfl (by kernel_rfl) (by kernel_rfl) (by kernel_rfl) (fun _ _ _ h => h) (Or.inl ⟨by rfl, fun w' h => by go_simp⟩) hH ?_
              try simp only [Act.put, List.setIfInBounds_toArray, List.set_cons_zero, List.set_cons_succ]
              refine wpAnyH_take (i := 15) (oi := { dst := some 10, op := Op.assign (Operand.tmp 35), type := 30, pos := "outright.go:123", after := #[{ on := 11, ground := Ground.data }, { on := 14, ground := Ground.chain }, { on := 0, ground := Ground.phase }, { on := 1, ground := Ground.phase }, { on := 2, ground := Ground.phase }, { on := 3, ground := Ground.phase }, { on := 4, ground := Ground.phase }, { on := 5, ground := Ground.phase }, { on := 6, ground := Ground.phase }, { on := 7, ground := Ground.phase }, { on := 8, ground := Ground.phase }, { on := 9, ground := Ground.phase }, { on := 10, ground := Ground.phase }, { on := 11, ground := Ground.phase }, { on := 12, ground := Ground.phase }, { on := 13, ground := Ground.phase }, { on := 14, ground := Ground.phase }], guard := none }) (v := .int .i64 ans.1) rfl (by kernel_rfl) (by kernel_rfl) (by kernel_rfl) (fun _ _ _ h => h) (Or.inl ⟨by rfl, fun w' h => by go_simp⟩) hH ?_
              try simp only [Act.put, List.setIfInBounds_toArray, List.set_cons_zero, List.set_cons_succ]
              refine wpAnyH_done (by kernel_rfl) ?_ _
              clear hH hK b9 g9 hN
              go_wp2_with fail
              go_meet
              case rel => exact ⟨_, _, _, _, rfl, rfl, rfl, PX⟩
          · go_simp
            have hN : Blk wr.drew.heap.size 28 (csL ⟨0, false, 0, 0, 0, 0, 0, 0, 0, 0, 0, 0, 0, 0, 0⟩) (wr.drew.alloc (.cells #[.int .i64 0, .bool false, .int .i64 0, .int .i64 0, .int .i64 0, .int .i64 0, .int .i64 0, .int .i64 0, .int .i64 0, .int .i64 0, .int .i64 0, .int .i64 0, .int .i64 0, .int .i64 0, .int .i64 0] 28)) := Blk.new _ _ _
            have hG : CB < wr.drew.heap.size := hH.c.lt
            refine hK.out _ _ (hH.later (below_alloc _ _)) (fun hH => ?_)
            refine wpAnyH_ready (rs := [1]) (by kernel_rfl) (by simp) ?_
            refine AllReadyH.cons (o := { dst := some 26, op := Op.call { callee := Callee.value (Operand.func 13), args := #[Operand.tmp 25], argTypes := #[24] }, type := 24, pos := "outright.go:123", after := #[{ on := 0, ground := Ground.data }], guard := none }) rfl (fun K hK => ?_) AllReadyH.nil
            go_simp
            refine (OW.out _ hH.bb).mono ?_
            rintro e x4 ⟨oa, on, oc, rfl, orow, bX⟩
            have hN := hN.below bX
            refine hK.out _ _ (hH.later bX) (fun hH => ?_)
            refine wpAnyH_ready (rs := [7]) (by kernel_rfl) (by simp) ?_
            refine AllReadyH.cons (o := { dst := some 32, op := Op.call { callee := Callee.value (Operand.func 12), args := #[Operand.tmp 26, Operand.tmp 27, Operand.tmp 31], argTypes := #[24, 28, 35] }, type := 31, pos := "outright.go:123", after := #[{ on := 1, ground := Ground.data }, { on := 2, ground := Ground.data }, { on := 6, ground := Ground.data }, { on := 1, ground := Ground.chain }], guard := none }) rfl (fun K hK => ?_) AllReadyH.nil
            go_simp
            refine (SK.out _ _ orow.rd).mono ?_
            rintro e x5 ⟨ra, rn, rc, rfl, rrow, bX⟩
            have hN := hN.below bX
            have orow := orow.later bX
            have rrow := rrow.mono hH.bb.size
            refine hK.out _ _ (hH.later bX) (fun hH => ?_)
            refine wpAnyH_take (i := 8) (oi := { dst := some 24, op := Op.move (Operand.tmp 32), type := 31, pos := "outright.go:123", after := #[{ on := 7, ground := Ground.data }], guard := none }) (v := .tuple #[csV ans.2.1, .slice ra rn rc, .int .i64 ans.1]) rfl (by kernel_rfl) (by kernel_rfl) (by kernel_rfl) (fun _ _ _ h => h) (Or.inl ⟨by rfl, fun w' h => by go_simp⟩) hH ?_
            try simp only [Act.put, List.setIfInBounds_toArray, List.set_cons_zero, List.set_cons_succ]
            refine wpAnyH_take (i := 9) (oi := { dst := some 33, op := Op.extract (Operand.tmp 24) 0, type := 28, pos := "outright.go:123", after := #[{ on := 8, ground := Ground.data }], guard := none }) (v := csV ans.2.1) rfl (by kernel_rfl) (by kernel_rfl) (by kernel_rfl) (fun _ _ _ h => h) (Or.inl ⟨by rfl, fun w' h => by go_simp⟩) hH ?_
            try simp only [Act.put, List.setIfInBounds_toArray, List.set_cons_zero, List.set_cons_succ]
            refine wpAnyH_take (i := 10) (oi := { dst := some 34, op := Op.extract (Operand.tmp 24) 1, type := 22, pos := "outright.go:123", after := #[{ on := 8, ground := Ground.data }, { on := 13, ground := Ground.gcOnly Departure.lateStores }], guard := none }) (v := .slice ra rn rc) rfl (by kernel_rfl) (by kernel_rfl) (by kernel_rfl) (fun _ _ _ h => h) (Or.inl ⟨by rfl, fun w' h => by go_simp⟩) hH ?_
            try simp only [Act.put, List.setIfInBounds_toArray, List.set_cons_zero, List.set_cons_succ]
            refine wpAnyH_take (i := 11) (oi := { dst := some 35, op := Op.extract (Operand.tmp 24) 2, type := 30, pos := "outright.go:123", after := #[{ on := 8, ground := Ground.data }, { on := 14, ground := Ground.gcOnly Departure.lateStores }], guard := none }) (v := .int .i64 ans.1) rfl (by kernel_rfl) (by kernel_rfl) (by kernel_rfl) (fun _ _ _ h => h) (Or.inl ⟨by rfl, fun w' h => by go_simp⟩) hH ?_
            try simp only [Act.put, List.setIfInBounds_toArray, List.set_cons_zero, List.set_cons_succ]
            refine wpAnyH_ready (rs := [13]) (by kernel_rfl) (by simp) ?_
            refine AllReadyH.cons (o := { dst := none, op := Op.store 28 (Operand.tmp 8) (Operand.tmp 33), type := 0, pos := "outright.go:123", after := #[{ on := 12, ground := Ground.data }, { on := 9, ground := Ground.data }, { on := 7, ground := Ground.chain }, { on := 0, ground := Ground.phase }, { on := 1, ground := Ground.phase }, { on := 2, ground := Ground.phase }, { on := 3, ground := Ground.phase }, { on := 4, ground := Ground.phase }, { on := 5, ground := Ground.phase }, { on := 6, ground := Ground.phase }, { on := 7, ground := Ground.phase }, { on := 8, ground := Ground.phase }, { on := 9, ground := Ground.phase }, { on := 10, ground := Ground.textOnly Departure.lateStores }, { on := 11, ground := Ground.textOnly Departure.lateStores }, { on := 12, ground := Ground.phase }], guard := none }) rfl (fun K hK => ?_) AllReadyH.nil
            refine op_putC (zs := csL ⟨0, false, 0, 0, 0, 0, 0, 0, 0, 0, 0, 0, 0, 0, 0⟩) (csL ans.2.1) rfl (sizeCsL _) (csL_one _) rfl _ _ rfl _ rfl rfl hN ?_
            intro w9 b9 g9
            have PX : Hid (SA w l s c CB _ ans (.slice ra rn rc) w9) := ⟨hH.grown g9 hG, b9, hG, rowV_blk rrow hN g9 (by decide)⟩
            refine hK.out _ _ PX.out.ls (fun hH => ?_)
            simp only [Act.put]
            refine wpAnyH_take (i := 14) (oi := { dst := some 9, op := Op.assign (Operand.tmp 34), type := 22, pos := "outright.go:123", after := #[{ on := 10, ground := Ground.data }, { on := 13, ground := Ground.chain }, { on := 0, ground := Ground.phase }, { on := 1, ground := Ground.phase }, { on := 2, ground := Ground.phase }, { on := 3, ground := Ground.phase }, { on := 4, ground := Ground.phase }, { on := 5, ground := Ground.phase }, { on := 6, ground := Ground.phase }, { on := 7, ground := Ground.phase }, { on := 8, ground := Ground.phase }, { on := 9, ground := Ground.phase }, { on := 10, ground := Ground.phase }, { on := 11, ground := Ground.textOnly Departure.lateStores }, { on := 12, ground := Ground.phase }, { on := 13, ground := Ground.phase }], guard := none }) (v := .slice ra rn rc) rfl (by kernel_rfl) (by kernel_rfl) (by kernel_rfl) (fun _ _ _ h => h) (Or.inl ⟨by rfl, fun w' h => by go_simp⟩) hH ?_
            try simp only [Act.put, List.setIfInBounds_toArray, List.set_cons_zero, List.set_cons_succ]
            refine wpAnyH_take (i := 15) (oi := { dst := some 10, op := Op.assign (Operand.tmp 35), type := 30, pos := "outright.go:123", after := #[{ on := 11, ground := Ground.data }, { on := 14, ground := Ground.chain }, { on := 0, ground := Ground.phase }, { on := 1, ground := Ground.phase }, { on := 2, ground := Ground.phase }, { on := 3, ground := Ground.phase }, { on := 4, ground := Ground.phase }, { on := 5, ground := Ground.phase }, { on := 6, ground := Ground.phase }, { on := 7, ground := Ground.phase }, { on := 8, ground := Ground.phase }, { on := 9, ground := Ground.phase }, { on := 10, ground := Ground.phase }, { on := 11, ground := Ground.phase }, { on := 12, ground := Ground.phase }, { on := 13, ground := Ground.phase }, { on := 14, ground := Ground.phase }], guard := none }) (v := .int .i64 ans.1) rfl (by kernel_rfl) (by kernel_rfl) (by kernel_rfl) (fun _ _ _ h => h) (Or.inl ⟨by rfl, fun w' h => by go_simp⟩) hH ?_
            try simp only [Act.put, List.setIfInBounds_toArray, List.set_cons_zero, List.set_cons_succ]
            refine wpAnyH_done (by kernel_rfl) ?_ _
            clear hH hK b9 g9 hN
            go_wp2_with fail
            go_meet
            case rel => exact ⟨_, _, _, _, rfl, rfl, rfl, PX⟩
        case rest =>
          obtain ⟨G, ra, rn, rc, rfl, rfl, rfl, SX⟩ := hcut
          clear SR
          go_upto_region 12 with (first
          | ((with_reducible refine at_loadT 28 ?_); refine step_load rfl 28 _ rfl G 0 rfl (csL ans.2.1) _ (Blk.all SX.out.d) Try.underlying28 rfl (sizeCsL _) ?_)
          | ((with_reducible refine at_store ?_); refine step_store rfl 28 _ _ rfl CB 0 28 _ (csL ans.2.1) rfl rfl SX.out.ls.c (Nat.le_refl 15) (sizeCsL _) (csL_one _) ?_; intro w8 n8 g8))
          have S8 : Hid (LS w l s ans.2.1 CB w8) := SX.out.ls.put n8 g8
          clear n8 g8 SX
          simp only [Act.put, List.setIfInBounds_toArray, List.set_cons_zero, List.set_cons_succ]
          have ek : w8.cell? ⟨g, o + k * 4, none⟩ = some (.int .i64 ev.k) := EV.out _ S8.out.bb 0 _ rfl
          have ea : w8.cell? ⟨g, o + k * 4 + 3, none⟩ = some (.int .i64 ev.a) := EV.out _ S8.out.bb 3 _ rfl
          have p8 : w8.cell? ⟨w.heap.size, 8, none⟩ = some (.int .i64 (l.getD 8 0)) := S8.out.pol HL.out 8 (by decide)
          obtain ⟨f1, f2, g1, g2, g3, g4, h1, h2, h3, o1, o2⟩ := BB.out
          go_cut [46] from 22 to 133 (fun v wx => v = .bool (decide (ev.k = 6 ∧ ans.1 = 0)) ∧ Hid (LS w l s ans.2.1 CB wx))
          case first =>
            by_cases q6 : ev.k = 6
            · have e6 : (ev.k == 6) = true := by simpa using q6
              have HQ : Hid (ev.k = 6) := q6
              clear q6
              go_wp2_with fail
              go_meet
              case rel => exact ⟨by simp [HQ.out]; rfl, S8⟩
            · have e6 : (ev.k == 6) = false := by simpa using q6
              have HQ : Hid (¬ ev.k = 6) := q6
              clear q6
              go_wp2_with fail
              go_meet
              case rel => exact ⟨by simp [HQ.out], S8⟩
          case rest =>
            obtain ⟨rfl, S9⟩ := hcut
            clear S8 ek ea p8
            have ea : wc.cell? ⟨g, o + k * 4 + 3, none⟩ = some (.int .i64 ev.a) := EV.out _ S9.out.bb 3 _ rfl
            have p8 : wc.cell? ⟨w.heap.size, 8, none⟩ = some (.int .i64 (l.getD 8 0)) := S9.out.pol HL.out 8 (by decide)
            go_upto_if 46 with fail
            go_cut [6] from 22 to 133 (fun v wx => v = .int .i64 ans.2.1.lf ∧ Hid (LS w l s ans.2.1 CB wx))
            case first =>
              by_cases qq : ev.k = 6 ∧ ans.1 = 0
              · rw [decide_eq_true qq]
                obtain ⟨a1, a2, a3⟩ := f1 qq.1 qq.2
                have HA : Hid (wrap64 (c.lf + ev.a) = ans.2.1.lf) := a3
                clear qq f1 f2 a3 g1 g2 g3 g4 h1 h2 h3 o1 o2
                generalize hLC : l.getD 8 0 = LC at *
                go_wp2_with fail
                go_quiet (fail)
                have SQ : Hid (LS w l s ans.2.1 CB (wc.drewN nq)) := S9.out.drewN nq
                go_wp2_with fail
                go_meet
                case rel => exact ⟨by rw [← HA.out], SQ⟩
              · rw [decide_eq_false qq]
                have a3 := f2 qq
                have HA : Hid (c.lf = ans.2.1.lf) := a3
                clear qq f1 f2 a3 g1 g2 g3 g4 h1 h2 h3 o1 o2
                go_wp2_with fail
                go_meet
                case rel => exact ⟨by rw [← HA.out], S9⟩
            case rest =>
              obtain ⟨rfl, SA1⟩ := hcut
              clear S9 ea p8 f1 f2
              have p7 : wc.cell? ⟨w.heap.size, 7, none⟩ = some (.int .i64 (l.getD 7 0)) := SA1.out.pol HL.out 7 (by decide)
              have p8 : wc.cell? ⟨w.heap.size, 8, none⟩ = some (.int .i64 (l.getD 8 0)) := SA1.out.pol HL.out 8 (by decide)
              have p9 : wc.cell? ⟨w.heap.size, 9, none⟩ = some (.int .i64 (l.getD 9 0)) := SA1.out.pol HL.out 9 (by decide)
              have p11 : wc.cell? ⟨w.heap.size, 11, none⟩ = some (.int .i64 (l.getD 11 0)) := SA1.out.pol HL.out 11 (by decide)
              have c5 : wc.cell? ⟨CB, 5, none⟩ = some (.int .i64 ans.2.1.pr) := SA1.out.cs 5 _ rfl
              have c12 : wc.cell? ⟨CB, 12, none⟩ = some (.int .i64 ans.2.1.re) := SA1.out.cs 12 _ rfl
              have c13 : wc.cell? ⟨CB, 13, none⟩ = some (.int .i64 ans.2.1.cf) := SA1.out.cs 13 _ rfl
              have c14 : wc.cell? ⟨CB, 14, none⟩ = some (.int .i64 ans.2.1.lf) := SA1.out.cs 14 _ rfl
              have HO : Hid (∀ w', Calls Try.prog 14 #[csV ans.2.1] w' fun e w'' => e = .returned (.bool (opn ans.2.1)) ∧ Below w'.heap.size w' w'') := fun w' => open_at _ w'
              generalize hP7 : l.getD 7 0 = P7 at *
              generalize hP8 : l.getD 8 0 = P8 at *
              generalize hP9 : l.getD 9 0 = P9 at *
              generalize hP11 : l.getD 11 0 = P11 at *
              go_wp2_with ((with_reducible refine at_loadG 28 ?_); refine step_loadG rfl 28 _ rfl CB 0 rfl (csL ans.2.1) _ (Blk.all SA1.out.c) Try.underlying28 rfl (sizeCsL _) ?_)
              refine (HO.out _).mono ?_
              cases hp : opn ans.2.1
              · rintro e x9 ⟨rfl, bX⟩
                have o1' := o1 hp
                have o2' := o2 hp
                clear o1 o2
                have SB : Hid (LS w l s ans.2.1 CB x9) := SA1.out.later bX
                clear bX
                have c5b : x9.cell? ⟨CB, 5, none⟩ = some (.int .i64 ans.2.1.pr) := SB.out.cs 5 _ rfl
                have c13b : x9.cell? ⟨CB, 13, none⟩ = some (.int .i64 ans.2.1.cf) := SB.out.cs 13 _ rfl
                go_wp2_with fail
                go_roundw
                case rel => exact ⟨k + 1, ans.2.1, by go_num, by omega, rfl, IN, SB⟩
                case measure => simp [intOf]; omega
              · rintro e x9 ⟨rfl, bX⟩
                clear o1 o2
                have SB : Hid (LS w l s ans.2.1 CB x9) := SA1.out.later bX
                clear bX
                have c5b : x9.cell? ⟨CB, 5, none⟩ = some (.int .i64 ans.2.1.pr) := SB.out.cs 5 _ rfl
                have c13b : x9.cell? ⟨CB, 13, none⟩ = some (.int .i64 ans.2.1.cf) := SB.out.cs 13 _ rfl
                go_wp2_with fail
                go_roundw
                case rel => exact ⟨k + 1, ans.2.1, by go_num, by omega, rfl, IN, SB⟩
                case measure => simp [intOf]; omega
      · obtain rfl : k = N := by omega
        go_wp2_with fail
        go_ret
        exact ⟨rfl, SR.out.bb⟩
end Go.Proofs.Ytmhjghaipfijdaa
