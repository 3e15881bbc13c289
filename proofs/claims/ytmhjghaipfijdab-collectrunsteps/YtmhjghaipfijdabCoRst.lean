/-
  Ours: the walk of CollectRunSteps (gen_colaw.py: THE SEAT's OWN NUMBERS).
-/
import Derived.Test.YtmhjghaipfijdabCoZZ
namespace Go.Proofs.Ytmhjghaipfijdab
open Go.RowKit LedM PolM CoM

set_option maxRecDepth 20000 in
set_option maxHeartbeats 16000000 in
theorem runsteps_any (at_ : Int) (l hs : List Int) (s v : Value) (es : List Ev) (w : World) (hl : l.length = 17) (hr : Rd w s (bkL hs)) (hb : hs.length * 8 ≤ 140737488355328) (er : RdV w v es) (hE : es.length ≤ 4398046511104) :
    Calls Try.prog 4 #[PV l s, v, .int .i64 at_] w fun e w' => e = .returned (.bool true) ∧ Below w.heap.size w w' := by
  show Calls _ _ #[.agg (polL l s).toArray, _, _] _ _
  have OW : Hid (∀ w', Below w.heap.size w w' → Calls Try.prog 12 #[PV l s] w' (OwnAns l hs w')) := fun w' h => own_at l hs s w' hl (hr.later h) hb
  have FR : Hid (∀ w', Calls Try.prog 10 #[] w' fun e w'' => e = .returned (csV fresh) ∧ Below w'.heap.size w' w'') := fresh_at
  have MY : Hid (∀ w', Below w.heap.size w w' → Calls Try.prog 7 #[PV l s] w' fun e w'' => e = .returned (.bool (good l hs)) ∧ Below w'.heap.size w' w'') := fun w' h => mayc_at l hs s w' hl (hr.later h) (by omega)
  have OP : Hid (good l hs = true → ∀ w', Below w.heap.size w w' → Calls Try.prog 8 #[PV l s] w' fun e w'' => e = .returned (.bool true) ∧ Below w'.heap.size w' w'') := fun hg w' h => opens_at l hs s w' hl (hr.later h) hb hg
  have ST : Hid (∀ c ev s' w', Rd w' s' (bkL hs) → Calls Try.prog 11 #[PV l s', csV c, evV ev] w' (StepAns (stepA l hs c ev) w')) := fun c ev s' w' h => step_at l hs s' c ev w' hl h (by omega)
  have SZ : Hid ((Try.prog.info? 24).map (·.size) = some (polL l s).length) := by show _ = _; rw [polL_len hl]; exact sizeP
  have S0 : Hid (PS w l s (w.alloc (.cells (polL l s).toArray 24))) := ⟨Blk.new _ _ _, below_alloc _ _⟩
  have HL : Hid (l.length = 17) := hl
  have ER : Hid (RdV w v es) := er
  have FE : Hid (∀ v' es' w', es'.length ≤ 4398046511104 → RdV w' v' es' → Calls Try.prog 15 #[v'] w' fun e w'' => ∃ v'', e = .returned v'' ∧ RowE w'.heap.size w'' v'' es' ∧ Below w'.heap.size w' w'') := fun v' es' w' hE h => freshE_at v' es' w' h hE
  have RUN : Hid (∀ s' v' w', Rd w' s' (bkL hs) → RdV w' v' es → Calls Try.prog 14 #[PV l s', csV fresh, v'] w' (RunAns (rk l hs fresh es es.length) w')) := fun s' v' w' h h' => run_at l hs s' v' fresh es w' hl h hb h' hE
  have RT : Hid (∀ m, m ≤ es.length → ∀ s' v' w', Rd w' s' (bkL hs) → RdV w' v' (es.take m) → Calls Try.prog 14 #[PV l s', csV fresh, v'] w' (RunAns (rk l hs fresh es m) w')) := fun m hm s' v' w' h h' => by
    have x := run_at l hs s' v' fresh (es.take m) w' hl h hb h' (by rw [List.length_take]; omega)
    rw [List.length_take, Nat.min_eq_left hm, rk_take l hs fresh es m m (Nat.le_refl _)] at x
    exact x
  have RD : Hid (∀ m, m ≤ es.length → ∀ s' v' w', Rd w' s' (bkL hs) → RdV w' v' (es.drop m) → Calls Try.prog 14 #[PV l s', csV (rk l hs fresh es m).1, v'] w' (RunAns (rk l hs (rk l hs fresh es m).1 (es.drop m) (es.length - m)) w')) := fun m hm s' v' w' h h' => by
    have x := run_at l hs s' v' (rk l hs fresh es m).1 (es.drop m) w' hl h hb h' (by rw [List.length_drop]; omega)
    rw [List.length_drop] at x
    exact x
  have RN : Hid (∀ m, m ≤ es.length → rk l hs fresh es es.length = ((rk l hs (rk l hs fresh es m).1 (es.drop m) (es.length - m)).1, (rk l hs fresh es m).2 ++ (rk l hs (rk l hs fresh es m).1 (es.drop m) (es.length - m)).2)) := fun m hm => by
    have x := rk_drop l hs fresh es m (es.length - m)
    rw [show m + (es.length - m) = es.length from by omega] at x
    exact x
  have LL : Hid (∀ k, k ≤ es.length → (rk l hs fresh es k).2.length ≤ 4 * k) := fun k _ => rk_len l hs fresh es k
  have SL0 : Hid (∀ c e, (stepA l hs c e).2.2.length ≤ 4) := fun c e => step_len l hs c e
  have SM : Hid (∀ (L : List Int) v v' w', L.length ≤ 1152921504606846976 → Rd w' v (bkL L) → Rd w' v' (bkL L) → Calls Try.prog 16 #[v, v'] w' fun e w'' => e = .returned (.bool true) ∧ Below w'.heap.size w' w'') := fun L v v' w' hb h h' => same_at L v v' w' h h' hb
  obtain ⟨i0, hi0, hz0, hz1, hz2⟩ := info_partsC infoInt
  obtain ⟨ao, cap, rfl, hcap, hno, er'⟩ := er
  have EC : Hid (∀ k, k < es.length → ∃ g o, ao = some ⟨g, o, none⟩ ∧ g < w.heap.size ∧ w.rangeAt g (o + k * 4) (evL (eN es k))) := er'
  have HC : Hid (es.length ≤ cap) := hcap
  have HO : Hid (ao = none → cap = 0) := hno
  have LE : Hid (∀ es' : List Ev, es' = es → es'.length ≤ 4398046511104) := fun es' h => by rw [h]; exact hE
  have LTm : Hid (∀ m, (es.take m).length ≤ 4398046511104) := fun m => by rw [List.length_take]; omega
  have LDm : Hid (∀ m, (es.drop m).length ≤ 4398046511104) := fun m => by rw [List.length_drop]; omega
  clear hl hr hb er' hno hcap
  generalize es.length = N at *
  cases hg : good l hs
  · go_enter Try.func4, Try.ntmps4
    go_upto_region 1 with fail
    generalize w.alloc (.cells (polL l s).toArray 24) = w0 at *
    go_wp2_with ((with_reducible refine at_loadT 24 ?_); refine step_load rfl 24 _ rfl w.heap.size 0 rfl (polL l s) _ (Blk.all S0.out.p) Try.underlying24 rfl SZ.out ?_)
    refine (MY.out _ S0.out.bb).mono ?_
    rw [hg]
    rintro e w2 ⟨rfl, bX⟩
    have S2 : Hid (PS w l s w2) := S0.out.later bX
    clear bX
    go_wp2_with fail
    refine (FR.out _).mono ?_
    rintro e w3 ⟨rfl, bX⟩
    have S3 : Hid (PS w l s w3) := S2.out.later bX
    clear bX S2 S0 MY OP
    have NZ : Hid (Blk w3.heap.size 29 (csL ⟨0, false, 0, 0, 0, 0, 0, 0, 0, 0, 0, 0, 0, 0, 0⟩) (w3.alloc (.cells #[.int .i64 0, .bool false, .int .i64 0, .int .i64 0, .int .i64 0, .int .i64 0, .int .i64 0, .int .i64 0, .int .i64 0, .int .i64 0, .int .i64 0, .int .i64 0, .int .i64 0, .int .i64 0, .int .i64 0] 29))) := Blk.new _ _ _
    go_upto_region 4 with ((with_reducible refine at_store ?_); refine step_store rfl 29 _ _ rfl w3.heap.size 0 29 (csL ⟨0, false, 0, 0, 0, 0, 0, 0, 0, 0, 0, 0, 0, 0, 0⟩) (csL fresh) rfl rfl NZ.out (Nat.le_refl 15) (sizeCsL _) (csL_one _) ?_; intro w4 n4 g4)
    have S4 : Hid (ZZ w l s [(w3.heap.size, fresh)] [(.slice none 0 0, [])] w4) := by
      have x := S3.out.later (below_alloc w3 (.cells #[.int .i64 0, .bool false, .int .i64 0, .int .i64 0, .int .i64 0, .int .i64 0, .int .i64 0, .int .i64 0, .int .i64 0, .int .i64 0, .int .i64 0, .int .i64 0, .int .i64 0, .int .i64 0, .int .i64 0] 29))
      have y := x.grown g4 S3.out.p.lt
      exact ⟨y.p, y.bb, fun x hx => by obtain rfl := List.mem_singleton.1 hx; exact n4, fun x hx => by obtain rfl := List.mem_singleton.1 hx; exact RowV.nil _ _ _, fun x hx => by obtain rfl := List.mem_singleton.1 hx; exact S3.out.p.lt⟩
    clear n4 g4 NZ S3
    obtain ⟨CB, hCB⟩ : ∃ CB, w3.heap.size = CB := ⟨_, rfl⟩
    rw [hCB] at S4
    rw [hCB]
    clear hCB
    go_wp2_with fail
    go_loopw [8, 9, 10, 11, 12] (fun v8 v9 _ _ _ wr => ∃ (k : Nat), v9 = .int .i64 (k : Int) ∧ k ≤ N ∧ (∃ va vn vc, v8 = .slice va vn vc) ∧ Hid (ZZ w l s [(CB, (rk l hs fresh es k).1)] [(v8, (rk l hs fresh es k).2)] wr)) (fun _ v9 _ _ _ _ => N - (intOf v9).toNat)
    case atStart => exact ⟨0, rfl, by omega, ⟨_, _, _, rfl⟩, S4⟩
    case round =>
      obtain ⟨k, rfl, hk, ⟨va0, vn0, vc0, rfl⟩, SR⟩ := hrel
      by_cases hlt : (k : Int) < (N : Int)
      · obtain ⟨g, o, rfl, lt, rg⟩ := EC.out k (by omega)
        have EV : Hid (∀ w', Below w.heap.size w w' → w'.rangeAt g (o + k * 4) (evL (eN es k))) := fun w' h => range_laterC rg lt h
        have HN : Hid (rk l hs fresh es (k + 1) = ((stepA l hs (rk l hs fresh es k).1 (eN es k)).2.1, (rk l hs fresh es k).2 ++ (stepA l hs (rk l hs fresh es k).1 (eN es k)).2.2)) := rfl
        have ll := LL.out k hk
        clear rg lt EC RUN RN RT RD S4 LL ER
        generalize eN es k = ev at *
        obtain ⟨c, acc, hx⟩ : ∃ c acc, rk l hs fresh es k = (c, acc) := ⟨_, _, rfl⟩
        rw [hx] at SR HN ll
        clear hx
        dsimp only at SR HN ll
        have SK : Hid (∀ s' w', Rd w' s' (bkL hs) → Calls Try.prog 11 #[PV l s', csV c, evV ev] w' (StepAns (stepA l hs c ev) w')) := fun s' w' h => ST.out c ev s' w' h
        have sl := SL0.out c ev
        clear ST SL0
        generalize stepA l hs c ev = ans at *
        have L1 : Hid ((bkL acc).length + (bkL ans.2.2).length ≤ maxLen) := by show _ ≤ _; rw [bkL_len, bkL_len]; unfold maxLen; omega
        have L2 : Hid (((bkL acc).length + (bkL ans.2.2).length) * 8 ≤ 140737488355328) := by show _ ≤ _; rw [bkL_len, bkL_len]; omega
        clear ll sl
        generalize hva : Value.slice va0 vn0 vc0 = va at *
        have HV : Hid (Value.slice va0 vn0 vc0 = va) := hva
        clear hva
        go_upto_region 8 with fail
        go_cut [10, 11, 12] from 28 to 49 (fun v10 v11 _ wx => ∃ G ra rn rc, v10 = .pointer (some ⟨G, 0, none⟩) ∧ v11 = .slice ra rn rc ∧ Hid (ZZ w l s [(G, ans.2.1), (CB, c)] [(.slice ra rn rc, ans.2.2), (va, acc)] wx))
        case first =>
          have hu := Try.underlying24
          have hi := SZ.out
          have hu2 := Try.underlying29
          have hu3 := Try.underlying36
          refine wp_region_held_drew (S := fun w' => ZZ w l s [(CB, c)] [(va, acc)] w') (by kernel_rfl) (SR.out.drew) (fun hH => ?_)
          refine wpAnyH_take (i := 0) (oi := { dst := some 35, op := Op.load 24 (Operand.tmp 3), type := 24, pos := "outright.go:265", after := #[], guard := none }) (v := .agg (polL l s).toArray) rfl (by kernel_rfl) (by kernel_rfl) (by kernel_rfl) (fun _ _ _ h => h) (yieldsIf_load_mid (by rfl) _ _ rfl w.heap.size 0 rfl (polL l s) _ (fun w' h => h.p.all) hu rfl hi) hH ?_
          try simp only [Act.put, List.setIfInBounds_toArray, List.set_cons_zero, List.set_cons_succ]
          refine wpAnyH_take (i := 2) (oi := { dst := some 37, op := Op.load 29 (Operand.tmp 7), type := 29, pos := "outright.go:265", after := #[], guard := none }) (v := .agg (csL c).toArray) rfl (by kernel_rfl) (by kernel_rfl) (by kernel_rfl) (fun _ _ _ h => h) (yieldsIf_load_mid (by rfl) _ _ rfl CB 0 rfl (csL c) _ (fun w' h => (h.b (CB, c) (by simp)).all) hu2 rfl (sizeCsL c)) hH ?_
          try simp only [Act.put, List.setIfInBounds_toArray, List.set_cons_zero, List.set_cons_succ]
          refine wpAnyH_take (i := 3) (oi := { dst := some 38, op := Op.move (Operand.tmp 1), type := 25, pos := "outright.go:265", after := #[], guard := none }) (v := .slice (some ⟨g, o, none⟩) N cap) rfl (by kernel_rfl) (by kernel_rfl) (by kernel_rfl) (fun _ _ _ h => h) (Or.inl ⟨by rfl, fun w' h => by go_simp⟩) hH ?_
          try simp only [Act.put, List.setIfInBounds_toArray, List.set_cons_zero, List.set_cons_succ]
          refine wpAnyH_take (i := 4) (oi := { dst := some 39, op := Op.move (Operand.tmp 9), type := 3, pos := "outright.go:265", after := #[], guard := none }) (v := .int .i64 (k : Int)) rfl (by kernel_rfl) (by kernel_rfl) (by kernel_rfl) (fun _ _ _ h => h) (Or.inl ⟨by rfl, fun w' h => by go_simp⟩) hH ?_
          try simp only [Act.put, List.setIfInBounds_toArray, List.set_cons_zero, List.set_cons_succ]
          refine wpAnyH_take (i := 5) (oi := { dst := some 40, op := Op.indexAddr 25 (Operand.tmp 38) (Operand.tmp 39), type := 0, pos := "outright.go:265", after := #[{ on := 3, ground := Ground.data }, { on := 4, ground := Ground.data }], guard := none }) (v := .pointer (some ⟨g, o + k * 4, none⟩)) rfl (by kernel_rfl) (by kernel_rfl) (by kernel_rfl) (fun _ _ _ h => h) (Or.inl ⟨by rfl, fun w' h => by go_simp⟩) hH ?_
          try simp only [Act.put, List.setIfInBounds_toArray, List.set_cons_zero, List.set_cons_succ]
          refine wpAnyH_take (i := 6) (oi := { dst := some 41, op := Op.load 36 (Operand.tmp 40), type := 36, pos := "outright.go:265", after := #[{ on := 5, ground := Ground.data }], guard := none }) (v := .agg (evL ev).toArray) rfl (by kernel_rfl) (by kernel_rfl) (by kernel_rfl) (fun _ _ _ h => h) (yieldsIf_load_mid (by rfl) _ _ rfl g (o + k * 4) rfl (evL ev) _ (fun w' h => EV.out _ h.bb) hu3 rfl (sizeEvL ev)) hH ?_
          try simp only [Act.put, List.setIfInBounds_toArray, List.set_cons_zero, List.set_cons_succ]
          refine wpAnyH_ready (rs := [1, 12]) (by kernel_rfl) (by simp) ?_
          refine AllReadyH.cons (o := { dst := some 36, op := Op.call { callee := Callee.value (Operand.func 12), args := #[Operand.tmp 35], argTypes := #[24] }, type := 24, pos := "outright.go:265", after := #[{ on := 0, ground := Ground.data }], guard := none }) rfl (fun K hK => ?_) (AllReadyH.cons (o := { dst := some 10, op := Op.alloc 29, type := 0, pos := "outright.go:265", after := #[], guard := none }) rfl (fun K hK => ?_) AllReadyH.nil)
          · go_simp
            refine (OW.out _ hH.bb).mono ?_
            rintro e x1 ⟨oa, on, oc, rfl, orow, bX⟩
            refine hK.out _ _ (hH.later bX) (fun hH => ?_)
            refine wpAnyH_ready (rs := [7, 12]) (by kernel_rfl) (by simp) ?_
            refine AllReadyH.cons (o := { dst := some 42, op := Op.call { callee := Callee.value (Operand.func 11), args := #[Operand.tmp 36, Operand.tmp 37, Operand.tmp 41], argTypes := #[24, 29, 36] }, type := 32, pos := "outright.go:265", after := #[{ on := 1, ground := Ground.data }, { on := 2, ground := Ground.data }, { on := 6, ground := Ground.data }, { on := 1, ground := Ground.chain }], guard := none }) rfl (fun K hK => ?_) (AllReadyH.cons (o := { dst := some 10, op := Op.alloc 29, type := 0, pos := "outright.go:265", after := #[], guard := none }) rfl (fun K hK => ?_) AllReadyH.nil)
            · go_simp
              refine (SK.out _ _ orow.rd).mono ?_
              rintro e x2 ⟨ra, rn, rc, rfl, rrow, bX⟩
              have orow := orow.later bX
              have rrow := rrow.mono hH.bb.size
              refine hK.out _ _ (hH.later bX) (fun hH => ?_)
              refine wpAnyH_take (i := 8) (oi := { dst := some 34, op := Op.move (Operand.tmp 42), type := 32, pos := "outright.go:265", after := #[{ on := 7, ground := Ground.data }], guard := none }) (v := .tuple #[csV ans.2.1, .slice ra rn rc, .int .i64 ans.1]) rfl (by kernel_rfl) (by kernel_rfl) (by kernel_rfl) (fun _ _ _ h => h) (Or.inl ⟨by rfl, fun w' h => by go_simp⟩) hH ?_
              try simp only [Act.put, List.setIfInBounds_toArray, List.set_cons_zero, List.set_cons_succ]
              refine wpAnyH_take (i := 9) (oi := { dst := some 43, op := Op.extract (Operand.tmp 34) 0, type := 29, pos := "outright.go:265", after := #[{ on := 8, ground := Ground.data }], guard := none }) (v := csV ans.2.1) rfl (by kernel_rfl) (by kernel_rfl) (by kernel_rfl) (fun _ _ _ h => h) (Or.inl ⟨by rfl, fun w' h => by go_simp⟩) hH ?_
              try simp only [Act.put, List.setIfInBounds_toArray, List.set_cons_zero, List.set_cons_succ]
              refine wpAnyH_take (i := 10) (oi := { dst := some 44, op := Op.extract (Operand.tmp 34) 1, type := 22, pos := "outright.go:265", after := #[{ on := 8, ground := Ground.data }, { on := 13, ground := Ground.gcOnly Departure.lateStores }], guard := none }) (v := .slice ra rn rc) rfl (by kernel_rfl) (by kernel_rfl) (by kernel_rfl) (fun _ _ _ h => h) (Or.inl ⟨by rfl, fun w' h => by go_simp⟩) hH ?_
              try simp only [Act.put, List.setIfInBounds_toArray, List.set_cons_zero, List.set_cons_succ]
              refine wpAnyH_take (i := 11) (oi := { dst := some 45, op := Op.extract (Operand.tmp 34) 2, type := 31, pos := "outright.go:265", after := #[{ on := 8, ground := Ground.data }, { on := 14, ground := Ground.gcOnly Departure.lateStores }], guard := none }) (v := .int .i64 ans.1) rfl (by kernel_rfl) (by kernel_rfl) (by kernel_rfl) (fun _ _ _ h => h) (Or.inl ⟨by rfl, fun w' h => by go_simp⟩) hH ?_
              try simp only [Act.put, List.setIfInBounds_toArray, List.set_cons_zero, List.set_cons_succ]
              refine wpAnyH_ready (rs := [12]) (by kernel_rfl) (by simp) ?_
              refine AllReadyH.cons (o := { dst := some 10, op := Op.alloc 29, type := 0, pos := "outright.go:265", after := #[], guard := none }) rfl (fun K hK => ?_) AllReadyH.nil
              go_simp
              have hN : Blk x2.heap.size 29 (csL ⟨0, false, 0, 0, 0, 0, 0, 0, 0, 0, 0, 0, 0, 0, 0⟩) (x2.alloc (.cells #[.int .i64 0, .bool false, .int .i64 0, .int .i64 0, .int .i64 0, .int .i64 0, .int .i64 0, .int .i64 0, .int .i64 0, .int .i64 0, .int .i64 0, .int .i64 0, .int .i64 0, .int .i64 0, .int .i64 0] 29)) := Blk.new _ _ _
              have hG := hH.lts
              have hp : w.heap.size < x2.heap.size := hH.p.lt
              have orow := orow.later (below_alloc x2 (.cells #[.int .i64 0, .bool false, .int .i64 0, .int .i64 0, .int .i64 0, .int .i64 0, .int .i64 0, .int .i64 0, .int .i64 0, .int .i64 0, .int .i64 0, .int .i64 0, .int .i64 0, .int .i64 0, .int .i64 0] 29))
              have rrow := rrow.later (below_alloc x2 (.cells #[.int .i64 0, .bool false, .int .i64 0, .int .i64 0, .int .i64 0, .int .i64 0, .int .i64 0, .int .i64 0, .int .i64 0, .int .i64 0, .int .i64 0, .int .i64 0, .int .i64 0, .int .i64 0, .int .i64 0] 29))
              refine hK.out _ _ (hH.later (below_alloc _ _)) (fun hH => ?_)
              refine wpAnyH_ready (rs := [13]) (by kernel_rfl) (by simp) ?_
              refine AllReadyH.cons (o := { dst := none, op := Op.store 29 (Operand.tmp 10) (Operand.tmp 43), type := 0, pos := "outright.go:265", after := #[{ on := 12, ground := Ground.data }, { on := 9, ground := Ground.data }, { on := 7, ground := Ground.chain }, { on := 0, ground := Ground.phase }, { on := 1, ground := Ground.phase }, { on := 2, ground := Ground.phase }, { on := 3, ground := Ground.phase }, { on := 4, ground := Ground.phase }, { on := 5, ground := Ground.phase }, { on := 6, ground := Ground.phase }, { on := 7, ground := Ground.phase }, { on := 8, ground := Ground.phase }, { on := 9, ground := Ground.phase }, { on := 10, ground := Ground.textOnly Departure.lateStores }, { on := 11, ground := Ground.textOnly Departure.lateStores }, { on := 12, ground := Ground.phase }], guard := none }) rfl (fun K hK => ?_) AllReadyH.nil
              refine op_putC (zs := csL ⟨0, false, 0, 0, 0, 0, 0, 0, 0, 0, 0, 0, 0, 0, 0⟩) (csL ans.2.1) rfl (sizeCsL _) (csL_one _) rfl _ _ rfl _ rfl rfl hN ?_
              intro w9 b9 g9
              have hZ := hH.grown hN g9 hG hp
              have PX : Hid (ZZ w l s [(_, ans.2.1), (CB, c)] [(.slice ra rn rc, ans.2.2), (va, acc)] w9) := (hZ.addB b9 hp).addR (rowV_blk rrow hN g9 (by decide))
              refine hK.out _ _ hZ (fun hH => ?_)
              simp only [Act.put]
              refine wpAnyH_take (i := 14) (oi := { dst := some 11, op := Op.assign (Operand.tmp 44), type := 22, pos := "outright.go:265", after := #[{ on := 10, ground := Ground.data }, { on := 13, ground := Ground.chain }, { on := 0, ground := Ground.phase }, { on := 1, ground := Ground.phase }, { on := 2, ground := Ground.phase }, { on := 3, ground := Ground.phase }, { on := 4, ground := Ground.phase }, { on := 5, ground := Ground.phase }, { on := 6, ground := Ground.phase }, { on := 7, ground := Ground.phase }, { on := 8, ground := Ground.phase }, { on := 9, ground := Ground.phase }, { on := 10, ground := Ground.phase }, { on := 11, ground := Ground.textOnly Departure.lateStores }, { on := 12, ground := Ground.phase }, { on := 13, ground := Ground.phase }], guard := none }) (v := .slice ra rn rc) rfl (by kernel_rfl) (by kernel_rfl) (by kernel_rfl) (fun _ _ _ h => h) (Or.inl ⟨by rfl, fun w' h => by go_simp⟩) hH ?_
              try simp only [Act.put, List.setIfInBounds_toArray, List.set_cons_zero, List.set_cons_succ]
              refine wpAnyH_take (i := 15) (oi := { dst := some 12, op := Op.assign (Operand.tmp 45), type := 31, pos := "outright.go:265", after := #[{ on := 11, ground := Ground.data }, { on := 14, ground := Ground.chain }, { on := 0, ground := Ground.phase }, { on := 1, ground := Ground.phase }, { on := 2, ground := Ground.phase }, { on := 3, ground := Ground.phase }, { on := 4, ground := Ground.phase }, { on := 5, ground := Ground.phase }, { on := 6, ground := Ground.phase }, { on := 7, ground := Ground.phase }, { on := 8, ground := Ground.phase }, { on := 9, ground := Ground.phase }, { on := 10, ground := Ground.phase }, { on := 11, ground := Ground.phase }, { on := 12, ground := Ground.phase }, { on := 13, ground := Ground.phase }, { on := 14, ground := Ground.phase }], guard := none }) (v := .int .i64 ans.1) rfl (by kernel_rfl) (by kernel_rfl) (by kernel_rfl) (fun _ _ _ h => h) (Or.inl ⟨by rfl, fun w' h => by go_simp⟩) hH ?_
              try simp only [Act.put, List.setIfInBounds_toArray, List.set_cons_zero, List.set_cons_succ]
              refine wpAnyH_done (by kernel_rfl) ?_ _
              clear hH hK b9 g9 hN hZ
              go_wp2_with fail
              go_meet
              case rel => exact ⟨_, _, _, _, rfl, rfl, PX⟩
            · go_simp
              have hN : Blk x1.heap.size 29 (csL ⟨0, false, 0, 0, 0, 0, 0, 0, 0, 0, 0, 0, 0, 0, 0⟩) (x1.alloc (.cells #[.int .i64 0, .bool false, .int .i64 0, .int .i64 0, .int .i64 0, .int .i64 0, .int .i64 0, .int .i64 0, .int .i64 0, .int .i64 0, .int .i64 0, .int .i64 0, .int .i64 0, .int .i64 0, .int .i64 0] 29)) := Blk.new _ _ _
              have hG := hH.lts
              have hp : w.heap.size < x1.heap.size := hH.p.lt
              have orow := orow.later (below_alloc x1 (.cells #[.int .i64 0, .bool false, .int .i64 0, .int .i64 0, .int .i64 0, .int .i64 0, .int .i64 0, .int .i64 0, .int .i64 0, .int .i64 0, .int .i64 0, .int .i64 0, .int .i64 0, .int .i64 0, .int .i64 0] 29))
              refine hK.out _ _ (hH.later (below_alloc _ _)) (fun hH => ?_)
              refine wpAnyH_ready (rs := [7]) (by kernel_rfl) (by simp) ?_
              refine AllReadyH.cons (o := { dst := some 42, op := Op.call { callee := Callee.value (Operand.func 11), args := #[Operand.tmp 36, Operand.tmp 37, Operand.tmp 41], argTypes := #[24, 29, 36] }, type := 32, pos := "outright.go:265", after := #[{ on := 1, ground := Ground.data }, { on := 2, ground := Ground.data }, { on := 6, ground := Ground.data }, { on := 1, ground := Ground.chain }], guard := none }) rfl (fun K hK => ?_) AllReadyH.nil
              go_simp
              refine (SK.out _ _ orow.rd).mono ?_
              rintro e x3 ⟨ra, rn, rc, rfl, rrow, bX⟩
              have orow := orow.later bX
              have hN := hN.below bX
              have rrow := rrow.mono hH.bb.size
              refine hK.out _ _ (hH.later bX) (fun hH => ?_)
              refine wpAnyH_take (i := 8) (oi := { dst := some 34, op := Op.move (Operand.tmp 42), type := 32, pos := "outright.go:265", after := #[{ on := 7, ground := Ground.data }], guard := none }) (v := .tuple #[csV ans.2.1, .slice ra rn rc, .int .i64 ans.1]) rfl (by kernel_rfl) (by kernel_rfl) (by kernel_rfl) (fun _ _ _ h => h) (Or.inl ⟨by rfl, fun w' h => by go_simp⟩) hH ?_
              try simp only [Act.put, List.setIfInBounds_toArray, List.set_cons_zero, List.set_cons_succ]
              refine wpAnyH_take (i := 9) (oi := { dst := some 43, op := Op.extract (Operand.tmp 34) 0, type := 29, pos := "outright.go:265", after := #[{ on := 8, ground := Ground.data }], guard := none }) (v := csV ans.2.1) rfl (by kernel_rfl) (by kernel_rfl) (by kernel_rfl) (fun _ _ _ h => h) (Or.inl ⟨by rfl, fun w' h => by go_simp⟩) hH ?_
              try simp only [Act.put, List.setIfInBounds_toArray, List.set_cons_zero, List.set_cons_succ]
              refine wpAnyH_take (i := 10) (oi := { dst := some 44, op := Op.extract (Operand.tmp 34) 1, type := 22, pos := "outright.go:265", after := #[{ on := 8, ground := Ground.data }, { on := 13, ground := Ground.gcOnly Departure.lateStores }], guard := none }) (v := .slice ra rn rc) rfl (by kernel_rfl) (by kernel_rfl) (by kernel_rfl) (fun _ _ _ h => h) (Or.inl ⟨by rfl, fun w' h => by go_simp⟩) hH ?_
              try simp only [Act.put, List.setIfInBounds_toArray, List.set_cons_zero, List.set_cons_succ]
              refine wpAnyH_take (i := 11) (oi := { dst := some 45, op := Op.extract (Operand.tmp 34) 2, type := 31, pos := "outright.go:265", after := #[{ on := 8, ground := Ground.data }, { on := 14, ground := Ground.gcOnly Departure.lateStores }], guard := none }) (v := .int .i64 ans.1) rfl (by kernel_rfl) (by kernel_rfl) (by kernel_rfl) (fun _ _ _ h => h) (Or.inl ⟨by rfl, fun w' h => by go_simp⟩) hH ?_
              try simp only [Act.put, List.setIfInBounds_toArray, List.set_cons_zero, List.set_cons_succ]
              refine wpAnyH_ready (rs := [13]) (by kernel_rfl) (by simp) ?_
              refine AllReadyH.cons (o := { dst := none, op := Op.store 29 (Operand.tmp 10) (Operand.tmp 43), type := 0, pos := "outright.go:265", after := #[{ on := 12, ground := Ground.data }, { on := 9, ground := Ground.data }, { on := 7, ground := Ground.chain }, { on := 0, ground := Ground.phase }, { on := 1, ground := Ground.phase }, { on := 2, ground := Ground.phase }, { on := 3, ground := Ground.phase }, { on := 4, ground := Ground.phase }, { on := 5, ground := Ground.phase }, { on := 6, ground := Ground.phase }, { on := 7, ground := Ground.phase }, { on := 8, ground := Ground.phase }, { on := 9, ground := Ground.phase }, { on := 10, ground := Ground.textOnly Departure.lateStores }, { on := 11, ground := Ground.textOnly Departure.lateStores }, { on := 12, ground := Ground.phase }], guard := none }) rfl (fun K hK => ?_) AllReadyH.nil
              refine op_putC (zs := csL ⟨0, false, 0, 0, 0, 0, 0, 0, 0, 0, 0, 0, 0, 0, 0⟩) (csL ans.2.1) rfl (sizeCsL _) (csL_one _) rfl _ _ rfl _ rfl rfl hN ?_
              intro w9 b9 g9
              have hZ := hH.grown hN g9 hG hp
              have PX : Hid (ZZ w l s [(_, ans.2.1), (CB, c)] [(.slice ra rn rc, ans.2.2), (va, acc)] w9) := (hZ.addB b9 hp).addR (rowV_blk rrow hN g9 (by decide))
              refine hK.out _ _ hZ (fun hH => ?_)
              simp only [Act.put]
              refine wpAnyH_take (i := 14) (oi := { dst := some 11, op := Op.assign (Operand.tmp 44), type := 22, pos := "outright.go:265", after := #[{ on := 10, ground := Ground.data }, { on := 13, ground := Ground.chain }, { on := 0, ground := Ground.phase }, { on := 1, ground := Ground.phase }, { on := 2, ground := Ground.phase }, { on := 3, ground := Ground.phase }, { on := 4, ground := Ground.phase }, { on := 5, ground := Ground.phase }, { on := 6, ground := Ground.phase }, { on := 7, ground := Ground.phase }, { on := 8, ground := Ground.phase }, { on := 9, ground := Ground.phase }, { on := 10, ground := Ground.phase }, { on := 11, ground := Ground.textOnly Departure.lateStores }, { on := 12, ground := Ground.phase }, { on := 13, ground := Ground.phase }], guard := none }) (v := .slice ra rn rc) rfl (by kernel_rfl) (by kernel_rfl) (by kernel_rfl) (fun _ _ _ h => h) (Or.inl ⟨by rfl, fun w' h => by go_simp⟩) hH ?_
              try simp only [Act.put, List.setIfInBounds_toArray, List.set_cons_zero, List.set_cons_succ]
              refine wpAnyH_take (i := 15) (oi := { dst := some 12, op := Op.assign (Operand.tmp 45), type := 31, pos := "outright.go:265", after := #[{ on := 11, ground := Ground.data }, { on := 14, ground := Ground.chain }, { on := 0, ground := Ground.phase }, { on := 1, ground := Ground.phase }, { on := 2, ground := Ground.phase }, { on := 3, ground := Ground.phase }, { on := 4, ground := Ground.phase }, { on := 5, ground := Ground.phase }, { on := 6, ground := Ground.phase }, { on := 7, ground := Ground.phase }, { on := 8, ground := Ground.phase }, { on := 9, ground := Ground.phase }, { on := 10, ground := Ground.phase }, { on := 11, ground := Ground.phase }, { on := 12, ground := Ground.phase }, { on := 13, ground := Ground.phase }, { on := 14, ground := Ground.phase }], guard := none }) (v := .int .i64 ans.1) rfl (by kernel_rfl) (by kernel_rfl) (by kernel_rfl) (fun _ _ _ h => h) (Or.inl ⟨by rfl, fun w' h => by go_simp⟩) hH ?_
              try simp only [Act.put, List.setIfInBounds_toArray, List.set_cons_zero, List.set_cons_succ]
              refine wpAnyH_done (by kernel_rfl) ?_ _
              clear hH hK b9 g9 hN hZ
              go_wp2_with fail
              go_meet
              case rel => exact ⟨_, _, _, _, rfl, rfl, PX⟩
          · go_simp
            have hN : Blk wr.drew.heap.size 29 (csL ⟨0, false, 0, 0, 0, 0, 0, 0, 0, 0, 0, 0, 0, 0, 0⟩) (wr.drew.alloc (.cells #[.int .i64 0, .bool false, .int .i64 0, .int .i64 0, .int .i64 0, .int .i64 0, .int .i64 0, .int .i64 0, .int .i64 0, .int .i64 0, .int .i64 0, .int .i64 0, .int .i64 0, .int .i64 0, .int .i64 0] 29)) := Blk.new _ _ _
            have hG := hH.lts
            have hp : w.heap.size < wr.drew.heap.size := hH.p.lt
            refine hK.out _ _ (hH.later (below_alloc _ _)) (fun hH => ?_)
            refine wpAnyH_ready (rs := [1]) (by kernel_rfl) (by simp) ?_
            refine AllReadyH.cons (o := { dst := some 36, op := Op.call { callee := Callee.value (Operand.func 12), args := #[Operand.tmp 35], argTypes := #[24] }, type := 24, pos := "outright.go:265", after := #[{ on := 0, ground := Ground.data }], guard := none }) rfl (fun K hK => ?_) AllReadyH.nil
            go_simp
            refine (OW.out _ hH.bb).mono ?_
            rintro e x4 ⟨oa, on, oc, rfl, orow, bX⟩
            have hN := hN.below bX
            refine hK.out _ _ (hH.later bX) (fun hH => ?_)
            refine wpAnyH_ready (rs := [7]) (by kernel_rfl) (by simp) ?_
            refine AllReadyH.cons (o := { dst := some 42, op := Op.call { callee := Callee.value (Operand.func 11), args := #[Operand.tmp 36, Operand.tmp 37, Operand.tmp 41], argTypes := #[24, 29, 36] }, type := 32, pos := "outright.go:265", after := #[{ on := 1, ground := Ground.data }, { on := 2, ground := Ground.data }, { on := 6, ground := Ground.data }, { on := 1, ground := Ground.chain }], guard := none }) rfl (fun K hK => ?_) AllReadyH.nil
            go_simp
            refine (SK.out _ _ orow.rd).mono ?_
            rintro e x5 ⟨ra, rn, rc, rfl, rrow, bX⟩
            have hN := hN.below bX
            have orow := orow.later bX
            have rrow := rrow.mono hH.bb.size
            refine hK.out _ _ (hH.later bX) (fun hH => ?_)
            refine wpAnyH_take (i := 8) (oi := { dst := some 34, op := Op.move (Operand.tmp 42), type := 32, pos := "outright.go:265", after := #[{ on := 7, ground := Ground.data }], guard := none }) (v := .tuple #[csV ans.2.1, .slice ra rn rc, .int .i64 ans.1]) rfl (by kernel_rfl) (by kernel_rfl) (by kernel_rfl) (fun _ _ _ h => h) (Or.inl ⟨by rfl, fun w' h => by go_simp⟩) hH ?_
            try simp only [Act.put, List.setIfInBounds_toArray, List.set_cons_zero, List.set_cons_succ]
            refine wpAnyH_take (i := 9) (oi := { dst := some 43, op := Op.extract (Operand.tmp 34) 0, type := 29, pos := "outright.go:265", after := #[{ on := 8, ground := Ground.data }], guard := none }) (v := csV ans.2.1) rfl (by kernel_rfl) (by kernel_rfl) (by kernel_rfl) (fun _ _ _ h => h) (Or.inl ⟨by rfl, fun w' h => by go_simp⟩) hH ?_
            try simp only [Act.put, List.setIfInBounds_toArray, List.set_cons_zero, List.set_cons_succ]
            refine wpAnyH_take (i := 10) (oi := { dst := some 44, op := Op.extract (Operand.tmp 34) 1, type := 22, pos := "outright.go:265", after := #[{ on := 8, ground := Ground.data }, { on := 13, ground := Ground.gcOnly Departure.lateStores }], guard := none }) (v := .slice ra rn rc) rfl (by kernel_rfl) (by kernel_rfl) (by kernel_rfl) (fun _ _ _ h => h) (Or.inl ⟨by rfl, fun w' h => by go_simp⟩) hH ?_
            try simp only [Act.put, List.setIfInBounds_toArray, List.set_cons_zero, List.set_cons_succ]
            refine wpAnyH_take (i := 11) (oi := { dst := some 45, op := Op.extract (Operand.tmp 34) 2, type := 31, pos := "outright.go:265", after := #[{ on := 8, ground := Ground.data }, { on := 14, ground := Ground.gcOnly Departure.lateStores }], guard := none }) (v := .int .i64 ans.1) rfl (by kernel_rfl) (by kernel_rfl) (by kernel_rfl) (fun _ _ _ h => h) (Or.inl ⟨by rfl, fun w' h => by go_simp⟩) hH ?_
            try simp only [Act.put, List.setIfInBounds_toArray, List.set_cons_zero, List.set_cons_succ]
            refine wpAnyH_ready (rs := [13]) (by kernel_rfl) (by simp) ?_
            refine AllReadyH.cons (o := { dst := none, op := Op.store 29 (Operand.tmp 10) (Operand.tmp 43), type := 0, pos := "outright.go:265", after := #[{ on := 12, ground := Ground.data }, { on := 9, ground := Ground.data }, { on := 7, ground := Ground.chain }, { on := 0, ground := Ground.phase }, { on := 1, ground := Ground.phase }, { on := 2, ground := Ground.phase }, { on := 3, ground := Ground.phase }, { on := 4, ground := Ground.phase }, { on := 5, ground := Ground.phase }, { on := 6, ground := Ground.phase }, { on := 7, ground := Ground.phase }, { on := 8, ground := Ground.phase }, { on := 9, ground := Ground.phase }, { on := 10, ground := Ground.textOnly Departure.lateStores }, { on := 11, ground := Ground.textOnly Departure.lateStores }, { on := 12, ground := Ground.phase }], guard := none }) rfl (fun K hK => ?_) AllReadyH.nil
            refine op_putC (zs := csL ⟨0, false, 0, 0, 0, 0, 0, 0, 0, 0, 0, 0, 0, 0, 0⟩) (csL ans.2.1) rfl (sizeCsL _) (csL_one _) rfl _ _ rfl _ rfl rfl hN ?_
            intro w9 b9 g9
            have hZ := hH.grown hN g9 hG hp
            have PX : Hid (ZZ w l s [(_, ans.2.1), (CB, c)] [(.slice ra rn rc, ans.2.2), (va, acc)] w9) := (hZ.addB b9 hp).addR (rowV_blk rrow hN g9 (by decide))
            refine hK.out _ _ hZ (fun hH => ?_)
            simp only [Act.put]
            refine wpAnyH_take (i := 14) (oi := { dst := some 11, op := Op.assign (Operand.tmp 44), type := 22, pos := "outright.go:265", after := #[{ on := 10, ground := Ground.data }, { on := 13, ground := Ground.chain }, { on := 0, ground := Ground.phase }, { on := 1, ground := Ground.phase }, { on := 2, ground := Ground.phase }, { on := 3, ground := Ground.phase }, { on := 4, ground := Ground.phase }, { on := 5, ground := Ground.phase }, { on := 6, ground := Ground.phase }, { on := 7, ground := Ground.phase }, { on := 8, ground := Ground.phase }, { on := 9, ground := Ground.phase }, { on := 10, ground := Ground.phase }, { on := 11, ground := Ground.textOnly Departure.lateStores }, { on := 12, ground := Ground.phase }, { on := 13, ground := Ground.phase }], guard := none }) (v := .slice ra rn rc) rfl (by kernel_rfl) (by kernel_rfl) (by kernel_rfl) (fun _ _ _ h => h) (Or.inl ⟨by rfl, fun w' h => by go_simp⟩) hH ?_
            try simp only [Act.put, List.setIfInBounds_toArray, List.set_cons_zero, List.set_cons_succ]
            refine wpAnyH_take (i := 15) (oi := { dst := some 12, op := Op.assign (Operand.tmp 45), type := 31, pos := "outright.go:265", after := #[{ on := 11, ground := Ground.data }, { on := 14, ground := Ground.chain }, { on := 0, ground := Ground.phase }, { on := 1, ground := Ground.phase }, { on := 2, ground := Ground.phase }, { on := 3, ground := Ground.phase }, { on := 4, ground := Ground.phase }, { on := 5, ground := Ground.phase }, { on := 6, ground := Ground.phase }, { on := 7, ground := Ground.phase }, { on := 8, ground := Ground.phase }, { on := 9, ground := Ground.phase }, { on := 10, ground := Ground.phase }, { on := 11, ground := Ground.phase }, { on := 12, ground := Ground.phase }, { on := 13, ground := Ground.phase }, { on := 14, ground := Ground.phase }], guard := none }) (v := .int .i64 ans.1) rfl (by kernel_rfl) (by kernel_rfl) (by kernel_rfl) (fun _ _ _ h => h) (Or.inl ⟨by rfl, fun w' h => by go_simp⟩) hH ?_
            try simp only [Act.put, List.setIfInBounds_toArray, List.set_cons_zero, List.set_cons_succ]
            refine wpAnyH_done (by kernel_rfl) ?_ _
            clear hH hK b9 g9 hN hZ
            go_wp2_with fail
            go_meet
            case rel => exact ⟨_, _, _, _, rfl, rfl, PX⟩
        case rest =>
          obtain ⟨G, ra, rn, rc, rfl, rfl, SX⟩ := hcut
          clear SR
          go_upto_region 10 with (first
          | ((with_reducible refine at_loadT 29 ?_); refine step_load rfl 29 _ rfl G 0 rfl (csL ans.2.1) _ (Blk.all (SX.out.b (G, ans.2.1) (by simp))) Try.underlying29 rfl (sizeCsL _) ?_)
          | ((with_reducible refine at_store ?_); refine step_store rfl 29 _ _ rfl CB 0 29 _ (csL ans.2.1) rfl rfl (SX.out.b (CB, c) (by simp)) (Nat.le_refl 15) (sizeCsL _) (csL_one _) ?_; intro w8 n8 g8))
          have S8 : Hid (ZZ w l s [(CB, ans.2.1)] [(.slice ra rn rc, ans.2.2), (va, acc)] w8) := (SX.out.sub (bs' := [(CB, c)]) (rs' := [(.slice ra rn rc, ans.2.2), (va, acc)]) (by simp) (by simp)).put n8 g8 (by simp)
          clear n8 g8 SX
          have AR : Hid (RowV 3 w.heap.size w8 va (bkL acc)) := S8.out.r (va, acc) (by simp)
          have RR : Hid (Rd w8 (.slice ra rn rc) (bkL ans.2.2)) := (S8.out.r (.slice ra rn rc, ans.2.2) (by simp)).rd
          go_wp2_with (at_builtin; refine wpList_catS rfl (.tmp 47) (.tmp 48) 22 rfl 3 i0 (.int .i64 0) 8 Try.underlying22 hi0 hz0 hz1 hz2 rfl w.heap.size _ _ (bkL acc) (bkL ans.2.2) (bkL_one _) rfl AR.out S8.out.bb.size rfl RR.out L1.out L2.out ?_; intro a1 n1 k1 y1 r1 g1)
          have S9 : Hid (ZZ w l s [(CB, (rk l hs fresh es (k + 1)).1)] [(.slice a1 n1 k1, (rk l hs fresh es (k + 1)).2)] y1) := by
            rw [HN.out]
            exact S8.out.row (v := va) (a := acc) (by simp) g1 (by show RowV _ _ _ _ (bkL (acc ++ ans.2.2)); rw [show bkL (acc ++ ans.2.2) = bkL acc ++ bkL ans.2.2 from by simp [bkL]]; exact r1)
          clear S8 AR RR HN g1 r1
          go_roundw
          case rel => exact ⟨k + 1, by go_num, by omega, ⟨_, _, _, rfl⟩, S9⟩
          case measure => simp [intOf]; omega
      · obtain rfl : k = N := by omega
        have ll := LL.out k hk
        have RDK : Hid (∀ m, m ≤ k → rk l hs fresh es k = ((rk l hs (rk l hs fresh es m).1 (es.drop m) (k - m)).1, (rk l hs fresh es m).2 ++ (rk l hs (rk l hs fresh es m).1 (es.drop m) (k - m)).2)) := RN.out
        clear RN LL SL0 S4 EC ST hlt hk
        obtain ⟨cN, aN, hx⟩ : ∃ cN aN, rk l hs fresh es k = (cN, aN) := ⟨_, _, rfl⟩
        rw [hx] at SR ll RDK RUN
        have HX : Hid (rk l hs fresh es k = (cN, aN)) := hx
        clear hx
        dsimp only at SR ll
        have LA : Hid (aN.length ≤ 17592186044416) := by show _ ≤ _; omega
        clear ll
        obtain ⟨N, hN0⟩ : ∃ N, k = N := ⟨_, rfl⟩
        subst hN0
        generalize hva : Value.slice va0 vn0 vc0 = va at *
        have HV : Hid (Value.slice va0 vn0 vc0 = va) := hva
        clear hva
        go_wp2_with ((with_reducible refine at_loadT 24 ?_); refine step_load rfl 24 _ rfl w.heap.size 0 rfl (polL l s) _ (Blk.all SR.out.p) Try.underlying24 rfl SZ.out ?_)
        refine (OW.out _ SR.out.bb).mono ?_
        rintro e x1 ⟨oa, on, oc, rfl, orow, b1⟩
        have T1 : Hid (ZZ w l s [(CB, cN)] [(va, aN)] x1) := SR.out.later b1
        have O1 : Hid (Rd x1 (.slice oa on oc) (bkL hs)) := orow.rd
        clear b1 orow SR
        go_wp2_with fail
        refine (FR.out _).mono ?_
        rintro e x2 ⟨rfl, b2⟩
        have T2 : Hid (ZZ w l s [(CB, cN)] [(va, aN)] x2) := T1.out.later b2
        have O2 : Hid (Rd x2 (.slice oa on oc) (bkL hs)) := O1.out.later b2
        clear b2 O1 T1
        go_wp2_with fail
        refine (FE.out _ _ _ (LE.out es rfl) (ER.out.later T2.out.bb)).mono ?_
        rintro e x3 ⟨ve, rfl, re, b3⟩
        have T3 : Hid (ZZ w l s [(CB, cN)] [(va, aN)] x3) := T2.out.later b3
        have O3 : Hid (Rd x3 (.slice oa on oc) (bkL hs)) := O2.out.later b3
        have E3 : Hid (RdV x3 ve es) := re.rd
        clear b3 O2 T2 re
        go_wp2_with fail
        refine (RUN.out _ _ _ O3.out E3.out).mono ?_
        rintro e x4 ⟨xa, xn, xc, rfl, xrow, b4⟩
        have T4 : Hid (ZZ w l s [(CB, cN)] [(.slice xa xn xc, aN), (va, aN)] x4) := (T3.out.later b4).addR (xrow.mono T3.out.bb.size)
        clear b4 O3 T3 xrow E3
        have NZ : Hid (Blk x4.heap.size 29 (csL ⟨0, false, 0, 0, 0, 0, 0, 0, 0, 0, 0, 0, 0, 0, 0⟩) (x4.alloc (.cells #[.int .i64 0, .bool false, .int .i64 0, .int .i64 0, .int .i64 0, .int .i64 0, .int .i64 0, .int .i64 0, .int .i64 0, .int .i64 0, .int .i64 0, .int .i64 0, .int .i64 0, .int .i64 0, .int .i64 0] 29))) := Blk.new _ _ _
        go_upto_region 12 with ((with_reducible refine at_store ?_); refine step_store rfl 29 _ _ rfl x4.heap.size 0 29 (csL ⟨0, false, 0, 0, 0, 0, 0, 0, 0, 0, 0, 0, 0, 0, 0⟩) (csL cN) rfl rfl NZ.out (Nat.le_refl 15) (sizeCsL _) (csL_one _) ?_; intro x5 n5 g5)
        have T5 : Hid (ZZ w l s [(x4.heap.size, cN), (CB, cN)] [(.slice xa xn xc, aN), (va, aN)] x5) := ((T4.out.later (below_alloc _ _)).grown NZ.out g5 T4.out.lts T4.out.p.lt).addB n5 T4.out.p.lt
        clear n5 g5 NZ
        obtain ⟨RB, hRB⟩ : ∃ RB, x4.heap.size = RB := ⟨_, rfl⟩
        rw [hRB] at T5
        rw [hRB]
        clear hRB T4
        have NQ := cs_neq cN
        go_wp2_with (first
        | ((with_reducible refine at_loadT 29 ?_); refine step_load rfl 29 _ rfl CB 0 rfl (csL cN) _ (Blk.all (T5.out.b (CB, cN) (by simp))) Try.underlying29 rfl (sizeCsL _) ?_)
        | ((with_reducible refine at_loadT 29 ?_); refine step_load rfl 29 _ rfl RB 0 rfl (csL cN) _ (Blk.all (T5.out.b (RB, cN) (by simp))) Try.underlying29 rfl (sizeCsL _) ?_))
        refine (SM.out aN _ _ _ (by have := LA.out; omega) (T5.out.r (va, aN) (by simp)).rd (T5.out.r (.slice xa xn xc, aN) (by simp)).rd).mono ?_
        rintro e x6 ⟨rfl, b6⟩
        have SZ2 : Hid (ZZ w l s [(RB, cN), (CB, cN)] [(.slice xa xn xc, aN), (va, aN)] x6) := T5.out.later b6
        clear b6 T5 NQ
        by_cases h1 : at_ < 0
        · have d1 : decide (at_ < 0) = true := decide_eq_true h1
          go_wp2_with fail
          go_ret
          exact ⟨rfl, SZ2.out.bb⟩
        · have d1 : decide (at_ < 0) = false := decide_eq_false h1
          by_cases h2 : (k : Int) < at_
          · have d2 : decide ((k : Int) < at_) = true := decide_eq_true h2
            go_wp2_with fail
            go_ret
            exact ⟨rfl, SZ2.out.bb⟩
          · obtain ⟨m, rfl⟩ := Int.eq_ofNat_of_zero_le (a := at_) (by omega)
            have hm : m ≤ k := by omega
            have d2 : decide ((k : Int) < (m : Int)) = false := decide_eq_false h2
            have CATK := RDK.out m hm
            have RUNT := RT.out m hm
            have RUND := RD.out m hm
            have ET : Hid (RdV w (.slice ao m cap) (es.take m)) := ER.out.take hm
            have LT : Hid ((es.take m).length ≤ 4398046511104) := LTm.out m
            have LD : Hid ((es.drop m).length ≤ 4398046511104) := LDm.out m
            obtain ⟨dv, hdv⟩ : ∃ dv, sliced ao m k cap 4 = dv := ⟨_, rfl⟩
            have ED : Hid (RdV w dv (es.drop m)) := by rw [← hdv]; exact ER.out.dropS hm
            have DV : Hid (sliced ao m k cap 4 = dv) := hdv
            clear hdv
            have capm : m ≤ cap := by have := HC.out; omega
            clear RT RD h1 h2
            obtain ⟨ck, ak, hy⟩ : ∃ ck ak, rk l hs fresh es m = (ck, ak) := ⟨_, _, rfl⟩
            rw [hy] at CATK RUNT RUND
            clear hy
            dsimp only at CATK RUNT RUND
            obtain ⟨cq, aq, hz⟩ : ∃ cq aq, rk l hs ck (es.drop m) (k - m) = (cq, aq) := ⟨_, _, rfl⟩
            rw [hz] at CATK RUND
            clear hz
            dsimp only at CATK RUND
            obtain ⟨rfl, hcat⟩ := Prod.mk.inj CATK
            have HCAT : Hid (aN = ak ++ aq) := hcat
            clear hcat CATK
            have RUNT : Hid _ := RUNT
            have RUND : Hid _ := RUND
            go_upto_region 16 with fail
            go_cut [15, 16] from 20 to 112 (fun v15 v16 wx => ∃ G ra rn rc, v15 = .pointer (some ⟨G, 0, none⟩) ∧ v16 = .slice ra rn rc ∧ Hid (ZZ w l s [(G, ck), (RB, cN), (CB, cN)] [(.slice ra rn rc, ak), (.slice xa xn xc, aN), (va, aN)] wx))
            case first =>
              have hu := Try.underlying24
              have hi := SZ.out
              have hu2 := Try.underlying29
              have hu3 := Try.underlying36
              refine wp_region_held_drew (S := fun w' => ZZ w l s [(RB, cN), (CB, cN)] [(.slice xa xn xc, aN), (va, aN)] w') (by kernel_rfl) (SZ2.out.drew) (fun hH => ?_)
              refine wpAnyH_take (i := 0) (oi := { dst := some 77, op := Op.load 24 (Operand.tmp 3), type := 24, pos := "outright.go:276", after := #[], guard := none }) (v := .agg (polL l s).toArray) rfl (by kernel_rfl) (by kernel_rfl) (by kernel_rfl) (fun _ _ _ h => h) (yieldsIf_load_mid (by rfl) _ _ rfl w.heap.size 0 rfl (polL l s) _ (fun w' h => h.p.all) hu rfl hi) hH ?_
              try simp only [Act.put, List.setIfInBounds_toArray, List.set_cons_zero, List.set_cons_succ]
              refine wpAnyH_take (i := 3) (oi := { dst := some 80, op := Op.move (Operand.tmp 1), type := 25, pos := "outright.go:276", after := #[], guard := none }) (v := .slice ao k cap) rfl (by kernel_rfl) (by kernel_rfl) (by kernel_rfl) (fun _ _ _ h => h) (Or.inl ⟨by rfl, fun w' h => by go_simp⟩) hH ?_
              try simp only [Act.put, List.setIfInBounds_toArray, List.set_cons_zero, List.set_cons_succ]
              refine wpAnyH_take (i := 4) (oi := { dst := some 81, op := Op.move (Operand.tmp 2), type := 3, pos := "outright.go:276", after := #[], guard := none }) (v := .int .i64 (m : Int)) rfl (by kernel_rfl) (by kernel_rfl) (by kernel_rfl) (fun _ _ _ h => h) (Or.inl ⟨by rfl, fun w' h => by go_simp⟩) hH ?_
              try simp only [Act.put, List.setIfInBounds_toArray, List.set_cons_zero, List.set_cons_succ]
              refine wpAnyH_take (i := 5) (oi := { dst := some 82, op := Op.slice 25 (Operand.tmp 80) none (some (Operand.tmp 81)) none, type := 25, pos := "outright.go:276", after := #[{ on := 3, ground := Ground.data }, { on := 4, ground := Ground.data }], guard := none }) (v := .slice ao m cap) rfl (by kernel_rfl) (by kernel_rfl) (by kernel_rfl) (fun _ _ _ h => h) (Or.inl ⟨by rfl, fun w' h => by go_simp⟩) hH ?_
              try simp only [Act.put, List.setIfInBounds_toArray, List.set_cons_zero, List.set_cons_succ]
              refine wpAnyH_ready (rs := [1, 11]) (by kernel_rfl) (by simp) ?_
              refine AllReadyH.cons (o := { dst := some 78, op := Op.call { callee := Callee.value (Operand.func 12), args := #[Operand.tmp 77], argTypes := #[24] }, type := 24, pos := "outright.go:276", after := #[{ on := 0, ground := Ground.data }], guard := none }) rfl (fun K hK => ?_) (AllReadyH.cons (o := { dst := some 15, op := Op.alloc 29, type := 0, pos := "outright.go:276", after := #[], guard := none }) rfl (fun K hK => ?_) AllReadyH.nil)
              · go_simp
                refine (OW.out _ hH.bb).mono ?_
                rintro e x1 ⟨oa, on, oc, rfl, orow, bX⟩
                refine hK.out _ _ (hH.later bX) (fun hH => ?_)
                refine wpAnyH_ready (rs := [2, 11]) (by kernel_rfl) (by simp) ?_
                refine AllReadyH.cons (o := { dst := some 79, op := Op.call { callee := Callee.value (Operand.func 10), args := #[], argTypes := #[] }, type := 29, pos := "outright.go:276", after := #[{ on := 1, ground := Ground.chain }], guard := none }) rfl (fun K hK => ?_) (AllReadyH.cons (o := { dst := some 15, op := Op.alloc 29, type := 0, pos := "outright.go:276", after := #[], guard := none }) rfl (fun K hK => ?_) AllReadyH.nil)
                · go_simp
                  refine (FR.out _).mono ?_
                  rintro e x2 ⟨rfl, bX⟩
                  have orow := orow.later bX
                  refine hK.out _ _ (hH.later bX) (fun hH => ?_)
                  refine wpAnyH_ready (rs := [6, 11]) (by kernel_rfl) (by simp) ?_
                  refine AllReadyH.cons (o := { dst := some 83, op := Op.call { callee := Callee.value (Operand.func 15), args := #[Operand.tmp 82], argTypes := #[25] }, type := 25, pos := "outright.go:276", after := #[{ on := 5, ground := Ground.data }, { on := 2, ground := Ground.chain }], guard := none }) rfl (fun K hK => ?_) (AllReadyH.cons (o := { dst := some 15, op := Op.alloc 29, type := 0, pos := "outright.go:276", after := #[], guard := none }) rfl (fun K hK => ?_) AllReadyH.nil)
                  · go_simp
                    refine (FE.out _ _ _ LT.out (ET.out.later hH.bb)).mono ?_
                    rintro e x3 ⟨ve, rfl, re, bX⟩
                    have orow := orow.later bX
                    refine hK.out _ _ (hH.later bX) (fun hH => ?_)
                    refine wpAnyH_ready (rs := [7, 11]) (by kernel_rfl) (by simp) ?_
                    refine AllReadyH.cons (o := { dst := some 84, op := Op.call { callee := Callee.value (Operand.func 14), args := #[Operand.tmp 78, Operand.tmp 79, Operand.tmp 83], argTypes := #[24, 29, 25] }, type := 39, pos := "outright.go:276", after := #[{ on := 1, ground := Ground.data }, { on := 2, ground := Ground.data }, { on := 6, ground := Ground.data }, { on := 6, ground := Ground.chain }], guard := none }) rfl (fun K hK => ?_) (AllReadyH.cons (o := { dst := some 15, op := Op.alloc 29, type := 0, pos := "outright.go:276", after := #[], guard := none }) rfl (fun K hK => ?_) AllReadyH.nil)
                    · go_simp
                      refine (RUNT.out _ _ _ orow.rd re.rd).mono ?_
                      rintro e x4 ⟨ra, rn, rc, rfl, rrow, bX⟩
                      have orow := orow.later bX
                      have re := re.later bX
                      have rrow := rrow.mono hH.bb.size
                      refine hK.out _ _ (hH.later bX) (fun hH => ?_)
                      refine wpAnyH_take (i := 8) (oi := { dst := some 76, op := Op.move (Operand.tmp 84), type := 39, pos := "outright.go:276", after := #[{ on := 7, ground := Ground.data }], guard := none }) (v := .tuple #[csV ck, .slice ra rn rc]) rfl (by kernel_rfl) (by kernel_rfl) (by kernel_rfl) (fun _ _ _ h => h) (Or.inl ⟨by rfl, fun w' h => by go_simp⟩) hH ?_
                      try simp only [Act.put, List.setIfInBounds_toArray, List.set_cons_zero, List.set_cons_succ]
                      refine wpAnyH_take (i := 9) (oi := { dst := some 85, op := Op.extract (Operand.tmp 76) 0, type := 29, pos := "outright.go:276", after := #[{ on := 8, ground := Ground.data }], guard := none }) (v := csV ck) rfl (by kernel_rfl) (by kernel_rfl) (by kernel_rfl) (fun _ _ _ h => h) (Or.inl ⟨by rfl, fun w' h => by go_simp⟩) hH ?_
                      try simp only [Act.put, List.setIfInBounds_toArray, List.set_cons_zero, List.set_cons_succ]
                      refine wpAnyH_take (i := 10) (oi := { dst := some 86, op := Op.extract (Operand.tmp 76) 1, type := 22, pos := "outright.go:276", after := #[{ on := 8, ground := Ground.data }, { on := 12, ground := Ground.gcOnly Departure.lateStores }], guard := none }) (v := .slice ra rn rc) rfl (by kernel_rfl) (by kernel_rfl) (by kernel_rfl) (fun _ _ _ h => h) (Or.inl ⟨by rfl, fun w' h => by go_simp⟩) hH ?_
                      try simp only [Act.put, List.setIfInBounds_toArray, List.set_cons_zero, List.set_cons_succ]
                      refine wpAnyH_ready (rs := [11]) (by kernel_rfl) (by simp) ?_
                      refine AllReadyH.cons (o := { dst := some 15, op := Op.alloc 29, type := 0, pos := "outright.go:276", after := #[], guard := none }) rfl (fun K hK => ?_) AllReadyH.nil
                      go_simp
                      have hN : Blk x4.heap.size 29 (csL ⟨0, false, 0, 0, 0, 0, 0, 0, 0, 0, 0, 0, 0, 0, 0⟩) (x4.alloc (.cells #[.int .i64 0, .bool false, .int .i64 0, .int .i64 0, .int .i64 0, .int .i64 0, .int .i64 0, .int .i64 0, .int .i64 0, .int .i64 0, .int .i64 0, .int .i64 0, .int .i64 0, .int .i64 0, .int .i64 0] 29)) := Blk.new _ _ _
                      have hG := hH.lts
                      have hp : w.heap.size < x4.heap.size := hH.p.lt
                      have orow := orow.later (below_alloc x4 (.cells #[.int .i64 0, .bool false, .int .i64 0, .int .i64 0, .int .i64 0, .int .i64 0, .int .i64 0, .int .i64 0, .int .i64 0, .int .i64 0, .int .i64 0, .int .i64 0, .int .i64 0, .int .i64 0, .int .i64 0] 29))
                      have re := re.later (below_alloc x4 (.cells #[.int .i64 0, .bool false, .int .i64 0, .int .i64 0, .int .i64 0, .int .i64 0, .int .i64 0, .int .i64 0, .int .i64 0, .int .i64 0, .int .i64 0, .int .i64 0, .int .i64 0, .int .i64 0, .int .i64 0] 29))
                      have rrow := rrow.later (below_alloc x4 (.cells #[.int .i64 0, .bool false, .int .i64 0, .int .i64 0, .int .i64 0, .int .i64 0, .int .i64 0, .int .i64 0, .int .i64 0, .int .i64 0, .int .i64 0, .int .i64 0, .int .i64 0, .int .i64 0, .int .i64 0] 29))
                      refine hK.out _ _ (hH.later (below_alloc _ _)) (fun hH => ?_)
                      refine wpAnyH_ready (rs := [12]) (by kernel_rfl) (by simp) ?_
                      refine AllReadyH.cons (o := { dst := none, op := Op.store 29 (Operand.tmp 15) (Operand.tmp 85), type := 0, pos := "outright.go:276", after := #[{ on := 11, ground := Ground.data }, { on := 9, ground := Ground.data }, { on := 7, ground := Ground.chain }, { on := 0, ground := Ground.phase }, { on := 1, ground := Ground.phase }, { on := 2, ground := Ground.phase }, { on := 3, ground := Ground.phase }, { on := 4, ground := Ground.phase }, { on := 5, ground := Ground.phase }, { on := 6, ground := Ground.phase }, { on := 7, ground := Ground.phase }, { on := 8, ground := Ground.phase }, { on := 9, ground := Ground.phase }, { on := 10, ground := Ground.textOnly Departure.lateStores }, { on := 11, ground := Ground.phase }], guard := none }) rfl (fun K hK => ?_) AllReadyH.nil
                      refine op_putC (zs := csL ⟨0, false, 0, 0, 0, 0, 0, 0, 0, 0, 0, 0, 0, 0, 0⟩) (csL ck) rfl (sizeCsL _) (csL_one _) rfl _ _ rfl _ rfl rfl hN ?_
                      intro w9 b9 g9
                      have hZ := hH.grown hN g9 hG hp
                      have PX : Hid (ZZ w l s [(_, ck), (RB, cN), (CB, cN)] [(.slice ra rn rc, ak), (.slice xa xn xc, aN), (va, aN)] w9) := (hZ.addB b9 hp).addR (rowV_blk rrow hN g9 (by decide))
                      refine hK.out _ _ hZ (fun hH => ?_)
                      simp only [Act.put]
                      refine wpAnyH_take (i := 13) (oi := { dst := some 16, op := Op.assign (Operand.tmp 86), type := 22, pos := "outright.go:276", after := #[{ on := 10, ground := Ground.data }, { on := 12, ground := Ground.chain }, { on := 0, ground := Ground.phase }, { on := 1, ground := Ground.phase }, { on := 2, ground := Ground.phase }, { on := 3, ground := Ground.phase }, { on := 4, ground := Ground.phase }, { on := 5, ground := Ground.phase }, { on := 6, ground := Ground.phase }, { on := 7, ground := Ground.phase }, { on := 8, ground := Ground.phase }, { on := 9, ground := Ground.phase }, { on := 10, ground := Ground.phase }, { on := 11, ground := Ground.phase }, { on := 12, ground := Ground.phase }], guard := none }) (v := .slice ra rn rc) rfl (by kernel_rfl) (by kernel_rfl) (by kernel_rfl) (fun _ _ _ h => h) (Or.inl ⟨by rfl, fun w' h => by go_simp⟩) hH ?_
                      try simp only [Act.put, List.setIfInBounds_toArray, List.set_cons_zero, List.set_cons_succ]
                      refine wpAnyH_done (by kernel_rfl) ?_ _
                      clear hH hK b9 g9 hN hZ
                      go_wp2_with fail
                      go_meet
                      case rel => exact ⟨_, _, _, _, rfl, rfl, PX⟩
                    · go_simp
                      have hN : Blk x3.heap.size 29 (csL ⟨0, false, 0, 0, 0, 0, 0, 0, 0, 0, 0, 0, 0, 0, 0⟩) (x3.alloc (.cells #[.int .i64 0, .bool false, .int .i64 0, .int .i64 0, .int .i64 0, .int .i64 0, .int .i64 0, .int .i64 0, .int .i64 0, .int .i64 0, .int .i64 0, .int .i64 0, .int .i64 0, .int .i64 0, .int .i64 0] 29)) := Blk.new _ _ _
                      have hG := hH.lts
                      have hp : w.heap.size < x3.heap.size := hH.p.lt
                      have orow := orow.later (below_alloc x3 (.cells #[.int .i64 0, .bool false, .int .i64 0, .int .i64 0, .int .i64 0, .int .i64 0, .int .i64 0, .int .i64 0, .int .i64 0, .int .i64 0, .int .i64 0, .int .i64 0, .int .i64 0, .int .i64 0, .int .i64 0] 29))
                      have re := re.later (below_alloc x3 (.cells #[.int .i64 0, .bool false, .int .i64 0, .int .i64 0, .int .i64 0, .int .i64 0, .int .i64 0, .int .i64 0, .int .i64 0, .int .i64 0, .int .i64 0, .int .i64 0, .int .i64 0, .int .i64 0, .int .i64 0] 29))
                      refine hK.out _ _ (hH.later (below_alloc _ _)) (fun hH => ?_)
                      refine wpAnyH_ready (rs := [7]) (by kernel_rfl) (by simp) ?_
                      refine AllReadyH.cons (o := { dst := some 84, op := Op.call { callee := Callee.value (Operand.func 14), args := #[Operand.tmp 78, Operand.tmp 79, Operand.tmp 83], argTypes := #[24, 29, 25] }, type := 39, pos := "outright.go:276", after := #[{ on := 1, ground := Ground.data }, { on := 2, ground := Ground.data }, { on := 6, ground := Ground.data }, { on := 6, ground := Ground.chain }], guard := none }) rfl (fun K hK => ?_) AllReadyH.nil
                      go_simp
                      refine (RUNT.out _ _ _ orow.rd re.rd).mono ?_
                      rintro e x5 ⟨ra, rn, rc, rfl, rrow, bX⟩
                      have orow := orow.later bX
                      have re := re.later bX
                      have hN := hN.below bX
                      have rrow := rrow.mono hH.bb.size
                      refine hK.out _ _ (hH.later bX) (fun hH => ?_)
                      refine wpAnyH_take (i := 8) (oi := { dst := some 76, op := Op.move (Operand.tmp 84), type := 39, pos := "outright.go:276", after := #[{ on := 7, ground := Ground.data }], guard := none }) (v := .tuple #[csV ck, .slice ra rn rc]) rfl (by kernel_rfl) (by kernel_rfl) (by kernel_rfl) (fun _ _ _ h => h) (Or.inl ⟨by rfl, fun w' h => by go_simp⟩) hH ?_
                      try simp only [Act.put, List.setIfInBounds_toArray, List.set_cons_zero, List.set_cons_succ]
                      refine wpAnyH_take (i := 9) (oi := { dst := some 85, op := Op.extract (Operand.tmp 76) 0, type := 29, pos := "outright.go:276", after := #[{ on := 8, ground := Ground.data }], guard := none }) (v := csV ck) rfl (by kernel_rfl) (by kernel_rfl) (by kernel_rfl) (fun _ _ _ h => h) (Or.inl ⟨by rfl, fun w' h => by go_simp⟩) hH ?_
                      try simp only [Act.put, List.setIfInBounds_toArray, List.set_cons_zero, List.set_cons_succ]
                      refine wpAnyH_take (i := 10) (oi := { dst := some 86, op := Op.extract (Operand.tmp 76) 1, type := 22, pos := "outright.go:276", after := #[{ on := 8, ground := Ground.data }, { on := 12, ground := Ground.gcOnly Departure.lateStores }], guard := none }) (v := .slice ra rn rc) rfl (by kernel_rfl) (by kernel_rfl) (by kernel_rfl) (fun _ _ _ h => h) (Or.inl ⟨by rfl, fun w' h => by go_simp⟩) hH ?_
                      try simp only [Act.put, List.setIfInBounds_toArray, List.set_cons_zero, List.set_cons_succ]
                      refine wpAnyH_ready (rs := [12]) (by kernel_rfl) (by simp) ?_
                      refine AllReadyH.cons (o := { dst := none, op := Op.store 29 (Operand.tmp 15) (Operand.tmp 85), type := 0, pos := "outright.go:276", after := #[{ on := 11, ground := Ground.data }, { on := 9, ground := Ground.data }, { on := 7, ground := Ground.chain }, { on := 0, ground := Ground.phase }, { on := 1, ground := Ground.phase }, { on := 2, ground := Ground.phase }, { on := 3, ground := Ground.phase }, { on := 4, ground := Ground.phase }, { on := 5, ground := Ground.phase }, { on := 6, ground := Ground.phase }, { on := 7, ground := Ground.phase }, { on := 8, ground := Ground.phase }, { on := 9, ground := Ground.phase }, { on := 10, ground := Ground.textOnly Departure.lateStores }, { on := 11, ground := Ground.phase }], guard := none }) rfl (fun K hK => ?_) AllReadyH.nil
                      refine op_putC (zs := csL ⟨0, false, 0, 0, 0, 0, 0, 0, 0, 0, 0, 0, 0, 0, 0⟩) (csL ck) rfl (sizeCsL _) (csL_one _) rfl _ _ rfl _ rfl rfl hN ?_
                      intro w9 b9 g9
                      have hZ := hH.grown hN g9 hG hp
                      have PX : Hid (ZZ w l s [(_, ck), (RB, cN), (CB, cN)] [(.slice ra rn rc, ak), (.slice xa xn xc, aN), (va, aN)] w9) := (hZ.addB b9 hp).addR (rowV_blk rrow hN g9 (by decide))
                      refine hK.out _ _ hZ (fun hH => ?_)
                      simp only [Act.put]
                      refine wpAnyH_take (i := 13) (oi := { dst := some 16, op := Op.assign (Operand.tmp 86), type := 22, pos := "outright.go:276", after := #[{ on := 10, ground := Ground.data }, { on := 12, ground := Ground.chain }, { on := 0, ground := Ground.phase }, { on := 1, ground := Ground.phase }, { on := 2, ground := Ground.phase }, { on := 3, ground := Ground.phase }, { on := 4, ground := Ground.phase }, { on := 5, ground := Ground.phase }, { on := 6, ground := Ground.phase }, { on := 7, ground := Ground.phase }, { on := 8, ground := Ground.phase }, { on := 9, ground := Ground.phase }, { on := 10, ground := Ground.phase }, { on := 11, ground := Ground.phase }, { on := 12, ground := Ground.phase }], guard := none }) (v := .slice ra rn rc) rfl (by kernel_rfl) (by kernel_rfl) (by kernel_rfl) (fun _ _ _ h => h) (Or.inl ⟨by rfl, fun w' h => by go_simp⟩) hH ?_
                      try simp only [Act.put, List.setIfInBounds_toArray, List.set_cons_zero, List.set_cons_succ]
                      refine wpAnyH_done (by kernel_rfl) ?_ _
                      clear hH hK b9 g9 hN hZ
                      go_wp2_with fail
                      go_meet
                      case rel => exact ⟨_, _, _, _, rfl, rfl, PX⟩
                  · go_simp
                    have hN : Blk x2.heap.size 29 (csL ⟨0, false, 0, 0, 0, 0, 0, 0, 0, 0, 0, 0, 0, 0, 0⟩) (x2.alloc (.cells #[.int .i64 0, .bool false, .int .i64 0, .int .i64 0, .int .i64 0, .int .i64 0, .int .i64 0, .int .i64 0, .int .i64 0, .int .i64 0, .int .i64 0, .int .i64 0, .int .i64 0, .int .i64 0, .int .i64 0] 29)) := Blk.new _ _ _
                    have hG := hH.lts
                    have hp : w.heap.size < x2.heap.size := hH.p.lt
                    have orow := orow.later (below_alloc x2 (.cells #[.int .i64 0, .bool false, .int .i64 0, .int .i64 0, .int .i64 0, .int .i64 0, .int .i64 0, .int .i64 0, .int .i64 0, .int .i64 0, .int .i64 0, .int .i64 0, .int .i64 0, .int .i64 0, .int .i64 0] 29))
                    refine hK.out _ _ (hH.later (below_alloc _ _)) (fun hH => ?_)
                    refine wpAnyH_ready (rs := [6]) (by kernel_rfl) (by simp) ?_
                    refine AllReadyH.cons (o := { dst := some 83, op := Op.call { callee := Callee.value (Operand.func 15), args := #[Operand.tmp 82], argTypes := #[25] }, type := 25, pos := "outright.go:276", after := #[{ on := 5, ground := Ground.data }, { on := 2, ground := Ground.chain }], guard := none }) rfl (fun K hK => ?_) AllReadyH.nil
                    go_simp
                    refine (FE.out _ _ _ LT.out (ET.out.later hH.bb)).mono ?_
                    rintro e x6 ⟨ve, rfl, re, bX⟩
                    have orow := orow.later bX
                    have hN := hN.below bX
                    refine hK.out _ _ (hH.later bX) (fun hH => ?_)
                    refine wpAnyH_ready (rs := [7]) (by kernel_rfl) (by simp) ?_
                    refine AllReadyH.cons (o := { dst := some 84, op := Op.call { callee := Callee.value (Operand.func 14), args := #[Operand.tmp 78, Operand.tmp 79, Operand.tmp 83], argTypes := #[24, 29, 25] }, type := 39, pos := "outright.go:276", after := #[{ on := 1, ground := Ground.data }, { on := 2, ground := Ground.data }, { on := 6, ground := Ground.data }, { on := 6, ground := Ground.chain }], guard := none }) rfl (fun K hK => ?_) AllReadyH.nil
                    go_simp
                    refine (RUNT.out _ _ _ orow.rd re.rd).mono ?_
                    rintro e x7 ⟨ra, rn, rc, rfl, rrow, bX⟩
                    have orow := orow.later bX
                    have hN := hN.below bX
                    have re := re.later bX
                    have rrow := rrow.mono hH.bb.size
                    refine hK.out _ _ (hH.later bX) (fun hH => ?_)
                    refine wpAnyH_take (i := 8) (oi := { dst := some 76, op := Op.move (Operand.tmp 84), type := 39, pos := "outright.go:276", after := #[{ on := 7, ground := Ground.data }], guard := none }) (v := .tuple #[csV ck, .slice ra rn rc]) rfl (by kernel_rfl) (by kernel_rfl) (by kernel_rfl) (fun _ _ _ h => h) (Or.inl ⟨by rfl, fun w' h => by go_simp⟩) hH ?_
                    try simp only [Act.put, List.setIfInBounds_toArray, List.set_cons_zero, List.set_cons_succ]
                    refine wpAnyH_take (i := 9) (oi := { dst := some 85, op := Op.extract (Operand.tmp 76) 0, type := 29, pos := "outright.go:276", after := #[{ on := 8, ground := Ground.data }], guard := none }) (v := csV ck) rfl (by kernel_rfl) (by kernel_rfl) (by kernel_rfl) (fun _ _ _ h => h) (Or.inl ⟨by rfl, fun w' h => by go_simp⟩) hH ?_
                    try simp only [Act.put, List.setIfInBounds_toArray, List.set_cons_zero, List.set_cons_succ]
                    refine wpAnyH_take (i := 10) (oi := { dst := some 86, op := Op.extract (Operand.tmp 76) 1, type := 22, pos := "outright.go:276", after := #[{ on := 8, ground := Ground.data }, { on := 12, ground := Ground.gcOnly Departure.lateStores }], guard := none }) (v := .slice ra rn rc) rfl (by kernel_rfl) (by kernel_rfl) (by kernel_rfl) (fun _ _ _ h => h) (Or.inl ⟨by rfl, fun w' h => by go_simp⟩) hH ?_
                    try simp only [Act.put, List.setIfInBounds_toArray, List.set_cons_zero, List.set_cons_succ]
                    refine wpAnyH_ready (rs := [12]) (by kernel_rfl) (by simp) ?_
                    refine AllReadyH.cons (o := { dst := none, op := Op.store 29 (Operand.tmp 15) (Operand.tmp 85), type := 0, pos := "outright.go:276", after := #[{ on := 11, ground := Ground.data }, { on := 9, ground := Ground.data }, { on := 7, ground := Ground.chain }, { on := 0, ground := Ground.phase }, { on := 1, ground := Ground.phase }, { on := 2, ground := Ground.phase }, { on := 3, ground := Ground.phase }, { on := 4, ground := Ground.phase }, { on := 5, ground := Ground.phase }, { on := 6, ground := Ground.phase }, { on := 7, ground := Ground.phase }, { on := 8, ground := Ground.phase }, { on := 9, ground := Ground.phase }, { on := 10, ground := Ground.textOnly Departure.lateStores }, { on := 11, ground := Ground.phase }], guard := none }) rfl (fun K hK => ?_) AllReadyH.nil
                    refine op_putC (zs := csL ⟨0, false, 0, 0, 0, 0, 0, 0, 0, 0, 0, 0, 0, 0, 0⟩) (csL ck) rfl (sizeCsL _) (csL_one _) rfl _ _ rfl _ rfl rfl hN ?_
                    intro w9 b9 g9
                    have hZ := hH.grown hN g9 hG hp
                    have PX : Hid (ZZ w l s [(_, ck), (RB, cN), (CB, cN)] [(.slice ra rn rc, ak), (.slice xa xn xc, aN), (va, aN)] w9) := (hZ.addB b9 hp).addR (rowV_blk rrow hN g9 (by decide))
                    refine hK.out _ _ hZ (fun hH => ?_)
                    simp only [Act.put]
                    refine wpAnyH_take (i := 13) (oi := { dst := some 16, op := Op.assign (Operand.tmp 86), type := 22, pos := "outright.go:276", after := #[{ on := 10, ground := Ground.data }, { on := 12, ground := Ground.chain }, { on := 0, ground := Ground.phase }, { on := 1, ground := Ground.phase }, { on := 2, ground := Ground.phase }, { on := 3, ground := Ground.phase }, { on := 4, ground := Ground.phase }, { on := 5, ground := Ground.phase }, { on := 6, ground := Ground.phase }, { on := 7, ground := Ground.phase }, { on := 8, ground := Ground.phase }, { on := 9, ground := Ground.phase }, { on := 10, ground := Ground.phase }, { on := 11, ground := Ground.phase }, { on := 12, ground := Ground.phase }], guard := none }) (v := .slice ra rn rc) rfl (by kernel_rfl) (by kernel_rfl) (by kernel_rfl) (fun _ _ _ h => h) (Or.inl ⟨by rfl, fun w' h => by go_simp⟩) hH ?_
                    try simp only [Act.put, List.setIfInBounds_toArray, List.set_cons_zero, List.set_cons_succ]
                    refine wpAnyH_done (by kernel_rfl) ?_ _
                    clear hH hK b9 g9 hN hZ
                    go_wp2_with fail
                    go_meet
                    case rel => exact ⟨_, _, _, _, rfl, rfl, PX⟩
                · go_simp
                  have hN : Blk x1.heap.size 29 (csL ⟨0, false, 0, 0, 0, 0, 0, 0, 0, 0, 0, 0, 0, 0, 0⟩) (x1.alloc (.cells #[.int .i64 0, .bool false, .int .i64 0, .int .i64 0, .int .i64 0, .int .i64 0, .int .i64 0, .int .i64 0, .int .i64 0, .int .i64 0, .int .i64 0, .int .i64 0, .int .i64 0, .int .i64 0, .int .i64 0] 29)) := Blk.new _ _ _
                  have hG := hH.lts
                  have hp : w.heap.size < x1.heap.size := hH.p.lt
                  have orow := orow.later (below_alloc x1 (.cells #[.int .i64 0, .bool false, .int .i64 0, .int .i64 0, .int .i64 0, .int .i64 0, .int .i64 0, .int .i64 0, .int .i64 0, .int .i64 0, .int .i64 0, .int .i64 0, .int .i64 0, .int .i64 0, .int .i64 0] 29))
                  refine hK.out _ _ (hH.later (below_alloc _ _)) (fun hH => ?_)
                  refine wpAnyH_ready (rs := [2]) (by kernel_rfl) (by simp) ?_
                  refine AllReadyH.cons (o := { dst := some 79, op := Op.call { callee := Callee.value (Operand.func 10), args := #[], argTypes := #[] }, type := 29, pos := "outright.go:276", after := #[{ on := 1, ground := Ground.chain }], guard := none }) rfl (fun K hK => ?_) AllReadyH.nil
                  go_simp
                  refine (FR.out _).mono ?_
                  rintro e x8 ⟨rfl, bX⟩
                  have orow := orow.later bX
                  have hN := hN.below bX
                  refine hK.out _ _ (hH.later bX) (fun hH => ?_)
                  refine wpAnyH_ready (rs := [6]) (by kernel_rfl) (by simp) ?_
                  refine AllReadyH.cons (o := { dst := some 83, op := Op.call { callee := Callee.value (Operand.func 15), args := #[Operand.tmp 82], argTypes := #[25] }, type := 25, pos := "outright.go:276", after := #[{ on := 5, ground := Ground.data }, { on := 2, ground := Ground.chain }], guard := none }) rfl (fun K hK => ?_) AllReadyH.nil
                  go_simp
                  refine (FE.out _ _ _ LT.out (ET.out.later hH.bb)).mono ?_
                  rintro e x9 ⟨ve, rfl, re, bX⟩
                  have orow := orow.later bX
                  have hN := hN.below bX
                  refine hK.out _ _ (hH.later bX) (fun hH => ?_)
                  refine wpAnyH_ready (rs := [7]) (by kernel_rfl) (by simp) ?_
                  refine AllReadyH.cons (o := { dst := some 84, op := Op.call { callee := Callee.value (Operand.func 14), args := #[Operand.tmp 78, Operand.tmp 79, Operand.tmp 83], argTypes := #[24, 29, 25] }, type := 39, pos := "outright.go:276", after := #[{ on := 1, ground := Ground.data }, { on := 2, ground := Ground.data }, { on := 6, ground := Ground.data }, { on := 6, ground := Ground.chain }], guard := none }) rfl (fun K hK => ?_) AllReadyH.nil
                  go_simp
                  refine (RUNT.out _ _ _ orow.rd re.rd).mono ?_
                  rintro e x10 ⟨ra, rn, rc, rfl, rrow, bX⟩
                  have orow := orow.later bX
                  have hN := hN.below bX
                  have re := re.later bX
                  have rrow := rrow.mono hH.bb.size
                  refine hK.out _ _ (hH.later bX) (fun hH => ?_)
                  refine wpAnyH_take (i := 8) (oi := { dst := some 76, op := Op.move (Operand.tmp 84), type := 39, pos := "outright.go:276", after := #[{ on := 7, ground := Ground.data }], guard := none }) (v := .tuple #[csV ck, .slice ra rn rc]) rfl (by kernel_rfl) (by kernel_rfl) (by kernel_rfl) (fun _ _ _ h => h) (Or.inl ⟨by rfl, fun w' h => by go_simp⟩) hH ?_
                  try simp only [Act.put, List.setIfInBounds_toArray, List.set_cons_zero, List.set_cons_succ]
                  refine wpAnyH_take (i := 9) (oi := { dst := some 85, op := Op.extract (Operand.tmp 76) 0, type := 29, pos := "outright.go:276", after := #[{ on := 8, ground := Ground.data }], guard := none }) (v := csV ck) rfl (by kernel_rfl) (by kernel_rfl) (by kernel_rfl) (fun _ _ _ h => h) (Or.inl ⟨by rfl, fun w' h => by go_simp⟩) hH ?_
                  try simp only [Act.put, List.setIfInBounds_toArray, List.set_cons_zero, List.set_cons_succ]
                  refine wpAnyH_take (i := 10) (oi := { dst := some 86, op := Op.extract (Operand.tmp 76) 1, type := 22, pos := "outright.go:276", after := #[{ on := 8, ground := Ground.data }, { on := 12, ground := Ground.gcOnly Departure.lateStores }], guard := none }) (v := .slice ra rn rc) rfl (by kernel_rfl) (by kernel_rfl) (by kernel_rfl) (fun _ _ _ h => h) (Or.inl ⟨by rfl, fun w' h => by go_simp⟩) hH ?_
                  try simp only [Act.put, List.setIfInBounds_toArray, List.set_cons_zero, List.set_cons_succ]
                  refine wpAnyH_ready (rs := [12]) (by kernel_rfl) (by simp) ?_
                  refine AllReadyH.cons (o := { dst := none, op := Op.store 29 (Operand.tmp 15) (Operand.tmp 85), type := 0, pos := "outright.go:276", after := #[{ on := 11, ground := Ground.data }, { on := 9, ground := Ground.data }, { on := 7, ground := Ground.chain }, { on := 0, ground := Ground.phase }, { on := 1, ground := Ground.phase }, { on := 2, ground := Ground.phase }, { on := 3, ground := Ground.phase }, { on := 4, ground := Ground.phase }, { on := 5, ground := Ground.phase }, { on := 6, ground := Ground.phase }, { on := 7, ground := Ground.phase }, { on := 8, ground := Ground.phase }, { on := 9, ground := Ground.phase }, { on := 10, ground := Ground.textOnly Departure.lateStores }, { on := 11, ground := Ground.phase }], guard := none }) rfl (fun K hK => ?_) AllReadyH.nil
                  refine op_putC (zs := csL ⟨0, false, 0, 0, 0, 0, 0, 0, 0, 0, 0, 0, 0, 0, 0⟩) (csL ck) rfl (sizeCsL _) (csL_one _) rfl _ _ rfl _ rfl rfl hN ?_
                  intro w9 b9 g9
                  have hZ := hH.grown hN g9 hG hp
                  have PX : Hid (ZZ w l s [(_, ck), (RB, cN), (CB, cN)] [(.slice ra rn rc, ak), (.slice xa xn xc, aN), (va, aN)] w9) := (hZ.addB b9 hp).addR (rowV_blk rrow hN g9 (by decide))
                  refine hK.out _ _ hZ (fun hH => ?_)
                  simp only [Act.put]
                  refine wpAnyH_take (i := 13) (oi := { dst := some 16, op := Op.assign (Operand.tmp 86), type := 22, pos := "outright.go:276", after := #[{ on := 10, ground := Ground.data }, { on := 12, ground := Ground.chain }, { on := 0, ground := Ground.phase }, { on := 1, ground := Ground.phase }, { on := 2, ground := Ground.phase }, { on := 3, ground := Ground.phase }, { on := 4, ground := Ground.phase }, { on := 5, ground := Ground.phase }, { on := 6, ground := Ground.phase }, { on := 7, ground := Ground.phase }, { on := 8, ground := Ground.phase }, { on := 9, ground := Ground.phase }, { on := 10, ground := Ground.phase }, { on := 11, ground := Ground.phase }, { on := 12, ground := Ground.phase }], guard := none }) (v := .slice ra rn rc) rfl (by kernel_rfl) (by kernel_rfl) (by kernel_rfl) (fun _ _ _ h => h) (Or.inl ⟨by rfl, fun w' h => by go_simp⟩) hH ?_
                  try simp only [Act.put, List.setIfInBounds_toArray, List.set_cons_zero, List.set_cons_succ]
                  refine wpAnyH_done (by kernel_rfl) ?_ _
                  clear hH hK b9 g9 hN hZ
                  go_wp2_with fail
                  go_meet
                  case rel => exact ⟨_, _, _, _, rfl, rfl, PX⟩
              · go_simp
                have hN : Blk x6.drew.heap.size 29 (csL ⟨0, false, 0, 0, 0, 0, 0, 0, 0, 0, 0, 0, 0, 0, 0⟩) (x6.drew.alloc (.cells #[.int .i64 0, .bool false, .int .i64 0, .int .i64 0, .int .i64 0, .int .i64 0, .int .i64 0, .int .i64 0, .int .i64 0, .int .i64 0, .int .i64 0, .int .i64 0, .int .i64 0, .int .i64 0, .int .i64 0] 29)) := Blk.new _ _ _
                have hG := hH.lts
                have hp : w.heap.size < x6.drew.heap.size := hH.p.lt
                refine hK.out _ _ (hH.later (below_alloc _ _)) (fun hH => ?_)
                refine wpAnyH_ready (rs := [1]) (by kernel_rfl) (by simp) ?_
                refine AllReadyH.cons (o := { dst := some 78, op := Op.call { callee := Callee.value (Operand.func 12), args := #[Operand.tmp 77], argTypes := #[24] }, type := 24, pos := "outright.go:276", after := #[{ on := 0, ground := Ground.data }], guard := none }) rfl (fun K hK => ?_) AllReadyH.nil
                go_simp
                refine (OW.out _ hH.bb).mono ?_
                rintro e x11 ⟨oa, on, oc, rfl, orow, bX⟩
                have hN := hN.below bX
                refine hK.out _ _ (hH.later bX) (fun hH => ?_)
                refine wpAnyH_ready (rs := [2]) (by kernel_rfl) (by simp) ?_
                refine AllReadyH.cons (o := { dst := some 79, op := Op.call { callee := Callee.value (Operand.func 10), args := #[], argTypes := #[] }, type := 29, pos := "outright.go:276", after := #[{ on := 1, ground := Ground.chain }], guard := none }) rfl (fun K hK => ?_) AllReadyH.nil
                go_simp
                refine (FR.out _).mono ?_
                rintro e x12 ⟨rfl, bX⟩
                have hN := hN.below bX
                have orow := orow.later bX
                refine hK.out _ _ (hH.later bX) (fun hH => ?_)
                refine wpAnyH_ready (rs := [6]) (by kernel_rfl) (by simp) ?_
                refine AllReadyH.cons (o := { dst := some 83, op := Op.call { callee := Callee.value (Operand.func 15), args := #[Operand.tmp 82], argTypes := #[25] }, type := 25, pos := "outright.go:276", after := #[{ on := 5, ground := Ground.data }, { on := 2, ground := Ground.chain }], guard := none }) rfl (fun K hK => ?_) AllReadyH.nil
                go_simp
                refine (FE.out _ _ _ LT.out (ET.out.later hH.bb)).mono ?_
                rintro e x13 ⟨ve, rfl, re, bX⟩
                have hN := hN.below bX
                have orow := orow.later bX
                refine hK.out _ _ (hH.later bX) (fun hH => ?_)
                refine wpAnyH_ready (rs := [7]) (by kernel_rfl) (by simp) ?_
                refine AllReadyH.cons (o := { dst := some 84, op := Op.call { callee := Callee.value (Operand.func 14), args := #[Operand.tmp 78, Operand.tmp 79, Operand.tmp 83], argTypes := #[24, 29, 25] }, type := 39, pos := "outright.go:276", after := #[{ on := 1, ground := Ground.data }, { on := 2, ground := Ground.data }, { on := 6, ground := Ground.data }, { on := 6, ground := Ground.chain }], guard := none }) rfl (fun K hK => ?_) AllReadyH.nil
                go_simp
                refine (RUNT.out _ _ _ orow.rd re.rd).mono ?_
                rintro e x14 ⟨ra, rn, rc, rfl, rrow, bX⟩
                have hN := hN.below bX
                have orow := orow.later bX
                have re := re.later bX
                have rrow := rrow.mono hH.bb.size
                refine hK.out _ _ (hH.later bX) (fun hH => ?_)
                refine wpAnyH_take (i := 8) (oi := { dst := some 76, op := Op.move (Operand.tmp 84), type := 39, pos := "outright.go:276", after := #[{ on := 7, ground := Ground.data }], guard := none }) (v := .tuple #[csV ck, .slice ra rn rc]) rfl (by kernel_rfl) (by kernel_rfl) (by kernel_rfl) (fun _ _ _ h => h) (Or.inl ⟨by rfl, fun w' h => by go_simp⟩) hH ?_
                try simp only [Act.put, List.setIfInBounds_toArray, List.set_cons_zero, List.set_cons_succ]
                refine wpAnyH_take (i := 9) (oi := { dst := some 85, op := Op.extract (Operand.tmp 76) 0, type := 29, pos := "outright.go:276", after := #[{ on := 8, ground := Ground.data }], guard := none }) (v := csV ck) rfl (by kernel_rfl) (by kernel_rfl) (by kernel_rfl) (fun _ _ _ h => h) (Or.inl ⟨by rfl, fun w' h => by go_simp⟩) hH ?_
                try simp only [Act.put, List.setIfInBounds_toArray, List.set_cons_zero, List.set_cons_succ]
                refine wpAnyH_take (i := 10) (oi := { dst := some 86, op := Op.extract (Operand.tmp 76) 1, type := 22, pos := "outright.go:276", after := #[{ on := 8, ground := Ground.data }, { on := 12, ground := Ground.gcOnly Departure.lateStores }], guard := none }) (v := .slice ra rn rc) rfl (by kernel_rfl) (by kernel_rfl) (by kernel_rfl) (fun _ _ _ h => h) (Or.inl ⟨by rfl, fun w' h => by go_simp⟩) hH ?_
                try simp only [Act.put, List.setIfInBounds_toArray, List.set_cons_zero, List.set_cons_succ]
                refine wpAnyH_ready (rs := [12]) (by kernel_rfl) (by simp) ?_
                refine AllReadyH.cons (o := { dst := none, op := Op.store 29 (Operand.tmp 15) (Operand.tmp 85), type := 0, pos := "outright.go:276", after := #[{ on := 11, ground := Ground.data }, { on := 9, ground := Ground.data }, { on := 7, ground := Ground.chain }, { on := 0, ground := Ground.phase }, { on := 1, ground := Ground.phase }, { on := 2, ground := Ground.phase }, { on := 3, ground := Ground.phase }, { on := 4, ground := Ground.phase }, { on := 5, ground := Ground.phase }, { on := 6, ground := Ground.phase }, { on := 7, ground := Ground.phase }, { on := 8, ground := Ground.phase }, { on := 9, ground := Ground.phase }, { on := 10, ground := Ground.textOnly Departure.lateStores }, { on := 11, ground := Ground.phase }], guard := none }) rfl (fun K hK => ?_) AllReadyH.nil
                refine op_putC (zs := csL ⟨0, false, 0, 0, 0, 0, 0, 0, 0, 0, 0, 0, 0, 0, 0⟩) (csL ck) rfl (sizeCsL _) (csL_one _) rfl _ _ rfl _ rfl rfl hN ?_
                intro w9 b9 g9
                have hZ := hH.grown hN g9 hG hp
                have PX : Hid (ZZ w l s [(_, ck), (RB, cN), (CB, cN)] [(.slice ra rn rc, ak), (.slice xa xn xc, aN), (va, aN)] w9) := (hZ.addB b9 hp).addR (rowV_blk rrow hN g9 (by decide))
                refine hK.out _ _ hZ (fun hH => ?_)
                simp only [Act.put]
                refine wpAnyH_take (i := 13) (oi := { dst := some 16, op := Op.assign (Operand.tmp 86), type := 22, pos := "outright.go:276", after := #[{ on := 10, ground := Ground.data }, { on := 12, ground := Ground.chain }, { on := 0, ground := Ground.phase }, { on := 1, ground := Ground.phase }, { on := 2, ground := Ground.phase }, { on := 3, ground := Ground.phase }, { on := 4, ground := Ground.phase }, { on := 5, ground := Ground.phase }, { on := 6, ground := Ground.phase }, { on := 7, ground := Ground.phase }, { on := 8, ground := Ground.phase }, { on := 9, ground := Ground.phase }, { on := 10, ground := Ground.phase }, { on := 11, ground := Ground.phase }, { on := 12, ground := Ground.phase }], guard := none }) (v := .slice ra rn rc) rfl (by kernel_rfl) (by kernel_rfl) (by kernel_rfl) (fun _ _ _ h => h) (Or.inl ⟨by rfl, fun w' h => by go_simp⟩) hH ?_
                try simp only [Act.put, List.setIfInBounds_toArray, List.set_cons_zero, List.set_cons_succ]
                refine wpAnyH_done (by kernel_rfl) ?_ _
                clear hH hK b9 g9 hN hZ
                go_wp2_with fail
                go_meet
                case rel => exact ⟨_, _, _, _, rfl, rfl, PX⟩
            case rest =>
              obtain ⟨HB, ha, hn, hc, rfl, rfl, SH⟩ := hcut
              clear SZ2
              go_upto_region 17 with fail
              go_cut [17, 18] from 20 to 112 (fun v17 v18 wx => ∃ G ra rn rc, v17 = .pointer (some ⟨G, 0, none⟩) ∧ v18 = .slice ra rn rc ∧ Hid (ZZ w l s [(G, cN), (HB, ck), (RB, cN), (CB, cN)] [(.slice ra rn rc, aq), (.slice ha hn hc, ak), (.slice xa xn xc, aN), (va, aN)] wx))
              case first =>
                have hu := Try.underlying24
                have hi := SZ.out
                have hu2 := Try.underlying29
                have hu3 := Try.underlying36
                refine wp_region_held_drew (S := fun w' => ZZ w l s [(HB, ck), (RB, cN), (CB, cN)] [(.slice ha hn hc, ak), (.slice xa xn xc, aN), (va, aN)] w') (by kernel_rfl) (SH.out.drew) (fun hH => ?_)
                refine wpAnyH_take (i := 0) (oi := { dst := some 88, op := Op.load 24 (Operand.tmp 3), type := 24, pos := "outright.go:277", after := #[], guard := none }) (v := .agg (polL l s).toArray) rfl (by kernel_rfl) (by kernel_rfl) (by kernel_rfl) (fun _ _ _ h => h) (yieldsIf_load_mid (by rfl) _ _ rfl w.heap.size 0 rfl (polL l s) _ (fun w' h => h.p.all) hu rfl hi) hH ?_
                try simp only [Act.put, List.setIfInBounds_toArray, List.set_cons_zero, List.set_cons_succ]
                refine wpAnyH_take (i := 2) (oi := { dst := some 90, op := Op.load 29 (Operand.tmp 15), type := 29, pos := "outright.go:277", after := #[], guard := none }) (v := .agg (csL ck).toArray) rfl (by kernel_rfl) (by kernel_rfl) (by kernel_rfl) (fun _ _ _ h => h) (yieldsIf_load_mid (by rfl) _ _ rfl HB 0 rfl (csL ck) _ (fun w' h => (h.b (HB, ck) (by simp)).all) hu2 rfl (sizeCsL ck)) hH ?_
                try simp only [Act.put, List.setIfInBounds_toArray, List.set_cons_zero, List.set_cons_succ]
                refine wpAnyH_take (i := 3) (oi := { dst := some 91, op := Op.move (Operand.tmp 1), type := 25, pos := "outright.go:277", after := #[], guard := none }) (v := .slice ao k cap) rfl (by kernel_rfl) (by kernel_rfl) (by kernel_rfl) (fun _ _ _ h => h) (Or.inl ⟨by rfl, fun w' h => by go_simp⟩) hH ?_
                try simp only [Act.put, List.setIfInBounds_toArray, List.set_cons_zero, List.set_cons_succ]
                refine wpAnyH_take (i := 4) (oi := { dst := some 92, op := Op.move (Operand.tmp 2), type := 3, pos := "outright.go:277", after := #[], guard := none }) (v := .int .i64 (m : Int)) rfl (by kernel_rfl) (by kernel_rfl) (by kernel_rfl) (fun _ _ _ h => h) (Or.inl ⟨by rfl, fun w' h => by go_simp⟩) hH ?_
                try simp only [Act.put, List.setIfInBounds_toArray, List.set_cons_zero, List.set_cons_succ]
                refine wpAnyH_take (i := 5) (oi := { dst := some 93, op := Op.slice 25 (Operand.tmp 91) (some (Operand.tmp 92)) none none, type := 25, pos := "outright.go:277", after := #[{ on := 3, ground := Ground.data }, { on := 4, ground := Ground.data }], guard := none }) (v := dv) rfl (by kernel_rfl) (by kernel_rfl) (by kernel_rfl) (fun _ _ _ h => h) (Or.inl ⟨by rfl, fun w' h => by rw [← DV.out]; go_simp⟩) hH ?_
                try simp only [Act.put, List.setIfInBounds_toArray, List.set_cons_zero, List.set_cons_succ]
                refine wpAnyH_ready (rs := [1, 11]) (by kernel_rfl) (by simp) ?_
                refine AllReadyH.cons (o := { dst := some 89, op := Op.call { callee := Callee.value (Operand.func 12), args := #[Operand.tmp 88], argTypes := #[24] }, type := 24, pos := "outright.go:277", after := #[{ on := 0, ground := Ground.data }], guard := none }) rfl (fun K hK => ?_) (AllReadyH.cons (o := { dst := some 17, op := Op.alloc 29, type := 0, pos := "outright.go:277", after := #[], guard := none }) rfl (fun K hK => ?_) AllReadyH.nil)
                · go_simp
                  refine (OW.out _ hH.bb).mono ?_
                  rintro e x1 ⟨oa, on, oc, rfl, orow, bX⟩
                  refine hK.out _ _ (hH.later bX) (fun hH => ?_)
                  refine wpAnyH_ready (rs := [6, 11]) (by kernel_rfl) (by simp) ?_
                  refine AllReadyH.cons (o := { dst := some 94, op := Op.call { callee := Callee.value (Operand.func 15), args := #[Operand.tmp 93], argTypes := #[25] }, type := 25, pos := "outright.go:277", after := #[{ on := 5, ground := Ground.data }, { on := 1, ground := Ground.chain }], guard := none }) rfl (fun K hK => ?_) (AllReadyH.cons (o := { dst := some 17, op := Op.alloc 29, type := 0, pos := "outright.go:277", after := #[], guard := none }) rfl (fun K hK => ?_) AllReadyH.nil)
                  · go_simp
                    refine (FE.out _ _ _ LD.out (ED.out.later hH.bb)).mono ?_
                    rintro e x2 ⟨ve, rfl, re, bX⟩
                    have orow := orow.later bX
                    refine hK.out _ _ (hH.later bX) (fun hH => ?_)
                    refine wpAnyH_ready (rs := [7, 11]) (by kernel_rfl) (by simp) ?_
                    refine AllReadyH.cons (o := { dst := some 95, op := Op.call { callee := Callee.value (Operand.func 14), args := #[Operand.tmp 89, Operand.tmp 90, Operand.tmp 94], argTypes := #[24, 29, 25] }, type := 39, pos := "outright.go:277", after := #[{ on := 1, ground := Ground.data }, { on := 2, ground := Ground.data }, { on := 6, ground := Ground.data }, { on := 6, ground := Ground.chain }], guard := none }) rfl (fun K hK => ?_) (AllReadyH.cons (o := { dst := some 17, op := Op.alloc 29, type := 0, pos := "outright.go:277", after := #[], guard := none }) rfl (fun K hK => ?_) AllReadyH.nil)
                    · go_simp
                      refine (RUND.out _ _ _ orow.rd re.rd).mono ?_
                      rintro e x3 ⟨ra, rn, rc, rfl, rrow, bX⟩
                      have orow := orow.later bX
                      have re := re.later bX
                      have rrow := rrow.mono hH.bb.size
                      refine hK.out _ _ (hH.later bX) (fun hH => ?_)
                      refine wpAnyH_take (i := 8) (oi := { dst := some 87, op := Op.move (Operand.tmp 95), type := 39, pos := "outright.go:277", after := #[{ on := 7, ground := Ground.data }], guard := none }) (v := .tuple #[csV cN, .slice ra rn rc]) rfl (by kernel_rfl) (by kernel_rfl) (by kernel_rfl) (fun _ _ _ h => h) (Or.inl ⟨by rfl, fun w' h => by go_simp⟩) hH ?_
                      try simp only [Act.put, List.setIfInBounds_toArray, List.set_cons_zero, List.set_cons_succ]
                      refine wpAnyH_take (i := 9) (oi := { dst := some 96, op := Op.extract (Operand.tmp 87) 0, type := 29, pos := "outright.go:277", after := #[{ on := 8, ground := Ground.data }], guard := none }) (v := csV cN) rfl (by kernel_rfl) (by kernel_rfl) (by kernel_rfl) (fun _ _ _ h => h) (Or.inl ⟨by rfl, fun w' h => by go_simp⟩) hH ?_
                      try simp only [Act.put, List.setIfInBounds_toArray, List.set_cons_zero, List.set_cons_succ]
                      refine wpAnyH_take (i := 10) (oi := { dst := some 97, op := Op.extract (Operand.tmp 87) 1, type := 22, pos := "outright.go:277", after := #[{ on := 8, ground := Ground.data }, { on := 12, ground := Ground.gcOnly Departure.lateStores }], guard := none }) (v := .slice ra rn rc) rfl (by kernel_rfl) (by kernel_rfl) (by kernel_rfl) (fun _ _ _ h => h) (Or.inl ⟨by rfl, fun w' h => by go_simp⟩) hH ?_
                      try simp only [Act.put, List.setIfInBounds_toArray, List.set_cons_zero, List.set_cons_succ]
                      refine wpAnyH_ready (rs := [11]) (by kernel_rfl) (by simp) ?_
                      refine AllReadyH.cons (o := { dst := some 17, op := Op.alloc 29, type := 0, pos := "outright.go:277", after := #[], guard := none }) rfl (fun K hK => ?_) AllReadyH.nil
                      go_simp
                      have hN : Blk x3.heap.size 29 (csL ⟨0, false, 0, 0, 0, 0, 0, 0, 0, 0, 0, 0, 0, 0, 0⟩) (x3.alloc (.cells #[.int .i64 0, .bool false, .int .i64 0, .int .i64 0, .int .i64 0, .int .i64 0, .int .i64 0, .int .i64 0, .int .i64 0, .int .i64 0, .int .i64 0, .int .i64 0, .int .i64 0, .int .i64 0, .int .i64 0] 29)) := Blk.new _ _ _
                      have hG := hH.lts
                      have hp : w.heap.size < x3.heap.size := hH.p.lt
                      have orow := orow.later (below_alloc x3 (.cells #[.int .i64 0, .bool false, .int .i64 0, .int .i64 0, .int .i64 0, .int .i64 0, .int .i64 0, .int .i64 0, .int .i64 0, .int .i64 0, .int .i64 0, .int .i64 0, .int .i64 0, .int .i64 0, .int .i64 0] 29))
                      have re := re.later (below_alloc x3 (.cells #[.int .i64 0, .bool false, .int .i64 0, .int .i64 0, .int .i64 0, .int .i64 0, .int .i64 0, .int .i64 0, .int .i64 0, .int .i64 0, .int .i64 0, .int .i64 0, .int .i64 0, .int .i64 0, .int .i64 0] 29))
                      have rrow := rrow.later (below_alloc x3 (.cells #[.int .i64 0, .bool false, .int .i64 0, .int .i64 0, .int .i64 0, .int .i64 0, .int .i64 0, .int .i64 0, .int .i64 0, .int .i64 0, .int .i64 0, .int .i64 0, .int .i64 0, .int .i64 0, .int .i64 0] 29))
                      refine hK.out _ _ (hH.later (below_alloc _ _)) (fun hH => ?_)
                      refine wpAnyH_ready (rs := [12]) (by kernel_rfl) (by simp) ?_
                      refine AllReadyH.cons (o := { dst := none, op := Op.store 29 (Operand.tmp 17) (Operand.tmp 96), type := 0, pos := "outright.go:277", after := #[{ on := 11, ground := Ground.data }, { on := 9, ground := Ground.data }, { on := 7, ground := Ground.chain }, { on := 0, ground := Ground.phase }, { on := 1, ground := Ground.phase }, { on := 2, ground := Ground.phase }, { on := 3, ground := Ground.phase }, { on := 4, ground := Ground.phase }, { on := 5, ground := Ground.phase }, { on := 6, ground := Ground.phase }, { on := 7, ground := Ground.phase }, { on := 8, ground := Ground.phase }, { on := 9, ground := Ground.phase }, { on := 10, ground := Ground.textOnly Departure.lateStores }, { on := 11, ground := Ground.phase }], guard := none }) rfl (fun K hK => ?_) AllReadyH.nil
                      refine op_putC (zs := csL ⟨0, false, 0, 0, 0, 0, 0, 0, 0, 0, 0, 0, 0, 0, 0⟩) (csL cN) rfl (sizeCsL _) (csL_one _) rfl _ _ rfl _ rfl rfl hN ?_
                      intro w9 b9 g9
                      have hZ := hH.grown hN g9 hG hp
                      have PX : Hid (ZZ w l s [(_, cN), (HB, ck), (RB, cN), (CB, cN)] [(.slice ra rn rc, aq), (.slice ha hn hc, ak), (.slice xa xn xc, aN), (va, aN)] w9) := (hZ.addB b9 hp).addR (rowV_blk rrow hN g9 (by decide))
                      refine hK.out _ _ hZ (fun hH => ?_)
                      simp only [Act.put]
                      refine wpAnyH_take (i := 13) (oi := { dst := some 18, op := Op.assign (Operand.tmp 97), type := 22, pos := "outright.go:277", after := #[{ on := 10, ground := Ground.data }, { on := 12, ground := Ground.chain }, { on := 0, ground := Ground.phase }, { on := 1, ground := Ground.phase }, { on := 2, ground := Ground.phase }, { on := 3, ground := Ground.phase }, { on := 4, ground := Ground.phase }, { on := 5, ground := Ground.phase }, { on := 6, ground := Ground.phase }, { on := 7, ground := Ground.phase }, { on := 8, ground := Ground.phase }, { on := 9, ground := Ground.phase }, { on := 10, ground := Ground.phase }, { on := 11, ground := Ground.phase }, { on := 12, ground := Ground.phase }], guard := none }) (v := .slice ra rn rc) rfl (by kernel_rfl) (by kernel_rfl) (by kernel_rfl) (fun _ _ _ h => h) (Or.inl ⟨by rfl, fun w' h => by go_simp⟩) hH ?_
                      try simp only [Act.put, List.setIfInBounds_toArray, List.set_cons_zero, List.set_cons_succ]
                      refine wpAnyH_done (by kernel_rfl) ?_ _
                      clear hH hK b9 g9 hN hZ
                      go_wp2_with fail
                      go_meet
                      case rel => exact ⟨_, _, _, _, rfl, rfl, PX⟩
                    · go_simp
                      have hN : Blk x2.heap.size 29 (csL ⟨0, false, 0, 0, 0, 0, 0, 0, 0, 0, 0, 0, 0, 0, 0⟩) (x2.alloc (.cells #[.int .i64 0, .bool false, .int .i64 0, .int .i64 0, .int .i64 0, .int .i64 0, .int .i64 0, .int .i64 0, .int .i64 0, .int .i64 0, .int .i64 0, .int .i64 0, .int .i64 0, .int .i64 0, .int .i64 0] 29)) := Blk.new _ _ _
                      have hG := hH.lts
                      have hp : w.heap.size < x2.heap.size := hH.p.lt
                      have orow := orow.later (below_alloc x2 (.cells #[.int .i64 0, .bool false, .int .i64 0, .int .i64 0, .int .i64 0, .int .i64 0, .int .i64 0, .int .i64 0, .int .i64 0, .int .i64 0, .int .i64 0, .int .i64 0, .int .i64 0, .int .i64 0, .int .i64 0] 29))
                      have re := re.later (below_alloc x2 (.cells #[.int .i64 0, .bool false, .int .i64 0, .int .i64 0, .int .i64 0, .int .i64 0, .int .i64 0, .int .i64 0, .int .i64 0, .int .i64 0, .int .i64 0, .int .i64 0, .int .i64 0, .int .i64 0, .int .i64 0] 29))
                      refine hK.out _ _ (hH.later (below_alloc _ _)) (fun hH => ?_)
                      refine wpAnyH_ready (rs := [7]) (by kernel_rfl) (by simp) ?_
                      refine AllReadyH.cons (o := { dst := some 95, op := Op.call { callee := Callee.value (Operand.func 14), args := #[Operand.tmp 89, Operand.tmp 90, Operand.tmp 94], argTypes := #[24, 29, 25] }, type := 39, pos := "outright.go:277", after := #[{ on := 1, ground := Ground.data }, { on := 2, ground := Ground.data }, { on := 6, ground := Ground.data }, { on := 6, ground := Ground.chain }], guard := none }) rfl (fun K hK => ?_) AllReadyH.nil
                      go_simp
                      refine (RUND.out _ _ _ orow.rd re.rd).mono ?_
                      rintro e x4 ⟨ra, rn, rc, rfl, rrow, bX⟩
                      have orow := orow.later bX
                      have re := re.later bX
                      have hN := hN.below bX
                      have rrow := rrow.mono hH.bb.size
                      refine hK.out _ _ (hH.later bX) (fun hH => ?_)
                      refine wpAnyH_take (i := 8) (oi := { dst := some 87, op := Op.move (Operand.tmp 95), type := 39, pos := "outright.go:277", after := #[{ on := 7, ground := Ground.data }], guard := none }) (v := .tuple #[csV cN, .slice ra rn rc]) rfl (by kernel_rfl) (by kernel_rfl) (by kernel_rfl) (fun _ _ _ h => h) (Or.inl ⟨by rfl, fun w' h => by go_simp⟩) hH ?_
                      try simp only [Act.put, List.setIfInBounds_toArray, List.set_cons_zero, List.set_cons_succ]
                      refine wpAnyH_take (i := 9) (oi := { dst := some 96, op := Op.extract (Operand.tmp 87) 0, type := 29, pos := "outright.go:277", after := #[{ on := 8, ground := Ground.data }], guard := none }) (v := csV cN) rfl (by kernel_rfl) (by kernel_rfl) (by kernel_rfl) (fun _ _ _ h => h) (Or.inl ⟨by rfl, fun w' h => by go_simp⟩) hH ?_
                      try simp only [Act.put, List.setIfInBounds_toArray, List.set_cons_zero, List.set_cons_succ]
                      refine wpAnyH_take (i := 10) (oi := { dst := some 97, op := Op.extract (Operand.tmp 87) 1, type := 22, pos := "outright.go:277", after := #[{ on := 8, ground := Ground.data }, { on := 12, ground := Ground.gcOnly Departure.lateStores }], guard := none }) (v := .slice ra rn rc) rfl (by kernel_rfl) (by kernel_rfl) (by kernel_rfl) (fun _ _ _ h => h) (Or.inl ⟨by rfl, fun w' h => by go_simp⟩) hH ?_
                      try simp only [Act.put, List.setIfInBounds_toArray, List.set_cons_zero, List.set_cons_succ]
                      refine wpAnyH_ready (rs := [12]) (by kernel_rfl) (by simp) ?_
                      refine AllReadyH.cons (o := { dst := none, op := Op.store 29 (Operand.tmp 17) (Operand.tmp 96), type := 0, pos := "outright.go:277", after := #[{ on := 11, ground := Ground.data }, { on := 9, ground := Ground.data }, { on := 7, ground := Ground.chain }, { on := 0, ground := Ground.phase }, { on := 1, ground := Ground.phase }, { on := 2, ground := Ground.phase }, { on := 3, ground := Ground.phase }, { on := 4, ground := Ground.phase }, { on := 5, ground := Ground.phase }, { on := 6, ground := Ground.phase }, { on := 7, ground := Ground.phase }, { on := 8, ground := Ground.phase }, { on := 9, ground := Ground.phase }, { on := 10, ground := Ground.textOnly Departure.lateStores }, { on := 11, ground := Ground.phase }], guard := none }) rfl (fun K hK => ?_) AllReadyH.nil
                      refine op_putC (zs := csL ⟨0, false, 0, 0, 0, 0, 0, 0, 0, 0, 0, 0, 0, 0, 0⟩) (csL cN) rfl (sizeCsL _) (csL_one _) rfl _ _ rfl _ rfl rfl hN ?_
                      intro w9 b9 g9
                      have hZ := hH.grown hN g9 hG hp
                      have PX : Hid (ZZ w l s [(_, cN), (HB, ck), (RB, cN), (CB, cN)] [(.slice ra rn rc, aq), (.slice ha hn hc, ak), (.slice xa xn xc, aN), (va, aN)] w9) := (hZ.addB b9 hp).addR (rowV_blk rrow hN g9 (by decide))
                      refine hK.out _ _ hZ (fun hH => ?_)
                      simp only [Act.put]
                      refine wpAnyH_take (i := 13) (oi := { dst := some 18, op := Op.assign (Operand.tmp 97), type := 22, pos := "outright.go:277", after := #[{ on := 10, ground := Ground.data }, { on := 12, ground := Ground.chain }, { on := 0, ground := Ground.phase }, { on := 1, ground := Ground.phase }, { on := 2, ground := Ground.phase }, { on := 3, ground := Ground.phase }, { on := 4, ground := Ground.phase }, { on := 5, ground := Ground.phase }, { on := 6, ground := Ground.phase }, { on := 7, ground := Ground.phase }, { on := 8, ground := Ground.phase }, { on := 9, ground := Ground.phase }, { on := 10, ground := Ground.phase }, { on := 11, ground := Ground.phase }, { on := 12, ground := Ground.phase }], guard := none }) (v := .slice ra rn rc) rfl (by kernel_rfl) (by kernel_rfl) (by kernel_rfl) (fun _ _ _ h => h) (Or.inl ⟨by rfl, fun w' h => by go_simp⟩) hH ?_
                      try simp only [Act.put, List.setIfInBounds_toArray, List.set_cons_zero, List.set_cons_succ]
                      refine wpAnyH_done (by kernel_rfl) ?_ _
                      clear hH hK b9 g9 hN hZ
                      go_wp2_with fail
                      go_meet
                      case rel => exact ⟨_, _, _, _, rfl, rfl, PX⟩
                  · go_simp
                    have hN : Blk x1.heap.size 29 (csL ⟨0, false, 0, 0, 0, 0, 0, 0, 0, 0, 0, 0, 0, 0, 0⟩) (x1.alloc (.cells #[.int .i64 0, .bool false, .int .i64 0, .int .i64 0, .int .i64 0, .int .i64 0, .int .i64 0, .int .i64 0, .int .i64 0, .int .i64 0, .int .i64 0, .int .i64 0, .int .i64 0, .int .i64 0, .int .i64 0] 29)) := Blk.new _ _ _
                    have hG := hH.lts
                    have hp : w.heap.size < x1.heap.size := hH.p.lt
                    have orow := orow.later (below_alloc x1 (.cells #[.int .i64 0, .bool false, .int .i64 0, .int .i64 0, .int .i64 0, .int .i64 0, .int .i64 0, .int .i64 0, .int .i64 0, .int .i64 0, .int .i64 0, .int .i64 0, .int .i64 0, .int .i64 0, .int .i64 0] 29))
                    refine hK.out _ _ (hH.later (below_alloc _ _)) (fun hH => ?_)
                    refine wpAnyH_ready (rs := [6]) (by kernel_rfl) (by simp) ?_
                    refine AllReadyH.cons (o := { dst := some 94, op := Op.call { callee := Callee.value (Operand.func 15), args := #[Operand.tmp 93], argTypes := #[25] }, type := 25, pos := "outright.go:277", after := #[{ on := 5, ground := Ground.data }, { on := 1, ground := Ground.chain }], guard := none }) rfl (fun K hK => ?_) AllReadyH.nil
                    go_simp
                    refine (FE.out _ _ _ LD.out (ED.out.later hH.bb)).mono ?_
                    rintro e x5 ⟨ve, rfl, re, bX⟩
                    have orow := orow.later bX
                    have hN := hN.below bX
                    refine hK.out _ _ (hH.later bX) (fun hH => ?_)
                    refine wpAnyH_ready (rs := [7]) (by kernel_rfl) (by simp) ?_
                    refine AllReadyH.cons (o := { dst := some 95, op := Op.call { callee := Callee.value (Operand.func 14), args := #[Operand.tmp 89, Operand.tmp 90, Operand.tmp 94], argTypes := #[24, 29, 25] }, type := 39, pos := "outright.go:277", after := #[{ on := 1, ground := Ground.data }, { on := 2, ground := Ground.data }, { on := 6, ground := Ground.data }, { on := 6, ground := Ground.chain }], guard := none }) rfl (fun K hK => ?_) AllReadyH.nil
                    go_simp
                    refine (RUND.out _ _ _ orow.rd re.rd).mono ?_
                    rintro e x6 ⟨ra, rn, rc, rfl, rrow, bX⟩
                    have orow := orow.later bX
                    have hN := hN.below bX
                    have re := re.later bX
                    have rrow := rrow.mono hH.bb.size
                    refine hK.out _ _ (hH.later bX) (fun hH => ?_)
                    refine wpAnyH_take (i := 8) (oi := { dst := some 87, op := Op.move (Operand.tmp 95), type := 39, pos := "outright.go:277", after := #[{ on := 7, ground := Ground.data }], guard := none }) (v := .tuple #[csV cN, .slice ra rn rc]) rfl (by kernel_rfl) (by kernel_rfl) (by kernel_rfl) (fun _ _ _ h => h) (Or.inl ⟨by rfl, fun w' h => by go_simp⟩) hH ?_
                    try simp only [Act.put, List.setIfInBounds_toArray, List.set_cons_zero, List.set_cons_succ]
                    refine wpAnyH_take (i := 9) (oi := { dst := some 96, op := Op.extract (Operand.tmp 87) 0, type := 29, pos := "outright.go:277", after := #[{ on := 8, ground := Ground.data }], guard := none }) (v := csV cN) rfl (by kernel_rfl) (by kernel_rfl) (by kernel_rfl) (fun _ _ _ h => h) (Or.inl ⟨by rfl, fun w' h => by go_simp⟩) hH ?_
                    try simp only [Act.put, List.setIfInBounds_toArray, List.set_cons_zero, List.set_cons_succ]
                    refine wpAnyH_take (i := 10) (oi := { dst := some 97, op := Op.extract (Operand.tmp 87) 1, type := 22, pos := "outright.go:277", after := #[{ on := 8, ground := Ground.data }, { on := 12, ground := Ground.gcOnly Departure.lateStores }], guard := none }) (v := .slice ra rn rc) rfl (by kernel_rfl) (by kernel_rfl) (by kernel_rfl) (fun _ _ _ h => h) (Or.inl ⟨by rfl, fun w' h => by go_simp⟩) hH ?_
                    try simp only [Act.put, List.setIfInBounds_toArray, List.set_cons_zero, List.set_cons_succ]
                    refine wpAnyH_ready (rs := [12]) (by kernel_rfl) (by simp) ?_
                    refine AllReadyH.cons (o := { dst := none, op := Op.store 29 (Operand.tmp 17) (Operand.tmp 96), type := 0, pos := "outright.go:277", after := #[{ on := 11, ground := Ground.data }, { on := 9, ground := Ground.data }, { on := 7, ground := Ground.chain }, { on := 0, ground := Ground.phase }, { on := 1, ground := Ground.phase }, { on := 2, ground := Ground.phase }, { on := 3, ground := Ground.phase }, { on := 4, ground := Ground.phase }, { on := 5, ground := Ground.phase }, { on := 6, ground := Ground.phase }, { on := 7, ground := Ground.phase }, { on := 8, ground := Ground.phase }, { on := 9, ground := Ground.phase }, { on := 10, ground := Ground.textOnly Departure.lateStores }, { on := 11, ground := Ground.phase }], guard := none }) rfl (fun K hK => ?_) AllReadyH.nil
                    refine op_putC (zs := csL ⟨0, false, 0, 0, 0, 0, 0, 0, 0, 0, 0, 0, 0, 0, 0⟩) (csL cN) rfl (sizeCsL _) (csL_one _) rfl _ _ rfl _ rfl rfl hN ?_
                    intro w9 b9 g9
                    have hZ := hH.grown hN g9 hG hp
                    have PX : Hid (ZZ w l s [(_, cN), (HB, ck), (RB, cN), (CB, cN)] [(.slice ra rn rc, aq), (.slice ha hn hc, ak), (.slice xa xn xc, aN), (va, aN)] w9) := (hZ.addB b9 hp).addR (rowV_blk rrow hN g9 (by decide))
                    refine hK.out _ _ hZ (fun hH => ?_)
                    simp only [Act.put]
                    refine wpAnyH_take (i := 13) (oi := { dst := some 18, op := Op.assign (Operand.tmp 97), type := 22, pos := "outright.go:277", after := #[{ on := 10, ground := Ground.data }, { on := 12, ground := Ground.chain }, { on := 0, ground := Ground.phase }, { on := 1, ground := Ground.phase }, { on := 2, ground := Ground.phase }, { on := 3, ground := Ground.phase }, { on := 4, ground := Ground.phase }, { on := 5, ground := Ground.phase }, { on := 6, ground := Ground.phase }, { on := 7, ground := Ground.phase }, { on := 8, ground := Ground.phase }, { on := 9, ground := Ground.phase }, { on := 10, ground := Ground.phase }, { on := 11, ground := Ground.phase }, { on := 12, ground := Ground.phase }], guard := none }) (v := .slice ra rn rc) rfl (by kernel_rfl) (by kernel_rfl) (by kernel_rfl) (fun _ _ _ h => h) (Or.inl ⟨by rfl, fun w' h => by go_simp⟩) hH ?_
                    try simp only [Act.put, List.setIfInBounds_toArray, List.set_cons_zero, List.set_cons_succ]
                    refine wpAnyH_done (by kernel_rfl) ?_ _
                    clear hH hK b9 g9 hN hZ
                    go_wp2_with fail
                    go_meet
                    case rel => exact ⟨_, _, _, _, rfl, rfl, PX⟩
                · go_simp
                  have hN : Blk wc.drew.heap.size 29 (csL ⟨0, false, 0, 0, 0, 0, 0, 0, 0, 0, 0, 0, 0, 0, 0⟩) (wc.drew.alloc (.cells #[.int .i64 0, .bool false, .int .i64 0, .int .i64 0, .int .i64 0, .int .i64 0, .int .i64 0, .int .i64 0, .int .i64 0, .int .i64 0, .int .i64 0, .int .i64 0, .int .i64 0, .int .i64 0, .int .i64 0] 29)) := Blk.new _ _ _
                  have hG := hH.lts
                  have hp : w.heap.size < wc.drew.heap.size := hH.p.lt
                  refine hK.out _ _ (hH.later (below_alloc _ _)) (fun hH => ?_)
                  refine wpAnyH_ready (rs := [1]) (by kernel_rfl) (by simp) ?_
                  refine AllReadyH.cons (o := { dst := some 89, op := Op.call { callee := Callee.value (Operand.func 12), args := #[Operand.tmp 88], argTypes := #[24] }, type := 24, pos := "outright.go:277", after := #[{ on := 0, ground := Ground.data }], guard := none }) rfl (fun K hK => ?_) AllReadyH.nil
                  go_simp
                  refine (OW.out _ hH.bb).mono ?_
                  rintro e x7 ⟨oa, on, oc, rfl, orow, bX⟩
                  have hN := hN.below bX
                  refine hK.out _ _ (hH.later bX) (fun hH => ?_)
                  refine wpAnyH_ready (rs := [6]) (by kernel_rfl) (by simp) ?_
                  refine AllReadyH.cons (o := { dst := some 94, op := Op.call { callee := Callee.value (Operand.func 15), args := #[Operand.tmp 93], argTypes := #[25] }, type := 25, pos := "outright.go:277", after := #[{ on := 5, ground := Ground.data }, { on := 1, ground := Ground.chain }], guard := none }) rfl (fun K hK => ?_) AllReadyH.nil
                  go_simp
                  refine (FE.out _ _ _ LD.out (ED.out.later hH.bb)).mono ?_
                  rintro e x8 ⟨ve, rfl, re, bX⟩
                  have hN := hN.below bX
                  have orow := orow.later bX
                  refine hK.out _ _ (hH.later bX) (fun hH => ?_)
                  refine wpAnyH_ready (rs := [7]) (by kernel_rfl) (by simp) ?_
                  refine AllReadyH.cons (o := { dst := some 95, op := Op.call { callee := Callee.value (Operand.func 14), args := #[Operand.tmp 89, Operand.tmp 90, Operand.tmp 94], argTypes := #[24, 29, 25] }, type := 39, pos := "outright.go:277", after := #[{ on := 1, ground := Ground.data }, { on := 2, ground := Ground.data }, { on := 6, ground := Ground.data }, { on := 6, ground := Ground.chain }], guard := none }) rfl (fun K hK => ?_) AllReadyH.nil
                  go_simp
                  refine (RUND.out _ _ _ orow.rd re.rd).mono ?_
                  rintro e x9 ⟨ra, rn, rc, rfl, rrow, bX⟩
                  have hN := hN.below bX
                  have orow := orow.later bX
                  have re := re.later bX
                  have rrow := rrow.mono hH.bb.size
                  refine hK.out _ _ (hH.later bX) (fun hH => ?_)
                  refine wpAnyH_take (i := 8) (oi := { dst := some 87, op := Op.move (Operand.tmp 95), type := 39, pos := "outright.go:277", after := #[{ on := 7, ground := Ground.data }], guard := none }) (v := .tuple #[csV cN, .slice ra rn rc]) rfl (by kernel_rfl) (by kernel_rfl) (by kernel_rfl) (fun _ _ _ h => h) (Or.inl ⟨by rfl, fun w' h => by go_simp⟩) hH ?_
                  try simp only [Act.put, List.setIfInBounds_toArray, List.set_cons_zero, List.set_cons_succ]
                  refine wpAnyH_take (i := 9) (oi := { dst := some 96, op := Op.extract (Operand.tmp 87) 0, type := 29, pos := "outright.go:277", after := #[{ on := 8, ground := Ground.data }], guard := none }) (v := csV cN) rfl (by kernel_rfl) (by kernel_rfl) (by kernel_rfl) (fun _ _ _ h => h) (Or.inl ⟨by rfl, fun w' h => by go_simp⟩) hH ?_
                  try simp only [Act.put, List.setIfInBounds_toArray, List.set_cons_zero, List.set_cons_succ]
                  refine wpAnyH_take (i := 10) (oi := { dst := some 97, op := Op.extract (Operand.tmp 87) 1, type := 22, pos := "outright.go:277", after := #[{ on := 8, ground := Ground.data }, { on := 12, ground := Ground.gcOnly Departure.lateStores }], guard := none }) (v := .slice ra rn rc) rfl (by kernel_rfl) (by kernel_rfl) (by kernel_rfl) (fun _ _ _ h => h) (Or.inl ⟨by rfl, fun w' h => by go_simp⟩) hH ?_
                  try simp only [Act.put, List.setIfInBounds_toArray, List.set_cons_zero, List.set_cons_succ]
                  refine wpAnyH_ready (rs := [12]) (by kernel_rfl) (by simp) ?_
                  refine AllReadyH.cons (o := { dst := none, op := Op.store 29 (Operand.tmp 17) (Operand.tmp 96), type := 0, pos := "outright.go:277", after := #[{ on := 11, ground := Ground.data }, { on := 9, ground := Ground.data }, { on := 7, ground := Ground.chain }, { on := 0, ground := Ground.phase }, { on := 1, ground := Ground.phase }, { on := 2, ground := Ground.phase }, { on := 3, ground := Ground.phase }, { on := 4, ground := Ground.phase }, { on := 5, ground := Ground.phase }, { on := 6, ground := Ground.phase }, { on := 7, ground := Ground.phase }, { on := 8, ground := Ground.phase }, { on := 9, ground := Ground.phase }, { on := 10, ground := Ground.textOnly Departure.lateStores }, { on := 11, ground := Ground.phase }], guard := none }) rfl (fun K hK => ?_) AllReadyH.nil
                  refine op_putC (zs := csL ⟨0, false, 0, 0, 0, 0, 0, 0, 0, 0, 0, 0, 0, 0, 0⟩) (csL cN) rfl (sizeCsL _) (csL_one _) rfl _ _ rfl _ rfl rfl hN ?_
                  intro w9 b9 g9
                  have hZ := hH.grown hN g9 hG hp
                  have PX : Hid (ZZ w l s [(_, cN), (HB, ck), (RB, cN), (CB, cN)] [(.slice ra rn rc, aq), (.slice ha hn hc, ak), (.slice xa xn xc, aN), (va, aN)] w9) := (hZ.addB b9 hp).addR (rowV_blk rrow hN g9 (by decide))
                  refine hK.out _ _ hZ (fun hH => ?_)
                  simp only [Act.put]
                  refine wpAnyH_take (i := 13) (oi := { dst := some 18, op := Op.assign (Operand.tmp 97), type := 22, pos := "outright.go:277", after := #[{ on := 10, ground := Ground.data }, { on := 12, ground := Ground.chain }, { on := 0, ground := Ground.phase }, { on := 1, ground := Ground.phase }, { on := 2, ground := Ground.phase }, { on := 3, ground := Ground.phase }, { on := 4, ground := Ground.phase }, { on := 5, ground := Ground.phase }, { on := 6, ground := Ground.phase }, { on := 7, ground := Ground.phase }, { on := 8, ground := Ground.phase }, { on := 9, ground := Ground.phase }, { on := 10, ground := Ground.phase }, { on := 11, ground := Ground.phase }, { on := 12, ground := Ground.phase }], guard := none }) (v := .slice ra rn rc) rfl (by kernel_rfl) (by kernel_rfl) (by kernel_rfl) (fun _ _ _ h => h) (Or.inl ⟨by rfl, fun w' h => by go_simp⟩) hH ?_
                  try simp only [Act.put, List.setIfInBounds_toArray, List.set_cons_zero, List.set_cons_succ]
                  refine wpAnyH_done (by kernel_rfl) ?_ _
                  clear hH hK b9 g9 hN hZ
                  go_wp2_with fail
                  go_meet
                  case rel => exact ⟨_, _, _, _, rfl, rfl, PX⟩
              case rest =>
                obtain ⟨QB, qa, qn, qc, rfl, rfl, SQ⟩ := hcut
                clear SH
                have L0 : ak.length + aq.length = aN.length := by rw [HCAT.out, List.length_append]
                have LA' := LA.out
                have B0 := SQ.out.bb.size
                have A1 : Hid (Rd wc (.slice ha hn hc) (bkL ak)) := (SQ.out.r (.slice ha hn hc, ak) (by simp)).rd
                have L1 : Hid (([] : List Value).length + (bkL ak).length ≤ maxLen) := by show _ ≤ _; rw [bkL_len]; unfold maxLen; simp only [List.length_nil]; omega
                have L2 : Hid ((([] : List Value).length + (bkL ak).length) * 8 ≤ 140737488355328) := by show _ ≤ _; rw [bkL_len]; simp only [List.length_nil]; omega
                go_upto_region 20 with (at_builtin; refine wpList_catS rfl (.tmp 98) (.tmp 99) 22 rfl 3 i0 (.int .i64 0) 8 Try.underlying22 hi0 hz0 hz1 hz2 rfl wc.heap.size _ _ [] (bkL ak) (bkL_one _) rfl (RowV.nil _ _ _) (Nat.le_refl _) rfl A1.out L1.out L2.out ?_; intro a1 n1 k1 y1 r1 g1)
                have Bq : Hid (Below wc.heap.size wc y1) := below_none ⟨g1.os, g1.tape, g1.output, g1.size, fun k hk _ => g1.block k hk (fun e => absurd e.symm (nilOwn k))⟩
                have R1 : Hid (RowV 3 wc.heap.size y1 (.slice a1 n1 k1) (bkL ak)) := r1
                have A2 : Hid (Rd y1 (.slice qa qn qc) (bkL aq)) := (SQ.out.r (.slice qa qn qc, aq) (by simp)).rd.later Bq.out
                clear L1 L2 g1 r1 A1
                have L1 : Hid ((bkL ak).length + (bkL aq).length ≤ maxLen) := by show _ ≤ _; rw [bkL_len, bkL_len]; unfold maxLen; omega
                have L2 : Hid (((bkL ak).length + (bkL aq).length) * 8 ≤ 140737488355328) := by show _ ≤ _; rw [bkL_len, bkL_len]; omega
                clear L0 LA' B0
                go_upto_region 21 with (at_builtin; refine wpList_catS rfl (.tmp 101) (.tmp 102) 22 rfl 3 i0 (.int .i64 0) 8 Try.underlying22 hi0 hz0 hz1 hz2 rfl wc.heap.size _ _ (bkL ak) (bkL aq) (bkL_one _) rfl R1.out Bq.out.size rfl A2.out L1.out L2.out ?_; intro a2 n2 k2 y2 r2 g2)
                have SE : Hid (ZZ w l s [(QB, cN), (HB, ck), (RB, cN), (CB, cN)] [(.slice qa qn qc, aq), (.slice ha hn hc, ak), (.slice xa xn xc, aN), (va, aN)] y2) := SQ.out.later (below_grown Bq.out R1.out (Nat.le_refl _) Bq.out.size g2)
                have R2 : Hid (Rd y2 (.slice a2 n2 k2) (bkL aN)) := by
                  show Rd _ _ _
                  rw [HCAT.out, show bkL (ak ++ aq) = bkL ak ++ bkL aq from by simp [bkL]]; exact r2.rd
                clear SQ Bq R1 A2 L1 L2 g2 r2
                have EQ := cs_eql cN
                go_wp2_with (first
                | ((with_reducible refine at_loadT 29 ?_); refine step_load rfl 29 _ rfl QB 0 rfl (csL cN) _ (Blk.all (SE.out.b (QB, cN) (by simp))) Try.underlying29 rfl (sizeCsL _) ?_)
                | ((with_reducible refine at_loadT 29 ?_); refine step_load rfl 29 _ rfl RB 0 rfl (csL cN) _ (Blk.all (SE.out.b (RB, cN) (by simp))) Try.underlying29 rfl (sizeCsL _) ?_))
                refine (SM.out aN _ _ _ (by have := LA.out; omega) R2.out (SE.out.r (.slice xa xn xc, aN) (by simp)).rd).mono ?_
                rintro e x9 ⟨rfl, b9⟩
                have SF : Hid (ZZ w l s [(QB, cN), (HB, ck), (RB, cN), (CB, cN)] [(.slice qa qn qc, aq), (.slice ha hn hc, ak), (.slice xa xn xc, aN), (va, aN)] x9) := SE.out.later b9
                clear b9 SE R2
                go_wp2_with fail
                go_ret
                exact ⟨rfl, SF.out.bb⟩
  · go_enter Try.func4, Try.ntmps4
    go_upto_region 1 with fail
    generalize w.alloc (.cells (polL l s).toArray 24) = w0 at *
    go_wp2_with ((with_reducible refine at_loadT 24 ?_); refine step_load rfl 24 _ rfl w.heap.size 0 rfl (polL l s) _ (Blk.all S0.out.p) Try.underlying24 rfl SZ.out ?_)
    refine (MY.out _ S0.out.bb).mono ?_
    rw [hg]
    rintro e w1 ⟨rfl, bX⟩
    have S1 : Hid (PS w l s w1) := S0.out.later bX
    clear bX
    go_wp2_with (first
    | ((with_reducible refine at_loadT 24 ?_); refine step_load rfl 24 _ rfl w.heap.size 0 rfl (polL l s) _ (Blk.all S1.out.p) Try.underlying24 rfl SZ.out ?_)
    | ((with_reducible refine at_loadG 24 ?_); refine step_loadG rfl 24 _ rfl w.heap.size 0 rfl (polL l s) _ (Blk.all S1.out.p) Try.underlying24 rfl SZ.out ?_))
    refine (OP.out hg _ S1.out.bb).mono ?_
    rintro e w2 ⟨rfl, bX⟩
    have S2 : Hid (PS w l s w2) := S1.out.later bX
    clear bX
    go_wp2_with fail
    refine (FR.out _).mono ?_
    rintro e w3 ⟨rfl, bX⟩
    have S3 : Hid (PS w l s w3) := S2.out.later bX
    clear bX S2 S0 S1 MY OP
    have NZ : Hid (Blk w3.heap.size 29 (csL ⟨0, false, 0, 0, 0, 0, 0, 0, 0, 0, 0, 0, 0, 0, 0⟩) (w3.alloc (.cells #[.int .i64 0, .bool false, .int .i64 0, .int .i64 0, .int .i64 0, .int .i64 0, .int .i64 0, .int .i64 0, .int .i64 0, .int .i64 0, .int .i64 0, .int .i64 0, .int .i64 0, .int .i64 0, .int .i64 0] 29))) := Blk.new _ _ _
    go_upto_region 4 with ((with_reducible refine at_store ?_); refine step_store rfl 29 _ _ rfl w3.heap.size 0 29 (csL ⟨0, false, 0, 0, 0, 0, 0, 0, 0, 0, 0, 0, 0, 0, 0⟩) (csL fresh) rfl rfl NZ.out (Nat.le_refl 15) (sizeCsL _) (csL_one _) ?_; intro w4 n4 g4)
    have S4 : Hid (ZZ w l s [(w3.heap.size, fresh)] [(.slice none 0 0, [])] w4) := by
      have x := S3.out.later (below_alloc w3 (.cells #[.int .i64 0, .bool false, .int .i64 0, .int .i64 0, .int .i64 0, .int .i64 0, .int .i64 0, .int .i64 0, .int .i64 0, .int .i64 0, .int .i64 0, .int .i64 0, .int .i64 0, .int .i64 0, .int .i64 0] 29))
      have y := x.grown g4 S3.out.p.lt
      exact ⟨y.p, y.bb, fun x hx => by obtain rfl := List.mem_singleton.1 hx; exact n4, fun x hx => by obtain rfl := List.mem_singleton.1 hx; exact RowV.nil _ _ _, fun x hx => by obtain rfl := List.mem_singleton.1 hx; exact S3.out.p.lt⟩
    clear n4 g4 NZ S3
    obtain ⟨CB, hCB⟩ : ∃ CB, w3.heap.size = CB := ⟨_, rfl⟩
    rw [hCB] at S4
    rw [hCB]
    clear hCB
    go_wp2_with fail
    go_loopw [8, 9, 10, 11, 12] (fun v8 v9 _ _ _ wr => ∃ (k : Nat), v9 = .int .i64 (k : Int) ∧ k ≤ N ∧ (∃ va vn vc, v8 = .slice va vn vc) ∧ Hid (ZZ w l s [(CB, (rk l hs fresh es k).1)] [(v8, (rk l hs fresh es k).2)] wr)) (fun _ v9 _ _ _ _ => N - (intOf v9).toNat)
    case atStart => exact ⟨0, rfl, by omega, ⟨_, _, _, rfl⟩, S4⟩
    case round =>
      obtain ⟨k, rfl, hk, ⟨va0, vn0, vc0, rfl⟩, SR⟩ := hrel
      by_cases hlt : (k : Int) < (N : Int)
      · obtain ⟨g, o, rfl, lt, rg⟩ := EC.out k (by omega)
        have EV : Hid (∀ w', Below w.heap.size w w' → w'.rangeAt g (o + k * 4) (evL (eN es k))) := fun w' h => range_laterC rg lt h
        have HN : Hid (rk l hs fresh es (k + 1) = ((stepA l hs (rk l hs fresh es k).1 (eN es k)).2.1, (rk l hs fresh es k).2 ++ (stepA l hs (rk l hs fresh es k).1 (eN es k)).2.2)) := rfl
        have ll := LL.out k hk
        clear rg lt EC RUN RN RT RD S4 LL ER
        generalize eN es k = ev at *
        obtain ⟨c, acc, hx⟩ : ∃ c acc, rk l hs fresh es k = (c, acc) := ⟨_, _, rfl⟩
        rw [hx] at SR HN ll
        clear hx
        dsimp only at SR HN ll
        have SK : Hid (∀ s' w', Rd w' s' (bkL hs) → Calls Try.prog 11 #[PV l s', csV c, evV ev] w' (StepAns (stepA l hs c ev) w')) := fun s' w' h => ST.out c ev s' w' h
        have sl := SL0.out c ev
        clear ST SL0
        generalize stepA l hs c ev = ans at *
        have L1 : Hid ((bkL acc).length + (bkL ans.2.2).length ≤ maxLen) := by show _ ≤ _; rw [bkL_len, bkL_len]; unfold maxLen; omega
        have L2 : Hid (((bkL acc).length + (bkL ans.2.2).length) * 8 ≤ 140737488355328) := by show _ ≤ _; rw [bkL_len, bkL_len]; omega
        clear ll sl
        generalize hva : Value.slice va0 vn0 vc0 = va at *
        have HV : Hid (Value.slice va0 vn0 vc0 = va) := hva
        clear hva
        go_upto_region 8 with fail
        go_cut [10, 11, 12] from 28 to 49 (fun v10 v11 _ wx => ∃ G ra rn rc, v10 = .pointer (some ⟨G, 0, none⟩) ∧ v11 = .slice ra rn rc ∧ Hid (ZZ w l s [(G, ans.2.1), (CB, c)] [(.slice ra rn rc, ans.2.2), (va, acc)] wx))
        case first =>
          have hu := Try.underlying24
          have hi := SZ.out
          have hu2 := Try.underlying29
          have hu3 := Try.underlying36
          refine wp_region_held_drew (S := fun w' => ZZ w l s [(CB, c)] [(va, acc)] w') (by kernel_rfl) (SR.out.drew) (fun hH => ?_)
          refine wpAnyH_take (i := 0) (oi := { dst := some 35, op := Op.load 24 (Operand.tmp 3), type := 24, pos := "outright.go:265", after := #[], guard := none }) (v := .agg (polL l s).toArray) rfl (by kernel_rfl) (by kernel_rfl) (by kernel_rfl) (fun _ _ _ h => h) (yieldsIf_load_mid (by rfl) _ _ rfl w.heap.size 0 rfl (polL l s) _ (fun w' h => h.p.all) hu rfl hi) hH ?_
          try simp only [Act.put, List.setIfInBounds_toArray, List.set_cons_zero, List.set_cons_succ]
          refine wpAnyH_take (i := 2) (oi := { dst := some 37, op := Op.load 29 (Operand.tmp 7), type := 29, pos := "outright.go:265", after := #[], guard := none }) (v := .agg (csL c).toArray) rfl (by kernel_rfl) (by kernel_rfl) (by kernel_rfl) (fun _ _ _ h => h) (yieldsIf_load_mid (by rfl) _ _ rfl CB 0 rfl (csL c) _ (fun w' h => (h.b (CB, c) (by simp)).all) hu2 rfl (sizeCsL c)) hH ?_
          try simp only [Act.put, List.setIfInBounds_toArray, List.set_cons_zero, List.set_cons_succ]
          refine wpAnyH_take (i := 3) (oi := { dst := some 38, op := Op.move (Operand.tmp 1), type := 25, pos := "outright.go:265", after := #[], guard := none }) (v := .slice (some ⟨g, o, none⟩) N cap) rfl (by kernel_rfl) (by kernel_rfl) (by kernel_rfl) (fun _ _ _ h => h) (Or.inl ⟨by rfl, fun w' h => by go_simp⟩) hH ?_
          try simp only [Act.put, List.setIfInBounds_toArray, List.set_cons_zero, List.set_cons_succ]
          refine wpAnyH_take (i := 4) (oi := { dst := some 39, op := Op.move (Operand.tmp 9), type := 3, pos := "outright.go:265", after := #[], guard := none }) (v := .int .i64 (k : Int)) rfl (by kernel_rfl) (by kernel_rfl) (by kernel_rfl) (fun _ _ _ h => h) (Or.inl ⟨by rfl, fun w' h => by go_simp⟩) hH ?_
          try simp only [Act.put, List.setIfInBounds_toArray, List.set_cons_zero, List.set_cons_succ]
          refine wpAnyH_take (i := 5) (oi := { dst := some 40, op := Op.indexAddr 25 (Operand.tmp 38) (Operand.tmp 39), type := 0, pos := "outright.go:265", after := #[{ on := 3, ground := Ground.data }, { on := 4, ground := Ground.data }], guard := none }) (v := .pointer (some ⟨g, o + k * 4, none⟩)) rfl (by kernel_rfl) (by kernel_rfl) (by kernel_rfl) (fun _ _ _ h => h) (Or.inl ⟨by rfl, fun w' h => by go_simp⟩) hH ?_
          try simp only [Act.put, List.setIfInBounds_toArray, List.set_cons_zero, List.set_cons_succ]
          refine wpAnyH_take (i := 6) (oi := { dst := some 41, op := Op.load 36 (Operand.tmp 40), type := 36, pos := "outright.go:265", after := #[{ on := 5, ground := Ground.data }], guard := none }) (v := .agg (evL ev).toArray) rfl (by kernel_rfl) (by kernel_rfl) (by kernel_rfl) (fun _ _ _ h => h) (yieldsIf_load_mid (by rfl) _ _ rfl g (o + k * 4) rfl (evL ev) _ (fun w' h => EV.out _ h.bb) hu3 rfl (sizeEvL ev)) hH ?_
          try simp only [Act.put, List.setIfInBounds_toArray, List.set_cons_zero, List.set_cons_succ]
          refine wpAnyH_ready (rs := [1, 12]) (by kernel_rfl) (by simp) ?_
          refine AllReadyH.cons (o := { dst := some 36, op := Op.call { callee := Callee.value (Operand.func 12), args := #[Operand.tmp 35], argTypes := #[24] }, type := 24, pos := "outright.go:265", after := #[{ on := 0, ground := Ground.data }], guard := none }) rfl (fun K hK => ?_) (AllReadyH.cons (o := { dst := some 10, op := Op.alloc 29, type := 0, pos := "outright.go:265", after := #[], guard := none }) rfl (fun K hK => ?_) AllReadyH.nil)
          · go_simp
            refine (OW.out _ hH.bb).mono ?_
            rintro e x1 ⟨oa, on, oc, rfl, orow, bX⟩
            refine hK.out _ _ (hH.later bX) (fun hH => ?_)
            refine wpAnyH_ready (rs := [7, 12]) (by kernel_rfl) (by simp) ?_
            refine AllReadyH.cons (o := { dst := some 42, op := Op.call { callee := Callee.value (Operand.func 11), args := #[Operand.tmp 36, Operand.tmp 37, Operand.tmp 41], argTypes := #[24, 29, 36] }, type := 32, pos := "outright.go:265", after := #[{ on := 1, ground := Ground.data }, { on := 2, ground := Ground.data }, { on := 6, ground := Ground.data }, { on := 1, ground := Ground.chain }], guard := none }) rfl (fun K hK => ?_) (AllReadyH.cons (o := { dst := some 10, op := Op.alloc 29, type := 0, pos := "outright.go:265", after := #[], guard := none }) rfl (fun K hK => ?_) AllReadyH.nil)
            · go_simp
              refine (SK.out _ _ orow.rd).mono ?_
              rintro e x2 ⟨ra, rn, rc, rfl, rrow, bX⟩
              have orow := orow.later bX
              have rrow := rrow.mono hH.bb.size
              refine hK.out _ _ (hH.later bX) (fun hH => ?_)
              refine wpAnyH_take (i := 8) (oi := { dst := some 34, op := Op.move (Operand.tmp 42), type := 32, pos := "outright.go:265", after := #[{ on := 7, ground := Ground.data }], guard := none }) (v := .tuple #[csV ans.2.1, .slice ra rn rc, .int .i64 ans.1]) rfl (by kernel_rfl) (by kernel_rfl) (by kernel_rfl) (fun _ _ _ h => h) (Or.inl ⟨by rfl, fun w' h => by go_simp⟩) hH ?_
              try simp only [Act.put, List.setIfInBounds_toArray, List.set_cons_zero, List.set_cons_succ]
              refine wpAnyH_take (i := 9) (oi := { dst := some 43, op := Op.extract (Operand.tmp 34) 0, type := 29, pos := "outright.go:265", after := #[{ on := 8, ground := Ground.data }], guard := none }) (v := csV ans.2.1) rfl (by kernel_rfl) (by kernel_rfl) (by kernel_rfl) (fun _ _ _ h => h) (Or.inl ⟨by rfl, fun w' h => by go_simp⟩) hH ?_
              try simp only [Act.put, List.setIfInBounds_toArray, List.set_cons_zero, List.set_cons_succ]
              refine wpAnyH_take (i := 10) (oi := { dst := some 44, op := Op.extract (Operand.tmp 34) 1, type := 22, pos := "outright.go:265", after := #[{ on := 8, ground := Ground.data }, { on := 13, ground := Ground.gcOnly Departure.lateStores }], guard := none }) (v := .slice ra rn rc) rfl (by kernel_rfl) (by kernel_rfl) (by kernel_rfl) (fun _ _ _ h => h) (Or.inl ⟨by rfl, fun w' h => by go_simp⟩) hH ?_
              try simp only [Act.put, List.setIfInBounds_toArray, List.set_cons_zero, List.set_cons_succ]
              refine wpAnyH_take (i := 11) (oi := { dst := some 45, op := Op.extract (Operand.tmp 34) 2, type := 31, pos := "outright.go:265", after := #[{ on := 8, ground := Ground.data }, { on := 14, ground := Ground.gcOnly Departure.lateStores }], guard := none }) (v := .int .i64 ans.1) rfl (by kernel_rfl) (by kernel_rfl) (by kernel_rfl) (fun _ _ _ h => h) (Or.inl ⟨by rfl, fun w' h => by go_simp⟩) hH ?_
              try simp only [Act.put, List.setIfInBounds_toArray, List.set_cons_zero, List.set_cons_succ]
              refine wpAnyH_ready (rs := [12]) (by kernel_rfl) (by simp) ?_
              refine AllReadyH.cons (o := { dst := some 10, op := Op.alloc 29, type := 0, pos := "outright.go:265", after := #[], guard := none }) rfl (fun K hK => ?_) AllReadyH.nil
              go_simp
              have hN : Blk x2.heap.size 29 (csL ⟨0, false, 0, 0, 0, 0, 0, 0, 0, 0, 0, 0, 0, 0, 0⟩) (x2.alloc (.cells #[.int .i64 0, .bool false, .int .i64 0, .int .i64 0, .int .i64 0, .int .i64 0, .int .i64 0, .int .i64 0, .int .i64 0, .int .i64 0, .int .i64 0, .int .i64 0, .int .i64 0, .int .i64 0, .int .i64 0] 29)) := Blk.new _ _ _
              have hG := hH.lts
              have hp : w.heap.size < x2.heap.size := hH.p.lt
              have orow := orow.later (below_alloc x2 (.cells #[.int .i64 0, .bool false, .int .i64 0, .int .i64 0, .int .i64 0, .int .i64 0, .int .i64 0, .int .i64 0, .int .i64 0, .int .i64 0, .int .i64 0, .int .i64 0, .int .i64 0, .int .i64 0, .int .i64 0] 29))
              have rrow := rrow.later (below_alloc x2 (.cells #[.int .i64 0, .bool false, .int .i64 0, .int .i64 0, .int .i64 0, .int .i64 0, .int .i64 0, .int .i64 0, .int .i64 0, .int .i64 0, .int .i64 0, .int .i64 0, .int .i64 0, .int .i64 0, .int .i64 0] 29))
              refine hK.out _ _ (hH.later (below_alloc _ _)) (fun hH => ?_)
              refine wpAnyH_ready (rs := [13]) (by kernel_rfl) (by simp) ?_
              refine AllReadyH.cons (o := { dst := none, op := Op.store 29 (Operand.tmp 10) (Operand.tmp 43), type := 0, pos := "outright.go:265", after := #[{ on := 12, ground := Ground.data }, { on := 9, ground := Ground.data }, { on := 7, ground := Ground.chain }, { on := 0, ground := Ground.phase }, { on := 1, ground := Ground.phase }, { on := 2, ground := Ground.phase }, { on := 3, ground := Ground.phase }, { on := 4, ground := Ground.phase }, { on := 5, ground := Ground.phase }, { on := 6, ground := Ground.phase }, { on := 7, ground := Ground.phase }, { on := 8, ground := Ground.phase }, { on := 9, ground := Ground.phase }, { on := 10, ground := Ground.textOnly Departure.lateStores }, { on := 11, ground := Ground.textOnly Departure.lateStores }, { on := 12, ground := Ground.phase }], guard := none }) rfl (fun K hK => ?_) AllReadyH.nil
              refine op_putC (zs := csL ⟨0, false, 0, 0, 0, 0, 0, 0, 0, 0, 0, 0, 0, 0, 0⟩) (csL ans.2.1) rfl (sizeCsL _) (csL_one _) rfl _ _ rfl _ rfl rfl hN ?_
              intro w9 b9 g9
              have hZ := hH.grown hN g9 hG hp
              have PX : Hid (ZZ w l s [(_, ans.2.1), (CB, c)] [(.slice ra rn rc, ans.2.2), (va, acc)] w9) := (hZ.addB b9 hp).addR (rowV_blk rrow hN g9 (by decide))
              refine hK.out _ _ hZ (fun hH => ?_)
              simp only [Act.put]
              refine wpAnyH_take (i := 14) (oi := { dst := some 11, op := Op.assign (Operand.tmp 44), type := 22, pos := "outright.go:265", after := #[{ on := 10, ground := Ground.data }, { on := 13, ground := Ground.chain }, { on := 0, ground := Ground.phase }, { on := 1, ground := Ground.phase }, { on := 2, ground := Ground.phase }, { on := 3, ground := Ground.phase }, { on := 4, ground := Ground.phase }, { on := 5, ground := Ground.phase }, { on := 6, ground := Ground.phase }, { on := 7, ground := Ground.phase }, { on := 8, ground := Ground.phase }, { on := 9, ground := Ground.phase }, { on := 10, ground := Ground.phase }, { on := 11, ground := Ground.textOnly Departure.lateStores }, { on := 12, ground := Ground.phase }, { on := 13, ground := Ground.phase }], guard := none }) (v := .slice ra rn rc) rfl (by kernel_rfl) (by kernel_rfl) (by kernel_rfl) (fun _ _ _ h => h) (Or.inl ⟨by rfl, fun w' h => by go_simp⟩) hH ?_
              try simp only [Act.put, List.setIfInBounds_toArray, List.set_cons_zero, List.set_cons_succ]
              refine wpAnyH_take (i := 15) (oi := { dst := some 12, op := Op.assign (Operand.tmp 45), type := 31, pos := "outright.go:265", after := #[{ on := 11, ground := Ground.data }, { on := 14, ground := Ground.chain }, { on := 0, ground := Ground.phase }, { on := 1, ground := Ground.phase }, { on := 2, ground := Ground.phase }, { on := 3, ground := Ground.phase }, { on := 4, ground := Ground.phase }, { on := 5, ground := Ground.phase }, { on := 6, ground := Ground.phase }, { on := 7, ground := Ground.phase }, { on := 8, ground := Ground.phase }, { on := 9, ground := Ground.phase }, { on := 10, ground := Ground.phase }, { on := 11, ground := Ground.phase }, { on := 12, ground := Ground.phase }, { on := 13, ground := Ground.phase }, { on := 14, ground := Ground.phase }], guard := none }) (v := .int .i64 ans.1) rfl (by kernel_rfl) (by kernel_rfl) (by kernel_rfl) (fun _ _ _ h => h) (Or.inl ⟨by rfl, fun w' h => by go_simp⟩) hH ?_
              try simp only [Act.put, List.setIfInBounds_toArray, List.set_cons_zero, List.set_cons_succ]
              refine wpAnyH_done (by kernel_rfl) ?_ _
              clear hH hK b9 g9 hN hZ
              go_wp2_with fail
              go_meet
              case rel => exact ⟨_, _, _, _, rfl, rfl, PX⟩
            · go_simp
              have hN : Blk x1.heap.size 29 (csL ⟨0, false, 0, 0, 0, 0, 0, 0, 0, 0, 0, 0, 0, 0, 0⟩) (x1.alloc (.cells #[.int .i64 0, .bool false, .int .i64 0, .int .i64 0, .int .i64 0, .int .i64 0, .int .i64 0, .int .i64 0, .int .i64 0, .int .i64 0, .int .i64 0, .int .i64 0, .int .i64 0, .int .i64 0, .int .i64 0] 29)) := Blk.new _ _ _
              have hG := hH.lts
              have hp : w.heap.size < x1.heap.size := hH.p.lt
              have orow := orow.later (below_alloc x1 (.cells #[.int .i64 0, .bool false, .int .i64 0, .int .i64 0, .int .i64 0, .int .i64 0, .int .i64 0, .int .i64 0, .int .i64 0, .int .i64 0, .int .i64 0, .int .i64 0, .int .i64 0, .int .i64 0, .int .i64 0] 29))
              refine hK.out _ _ (hH.later (below_alloc _ _)) (fun hH => ?_)
              refine wpAnyH_ready (rs := [7]) (by kernel_rfl) (by simp) ?_
              refine AllReadyH.cons (o := { dst := some 42, op := Op.call { callee := Callee.value (Operand.func 11), args := #[Operand.tmp 36, Operand.tmp 37, Operand.tmp 41], argTypes := #[24, 29, 36] }, type := 32, pos := "outright.go:265", after := #[{ on := 1, ground := Ground.data }, { on := 2, ground := Ground.data }, { on := 6, ground := Ground.data }, { on := 1, ground := Ground.chain }], guard := none }) rfl (fun K hK => ?_) AllReadyH.nil
              go_simp
              refine (SK.out _ _ orow.rd).mono ?_
              rintro e x3 ⟨ra, rn, rc, rfl, rrow, bX⟩
              have orow := orow.later bX
              have hN := hN.below bX
              have rrow := rrow.mono hH.bb.size
              refine hK.out _ _ (hH.later bX) (fun hH => ?_)
              refine wpAnyH_take (i := 8) (oi := { dst := some 34, op := Op.move (Operand.tmp 42), type := 32, pos := "outright.go:265", after := #[{ on := 7, ground := Ground.data }], guard := none }) (v := .tuple #[csV ans.2.1, .slice ra rn rc, .int .i64 ans.1]) rfl (by kernel_rfl) (by kernel_rfl) (by kernel_rfl) (fun _ _ _ h => h) (Or.inl ⟨by rfl, fun w' h => by go_simp⟩) hH ?_
              try simp only [Act.put, List.setIfInBounds_toArray, List.set_cons_zero, List.set_cons_succ]
              refine wpAnyH_take (i := 9) (oi := { dst := some 43, op := Op.extract (Operand.tmp 34) 0, type := 29, pos := "outright.go:265", after := #[{ on := 8, ground := Ground.data }], guard := none }) (v := csV ans.2.1) rfl (by kernel_rfl) (by kernel_rfl) (by kernel_rfl) (fun _ _ _ h => h) (Or.inl ⟨by rfl, fun w' h => by go_simp⟩) hH ?_
              try simp only [Act.put, List.setIfInBounds_toArray, List.set_cons_zero, List.set_cons_succ]
              refine wpAnyH_take (i := 10) (oi := { dst := some 44, op := Op.extract (Operand.tmp 34) 1, type := 22, pos := "outright.go:265", after := #[{ on := 8, ground := Ground.data }, { on := 13, ground := Ground.gcOnly Departure.lateStores }], guard := none }) (v := .slice ra rn rc) rfl (by kernel_rfl) (by kernel_rfl) (by kernel_rfl) (fun _ _ _ h => h) (Or.inl ⟨by rfl, fun w' h => by go_simp⟩) hH ?_
              try simp only [Act.put, List.setIfInBounds_toArray, List.set_cons_zero, List.set_cons_succ]
              refine wpAnyH_take (i := 11) (oi := { dst := some 45, op := Op.extract (Operand.tmp 34) 2, type := 31, pos := "outright.go:265", after := #[{ on := 8, ground := Ground.data }, { on := 14, ground := Ground.gcOnly Departure.lateStores }], guard := none }) (v := .int .i64 ans.1) rfl (by kernel_rfl) (by kernel_rfl) (by kernel_rfl) (fun _ _ _ h => h) (Or.inl ⟨by rfl, fun w' h => by go_simp⟩) hH ?_
              try simp only [Act.put, List.setIfInBounds_toArray, List.set_cons_zero, List.set_cons_succ]
              refine wpAnyH_ready (rs := [13]) (by kernel_rfl) (by simp) ?_
              refine AllReadyH.cons (o := { dst := none, op := Op.store 29 (Operand.tmp 10) (Operand.tmp 43), type := 0, pos := "outright.go:265", after := #[{ on := 12, ground := Ground.data }, { on := 9, ground := Ground.data }, { on := 7, ground := Ground.chain }, { on := 0, ground := Ground.phase }, { on := 1, ground := Ground.phase }, { on := 2, ground := Ground.phase }, { on := 3, ground := Ground.phase }, { on := 4, ground := Ground.phase }, { on := 5, ground := Ground.phase }, { on := 6, ground := Ground.phase }, { on := 7, ground := Ground.phase }, { on := 8, ground := Ground.phase }, { on := 9, ground := Ground.phase }, { on := 10, ground := Ground.textOnly Departure.lateStores }, { on := 11, ground := Ground.textOnly Departure.lateStores }, { on := 12, ground := Ground.phase }], guard := none }) rfl (fun K hK => ?_) AllReadyH.nil
              refine op_putC (zs := csL ⟨0, false, 0, 0, 0, 0, 0, 0, 0, 0, 0, 0, 0, 0, 0⟩) (csL ans.2.1) rfl (sizeCsL _) (csL_one _) rfl _ _ rfl _ rfl rfl hN ?_
              intro w9 b9 g9
              have hZ := hH.grown hN g9 hG hp
              have PX : Hid (ZZ w l s [(_, ans.2.1), (CB, c)] [(.slice ra rn rc, ans.2.2), (va, acc)] w9) := (hZ.addB b9 hp).addR (rowV_blk rrow hN g9 (by decide))
              refine hK.out _ _ hZ (fun hH => ?_)
              simp only [Act.put]
              refine wpAnyH_take (i := 14) (oi := { dst := some 11, op := Op.assign (Operand.tmp 44), type := 22, pos := "outright.go:265", after := #[{ on := 10, ground := Ground.data }, { on := 13, ground := Ground.chain }, { on := 0, ground := Ground.phase }, { on := 1, ground := Ground.phase }, { on := 2, ground := Ground.phase }, { on := 3, ground := Ground.phase }, { on := 4, ground := Ground.phase }, { on := 5, ground := Ground.phase }, { on := 6, ground := Ground.phase }, { on := 7, ground := Ground.phase }, { on := 8, ground := Ground.phase }, { on := 9, ground := Ground.phase }, { on := 10, ground := Ground.phase }, { on := 11, ground := Ground.textOnly Departure.lateStores }, { on := 12, ground := Ground.phase }, { on := 13, ground := Ground.phase }], guard := none }) (v := .slice ra rn rc) rfl (by kernel_rfl) (by kernel_rfl) (by kernel_rfl) (fun _ _ _ h => h) (Or.inl ⟨by rfl, fun w' h => by go_simp⟩) hH ?_
              try simp only [Act.put, List.setIfInBounds_toArray, List.set_cons_zero, List.set_cons_succ]
              refine wpAnyH_take (i := 15) (oi := { dst := some 12, op := Op.assign (Operand.tmp 45), type := 31, pos := "outright.go:265", after := #[{ on := 11, ground := Ground.data }, { on := 14, ground := Ground.chain }, { on := 0, ground := Ground.phase }, { on := 1, ground := Ground.phase }, { on := 2, ground := Ground.phase }, { on := 3, ground := Ground.phase }, { on := 4, ground := Ground.phase }, { on := 5, ground := Ground.phase }, { on := 6, ground := Ground.phase }, { on := 7, ground := Ground.phase }, { on := 8, ground := Ground.phase }, { on := 9, ground := Ground.phase }, { on := 10, ground := Ground.phase }, { on := 11, ground := Ground.phase }, { on := 12, ground := Ground.phase }, { on := 13, ground := Ground.phase }, { on := 14, ground := Ground.phase }], guard := none }) (v := .int .i64 ans.1) rfl (by kernel_rfl) (by kernel_rfl) (by kernel_rfl) (fun _ _ _ h => h) (Or.inl ⟨by rfl, fun w' h => by go_simp⟩) hH ?_
              try simp only [Act.put, List.setIfInBounds_toArray, List.set_cons_zero, List.set_cons_succ]
              refine wpAnyH_done (by kernel_rfl) ?_ _
              clear hH hK b9 g9 hN hZ
              go_wp2_with fail
              go_meet
              case rel => exact ⟨_, _, _, _, rfl, rfl, PX⟩
          · go_simp
            have hN : Blk wr.drew.heap.size 29 (csL ⟨0, false, 0, 0, 0, 0, 0, 0, 0, 0, 0, 0, 0, 0, 0⟩) (wr.drew.alloc (.cells #[.int .i64 0, .bool false, .int .i64 0, .int .i64 0, .int .i64 0, .int .i64 0, .int .i64 0, .int .i64 0, .int .i64 0, .int .i64 0, .int .i64 0, .int .i64 0, .int .i64 0, .int .i64 0, .int .i64 0] 29)) := Blk.new _ _ _
            have hG := hH.lts
            have hp : w.heap.size < wr.drew.heap.size := hH.p.lt
            refine hK.out _ _ (hH.later (below_alloc _ _)) (fun hH => ?_)
            refine wpAnyH_ready (rs := [1]) (by kernel_rfl) (by simp) ?_
            refine AllReadyH.cons (o := { dst := some 36, op := Op.call { callee := Callee.value (Operand.func 12), args := #[Operand.tmp 35], argTypes := #[24] }, type := 24, pos := "outright.go:265", after := #[{ on := 0, ground := Ground.data }], guard := none }) rfl (fun K hK => ?_) AllReadyH.nil
            go_simp
            refine (OW.out _ hH.bb).mono ?_
            rintro e x4 ⟨oa, on, oc, rfl, orow, bX⟩
            have hN := hN.below bX
            refine hK.out _ _ (hH.later bX) (fun hH => ?_)
            refine wpAnyH_ready (rs := [7]) (by kernel_rfl) (by simp) ?_
            refine AllReadyH.cons (o := { dst := some 42, op := Op.call { callee := Callee.value (Operand.func 11), args := #[Operand.tmp 36, Operand.tmp 37, Operand.tmp 41], argTypes := #[24, 29, 36] }, type := 32, pos := "outright.go:265", after := #[{ on := 1, ground := Ground.data }, { on := 2, ground := Ground.data }, { on := 6, ground := Ground.data }, { on := 1, ground := Ground.chain }], guard := none }) rfl (fun K hK => ?_) AllReadyH.nil
            go_simp
            refine (SK.out _ _ orow.rd).mono ?_
            rintro e x5 ⟨ra, rn, rc, rfl, rrow, bX⟩
            have hN := hN.below bX
            have orow := orow.later bX
            have rrow := rrow.mono hH.bb.size
            refine hK.out _ _ (hH.later bX) (fun hH => ?_)
            refine wpAnyH_take (i := 8) (oi := { dst := some 34, op := Op.move (Operand.tmp 42), type := 32, pos := "outright.go:265", after := #[{ on := 7, ground := Ground.data }], guard := none }) (v := .tuple #[csV ans.2.1, .slice ra rn rc, .int .i64 ans.1]) rfl (by kernel_rfl) (by kernel_rfl) (by kernel_rfl) (fun _ _ _ h => h) (Or.inl ⟨by rfl, fun w' h => by go_simp⟩) hH ?_
            try simp only [Act.put, List.setIfInBounds_toArray, List.set_cons_zero, List.set_cons_succ]
            refine wpAnyH_take (i := 9) (oi := { dst := some 43, op := Op.extract (Operand.tmp 34) 0, type := 29, pos := "outright.go:265", after := #[{ on := 8, ground := Ground.data }], guard := none }) (v := csV ans.2.1) rfl (by kernel_rfl) (by kernel_rfl) (by kernel_rfl) (fun _ _ _ h => h) (Or.inl ⟨by rfl, fun w' h => by go_simp⟩) hH ?_
            try simp only [Act.put, List.setIfInBounds_toArray, List.set_cons_zero, List.set_cons_succ]
            refine wpAnyH_take (i := 10) (oi := { dst := some 44, op := Op.extract (Operand.tmp 34) 1, type := 22, pos := "outright.go:265", after := #[{ on := 8, ground := Ground.data }, { on := 13, ground := Ground.gcOnly Departure.lateStores }], guard := none }) (v := .slice ra rn rc) rfl (by kernel_rfl) (by kernel_rfl) (by kernel_rfl) (fun _ _ _ h => h) (Or.inl ⟨by rfl, fun w' h => by go_simp⟩) hH ?_
            try simp only [Act.put, List.setIfInBounds_toArray, List.set_cons_zero, List.set_cons_succ]
            refine wpAnyH_take (i := 11) (oi := { dst := some 45, op := Op.extract (Operand.tmp 34) 2, type := 31, pos := "outright.go:265", after := #[{ on := 8, ground := Ground.data }, { on := 14, ground := Ground.gcOnly Departure.lateStores }], guard := none }) (v := .int .i64 ans.1) rfl (by kernel_rfl) (by kernel_rfl) (by kernel_rfl) (fun _ _ _ h => h) (Or.inl ⟨by rfl, fun w' h => by go_simp⟩) hH ?_
            try simp only [Act.put, List.setIfInBounds_toArray, List.set_cons_zero, List.set_cons_succ]
            refine wpAnyH_ready (rs := [13]) (by kernel_rfl) (by simp) ?_
            refine AllReadyH.cons (o := { dst := none, op := Op.store 29 (Operand.tmp 10) (Operand.tmp 43), type := 0, pos := "outright.go:265", after := #[{ on := 12, ground := Ground.data }, { on := 9, ground := Ground.data }, { on := 7, ground := Ground.chain }, { on := 0, ground := Ground.phase }, { on := 1, ground := Ground.phase }, { on := 2, ground := Ground.phase }, { on := 3, ground := Ground.phase }, { on := 4, ground := Ground.phase }, { on := 5, ground := Ground.phase }, { on := 6, ground := Ground.phase }, { on := 7, ground := Ground.phase }, { on := 8, ground := Ground.phase }, { on := 9, ground := Ground.phase }, { on := 10, ground := Ground.textOnly Departure.lateStores }, { on := 11, ground := Ground.textOnly Departure.lateStores }, { on := 12, ground := Ground.phase }], guard := none }) rfl (fun K hK => ?_) AllReadyH.nil
            refine op_putC (zs := csL ⟨0, false, 0, 0, 0, 0, 0, 0, 0, 0, 0, 0, 0, 0, 0⟩) (csL ans.2.1) rfl (sizeCsL _) (csL_one _) rfl _ _ rfl _ rfl rfl hN ?_
            intro w9 b9 g9
            have hZ := hH.grown hN g9 hG hp
            have PX : Hid (ZZ w l s [(_, ans.2.1), (CB, c)] [(.slice ra rn rc, ans.2.2), (va, acc)] w9) := (hZ.addB b9 hp).addR (rowV_blk rrow hN g9 (by decide))
            refine hK.out _ _ hZ (fun hH => ?_)
            simp only [Act.put]
            refine wpAnyH_take (i := 14) (oi := { dst := some 11, op := Op.assign (Operand.tmp 44), type := 22, pos := "outright.go:265", after := #[{ on := 10, ground := Ground.data }, { on := 13, ground := Ground.chain }, { on := 0, ground := Ground.phase }, { on := 1, ground := Ground.phase }, { on := 2, ground := Ground.phase }, { on := 3, ground := Ground.phase }, { on := 4, ground := Ground.phase }, { on := 5, ground := Ground.phase }, { on := 6, ground := Ground.phase }, { on := 7, ground := Ground.phase }, { on := 8, ground := Ground.phase }, { on := 9, ground := Ground.phase }, { on := 10, ground := Ground.phase }, { on := 11, ground := Ground.textOnly Departure.lateStores }, { on := 12, ground := Ground.phase }, { on := 13, ground := Ground.phase }], guard := none }) (v := .slice ra rn rc) rfl (by kernel_rfl) (by kernel_rfl) (by kernel_rfl) (fun _ _ _ h => h) (Or.inl ⟨by rfl, fun w' h => by go_simp⟩) hH ?_
            try simp only [Act.put, List.setIfInBounds_toArray, List.set_cons_zero, List.set_cons_succ]
            refine wpAnyH_take (i := 15) (oi := { dst := some 12, op := Op.assign (Operand.tmp 45), type := 31, pos := "outright.go:265", after := #[{ on := 11, ground := Ground.data }, { on := 14, ground := Ground.chain }, { on := 0, ground := Ground.phase }, { on := 1, ground := Ground.phase }, { on := 2, ground := Ground.phase }, { on := 3, ground := Ground.phase }, { on := 4, ground := Ground.phase }, { on := 5, ground := Ground.phase }, { on := 6, ground := Ground.phase }, { on := 7, ground := Ground.phase }, { on := 8, ground := Ground.phase }, { on := 9, ground := Ground.phase }, { on := 10, ground := Ground.phase }, { on := 11, ground := Ground.phase }, { on := 12, ground := Ground.phase }, { on := 13, ground := Ground.phase }, { on := 14, ground := Ground.phase }], guard := none }) (v := .int .i64 ans.1) rfl (by kernel_rfl) (by kernel_rfl) (by kernel_rfl) (fun _ _ _ h => h) (Or.inl ⟨by rfl, fun w' h => by go_simp⟩) hH ?_
            try simp only [Act.put, List.setIfInBounds_toArray, List.set_cons_zero, List.set_cons_succ]
            refine wpAnyH_done (by kernel_rfl) ?_ _
            clear hH hK b9 g9 hN hZ
            go_wp2_with fail
            go_meet
            case rel => exact ⟨_, _, _, _, rfl, rfl, PX⟩
        case rest =>
          obtain ⟨G, ra, rn, rc, rfl, rfl, SX⟩ := hcut
          clear SR
          go_upto_region 10 with (first
          | ((with_reducible refine at_loadT 29 ?_); refine step_load rfl 29 _ rfl G 0 rfl (csL ans.2.1) _ (Blk.all (SX.out.b (G, ans.2.1) (by simp))) Try.underlying29 rfl (sizeCsL _) ?_)
          | ((with_reducible refine at_store ?_); refine step_store rfl 29 _ _ rfl CB 0 29 _ (csL ans.2.1) rfl rfl (SX.out.b (CB, c) (by simp)) (Nat.le_refl 15) (sizeCsL _) (csL_one _) ?_; intro w8 n8 g8))
          have S8 : Hid (ZZ w l s [(CB, ans.2.1)] [(.slice ra rn rc, ans.2.2), (va, acc)] w8) := (SX.out.sub (bs' := [(CB, c)]) (rs' := [(.slice ra rn rc, ans.2.2), (va, acc)]) (by simp) (by simp)).put n8 g8 (by simp)
          clear n8 g8 SX
          have AR : Hid (RowV 3 w.heap.size w8 va (bkL acc)) := S8.out.r (va, acc) (by simp)
          have RR : Hid (Rd w8 (.slice ra rn rc) (bkL ans.2.2)) := (S8.out.r (.slice ra rn rc, ans.2.2) (by simp)).rd
          go_wp2_with (at_builtin; refine wpList_catS rfl (.tmp 47) (.tmp 48) 22 rfl 3 i0 (.int .i64 0) 8 Try.underlying22 hi0 hz0 hz1 hz2 rfl w.heap.size _ _ (bkL acc) (bkL ans.2.2) (bkL_one _) rfl AR.out S8.out.bb.size rfl RR.out L1.out L2.out ?_; intro a1 n1 k1 y1 r1 g1)
          have S9 : Hid (ZZ w l s [(CB, (rk l hs fresh es (k + 1)).1)] [(.slice a1 n1 k1, (rk l hs fresh es (k + 1)).2)] y1) := by
            rw [HN.out]
            exact S8.out.row (v := va) (a := acc) (by simp) g1 (by show RowV _ _ _ _ (bkL (acc ++ ans.2.2)); rw [show bkL (acc ++ ans.2.2) = bkL acc ++ bkL ans.2.2 from by simp [bkL]]; exact r1)
          clear S8 AR RR HN g1 r1
          go_roundw
          case rel => exact ⟨k + 1, by go_num, by omega, ⟨_, _, _, rfl⟩, S9⟩
          case measure => simp [intOf]; omega
      · obtain rfl : k = N := by omega
        have ll := LL.out k hk
        have RDK : Hid (∀ m, m ≤ k → rk l hs fresh es k = ((rk l hs (rk l hs fresh es m).1 (es.drop m) (k - m)).1, (rk l hs fresh es m).2 ++ (rk l hs (rk l hs fresh es m).1 (es.drop m) (k - m)).2)) := RN.out
        clear RN LL SL0 S4 EC ST hlt hk
        obtain ⟨cN, aN, hx⟩ : ∃ cN aN, rk l hs fresh es k = (cN, aN) := ⟨_, _, rfl⟩
        rw [hx] at SR ll RDK RUN
        have HX : Hid (rk l hs fresh es k = (cN, aN)) := hx
        clear hx
        dsimp only at SR ll
        have LA : Hid (aN.length ≤ 17592186044416) := by show _ ≤ _; omega
        clear ll
        obtain ⟨N, hN0⟩ : ∃ N, k = N := ⟨_, rfl⟩
        subst hN0
        generalize hva : Value.slice va0 vn0 vc0 = va at *
        have HV : Hid (Value.slice va0 vn0 vc0 = va) := hva
        clear hva
        go_wp2_with ((with_reducible refine at_loadT 24 ?_); refine step_load rfl 24 _ rfl w.heap.size 0 rfl (polL l s) _ (Blk.all SR.out.p) Try.underlying24 rfl SZ.out ?_)
        refine (OW.out _ SR.out.bb).mono ?_
        rintro e x1 ⟨oa, on, oc, rfl, orow, b1⟩
        have T1 : Hid (ZZ w l s [(CB, cN)] [(va, aN)] x1) := SR.out.later b1
        have O1 : Hid (Rd x1 (.slice oa on oc) (bkL hs)) := orow.rd
        clear b1 orow SR
        go_wp2_with fail
        refine (FR.out _).mono ?_
        rintro e x2 ⟨rfl, b2⟩
        have T2 : Hid (ZZ w l s [(CB, cN)] [(va, aN)] x2) := T1.out.later b2
        have O2 : Hid (Rd x2 (.slice oa on oc) (bkL hs)) := O1.out.later b2
        clear b2 O1 T1
        go_wp2_with fail
        refine (FE.out _ _ _ (LE.out es rfl) (ER.out.later T2.out.bb)).mono ?_
        rintro e x3 ⟨ve, rfl, re, b3⟩
        have T3 : Hid (ZZ w l s [(CB, cN)] [(va, aN)] x3) := T2.out.later b3
        have O3 : Hid (Rd x3 (.slice oa on oc) (bkL hs)) := O2.out.later b3
        have E3 : Hid (RdV x3 ve es) := re.rd
        clear b3 O2 T2 re
        go_wp2_with fail
        refine (RUN.out _ _ _ O3.out E3.out).mono ?_
        rintro e x4 ⟨xa, xn, xc, rfl, xrow, b4⟩
        have T4 : Hid (ZZ w l s [(CB, cN)] [(.slice xa xn xc, aN), (va, aN)] x4) := (T3.out.later b4).addR (xrow.mono T3.out.bb.size)
        clear b4 O3 T3 xrow E3
        have NZ : Hid (Blk x4.heap.size 29 (csL ⟨0, false, 0, 0, 0, 0, 0, 0, 0, 0, 0, 0, 0, 0, 0⟩) (x4.alloc (.cells #[.int .i64 0, .bool false, .int .i64 0, .int .i64 0, .int .i64 0, .int .i64 0, .int .i64 0, .int .i64 0, .int .i64 0, .int .i64 0, .int .i64 0, .int .i64 0, .int .i64 0, .int .i64 0, .int .i64 0] 29))) := Blk.new _ _ _
        go_upto_region 12 with ((with_reducible refine at_store ?_); refine step_store rfl 29 _ _ rfl x4.heap.size 0 29 (csL ⟨0, false, 0, 0, 0, 0, 0, 0, 0, 0, 0, 0, 0, 0, 0⟩) (csL cN) rfl rfl NZ.out (Nat.le_refl 15) (sizeCsL _) (csL_one _) ?_; intro x5 n5 g5)
        have T5 : Hid (ZZ w l s [(x4.heap.size, cN), (CB, cN)] [(.slice xa xn xc, aN), (va, aN)] x5) := ((T4.out.later (below_alloc _ _)).grown NZ.out g5 T4.out.lts T4.out.p.lt).addB n5 T4.out.p.lt
        clear n5 g5 NZ
        obtain ⟨RB, hRB⟩ : ∃ RB, x4.heap.size = RB := ⟨_, rfl⟩
        rw [hRB] at T5
        rw [hRB]
        clear hRB T4
        have NQ := cs_neq cN
        go_wp2_with (first
        | ((with_reducible refine at_loadT 29 ?_); refine step_load rfl 29 _ rfl CB 0 rfl (csL cN) _ (Blk.all (T5.out.b (CB, cN) (by simp))) Try.underlying29 rfl (sizeCsL _) ?_)
        | ((with_reducible refine at_loadT 29 ?_); refine step_load rfl 29 _ rfl RB 0 rfl (csL cN) _ (Blk.all (T5.out.b (RB, cN) (by simp))) Try.underlying29 rfl (sizeCsL _) ?_))
        refine (SM.out aN _ _ _ (by have := LA.out; omega) (T5.out.r (va, aN) (by simp)).rd (T5.out.r (.slice xa xn xc, aN) (by simp)).rd).mono ?_
        rintro e x6 ⟨rfl, b6⟩
        have SZ2 : Hid (ZZ w l s [(RB, cN), (CB, cN)] [(.slice xa xn xc, aN), (va, aN)] x6) := T5.out.later b6
        clear b6 T5 NQ
        by_cases h1 : at_ < 0
        · have d1 : decide (at_ < 0) = true := decide_eq_true h1
          go_wp2_with fail
          go_ret
          exact ⟨rfl, SZ2.out.bb⟩
        · have d1 : decide (at_ < 0) = false := decide_eq_false h1
          by_cases h2 : (k : Int) < at_
          · have d2 : decide ((k : Int) < at_) = true := decide_eq_true h2
            go_wp2_with fail
            go_ret
            exact ⟨rfl, SZ2.out.bb⟩
          · obtain ⟨m, rfl⟩ := Int.eq_ofNat_of_zero_le (a := at_) (by omega)
            have hm : m ≤ k := by omega
            have d2 : decide ((k : Int) < (m : Int)) = false := decide_eq_false h2
            have CATK := RDK.out m hm
            have RUNT := RT.out m hm
            have RUND := RD.out m hm
            have ET : Hid (RdV w (.slice ao m cap) (es.take m)) := ER.out.take hm
            have LT : Hid ((es.take m).length ≤ 4398046511104) := LTm.out m
            have LD : Hid ((es.drop m).length ≤ 4398046511104) := LDm.out m
            obtain ⟨dv, hdv⟩ : ∃ dv, sliced ao m k cap 4 = dv := ⟨_, rfl⟩
            have ED : Hid (RdV w dv (es.drop m)) := by rw [← hdv]; exact ER.out.dropS hm
            have DV : Hid (sliced ao m k cap 4 = dv) := hdv
            clear hdv
            have capm : m ≤ cap := by have := HC.out; omega
            clear RT RD h1 h2
            obtain ⟨ck, ak, hy⟩ : ∃ ck ak, rk l hs fresh es m = (ck, ak) := ⟨_, _, rfl⟩
            rw [hy] at CATK RUNT RUND
            clear hy
            dsimp only at CATK RUNT RUND
            obtain ⟨cq, aq, hz⟩ : ∃ cq aq, rk l hs ck (es.drop m) (k - m) = (cq, aq) := ⟨_, _, rfl⟩
            rw [hz] at CATK RUND
            clear hz
            dsimp only at CATK RUND
            obtain ⟨rfl, hcat⟩ := Prod.mk.inj CATK
            have HCAT : Hid (aN = ak ++ aq) := hcat
            clear hcat CATK
            have RUNT : Hid _ := RUNT
            have RUND : Hid _ := RUND
            go_upto_region 16 with fail
            go_cut [15, 16] from 20 to 112 (fun v15 v16 wx => ∃ G ra rn rc, v15 = .pointer (some ⟨G, 0, none⟩) ∧ v16 = .slice ra rn rc ∧ Hid (ZZ w l s [(G, ck), (RB, cN), (CB, cN)] [(.slice ra rn rc, ak), (.slice xa xn xc, aN), (va, aN)] wx))
            case first =>
              have hu := Try.underlying24
              have hi := SZ.out
              have hu2 := Try.underlying29
              have hu3 := Try.underlying36
              refine wp_region_held_drew (S := fun w' => ZZ w l s [(RB, cN), (CB, cN)] [(.slice xa xn xc, aN), (va, aN)] w') (by kernel_rfl) (SZ2.out.drew) (fun hH => ?_)
              refine wpAnyH_take (i := 0) (oi := { dst := some 77, op := Op.load 24 (Operand.tmp 3), type := 24, pos := "outright.go:276", after := #[], guard := none }) (v := .agg (polL l s).toArray) rfl (by kernel_rfl) (by kernel_rfl) (by kernel_rfl) (fun _ _ _ h => h) (yieldsIf_load_mid (by rfl) _ _ rfl w.heap.size 0 rfl (polL l s) _ (fun w' h => h.p.all) hu rfl hi) hH ?_
              try simp only [Act.put, List.setIfInBounds_toArray, List.set_cons_zero, List.set_cons_succ]
              refine wpAnyH_take (i := 3) (oi := { dst := some 80, op := Op.move (Operand.tmp 1), type := 25, pos := "outright.go:276", after := #[], guard := none }) (v := .slice ao k cap) rfl (by kernel_rfl) (by kernel_rfl) (by kernel_rfl) (fun _ _ _ h => h) (Or.inl ⟨by rfl, fun w' h => by go_simp⟩) hH ?_
              try simp only [Act.put, List.setIfInBounds_toArray, List.set_cons_zero, List.set_cons_succ]
              refine wpAnyH_take (i := 4) (oi := { dst := some 81, op := Op.move (Operand.tmp 2), type := 3, pos := "outright.go:276", after := #[], guard := none }) (v := .int .i64 (m : Int)) rfl (by kernel_rfl) (by kernel_rfl) (by kernel_rfl) (fun _ _ _ h => h) (Or.inl ⟨by rfl, fun w' h => by go_simp⟩) hH ?_
              try simp only [Act.put, List.setIfInBounds_toArray, List.set_cons_zero, List.set_cons_succ]
              refine wpAnyH_take (i := 5) (oi := { dst := some 82, op := Op.slice 25 (Operand.tmp 80) none (some (Operand.tmp 81)) none, type := 25, pos := "outright.go:276", after := #[{ on := 3, ground := Ground.data }, { on := 4, ground := Ground.data }], guard := none }) (v := .slice ao m cap) rfl (by kernel_rfl) (by kernel_rfl) (by kernel_rfl) (fun _ _ _ h => h) (Or.inl ⟨by rfl, fun w' h => by go_simp⟩) hH ?_
              try simp only [Act.put, List.setIfInBounds_toArray, List.set_cons_zero, List.set_cons_succ]
              refine wpAnyH_ready (rs := [1, 11]) (by kernel_rfl) (by simp) ?_
              refine AllReadyH.cons (o := { dst := some 78, op := Op.call { callee := Callee.value (Operand.func 12), args := #[Operand.tmp 77], argTypes := #[24] }, type := 24, pos := "outright.go:276", after := #[{ on := 0, ground := Ground.data }], guard := none }) rfl (fun K hK => ?_) (AllReadyH.cons (o := { dst := some 15, op := Op.alloc 29, type := 0, pos := "outright.go:276", after := #[], guard := none }) rfl (fun K hK => ?_) AllReadyH.nil)
              · go_simp
                refine (OW.out _ hH.bb).mono ?_
                rintro e x1 ⟨oa, on, oc, rfl, orow, bX⟩
                refine hK.out _ _ (hH.later bX) (fun hH => ?_)
                refine wpAnyH_ready (rs := [2, 11]) (by kernel_rfl) (by simp) ?_
                refine AllReadyH.cons (o := { dst := some 79, op := Op.call { callee := Callee.value (Operand.func 10), args := #[], argTypes := #[] }, type := 29, pos := "outright.go:276", after := #[{ on := 1, ground := Ground.chain }], guard := none }) rfl (fun K hK => ?_) (AllReadyH.cons (o := { dst := some 15, op := Op.alloc 29, type := 0, pos := "outright.go:276", after := #[], guard := none }) rfl (fun K hK => ?_) AllReadyH.nil)
                · go_simp
                  refine (FR.out _).mono ?_
                  rintro e x2 ⟨rfl, bX⟩
                  have orow := orow.later bX
                  refine hK.out _ _ (hH.later bX) (fun hH => ?_)
                  refine wpAnyH_ready (rs := [6, 11]) (by kernel_rfl) (by simp) ?_
                  refine AllReadyH.cons (o := { dst := some 83, op := Op.call { callee := Callee.value (Operand.func 15), args := #[Operand.tmp 82], argTypes := #[25] }, type := 25, pos := "outright.go:276", after := #[{ on := 5, ground := Ground.data }, { on := 2, ground := Ground.chain }], guard := none }) rfl (fun K hK => ?_) (AllReadyH.cons (o := { dst := some 15, op := Op.alloc 29, type := 0, pos := "outright.go:276", after := #[], guard := none }) rfl (fun K hK => ?_) AllReadyH.nil)
                  · go_simp
                    refine (FE.out _ _ _ LT.out (ET.out.later hH.bb)).mono ?_
                    rintro e x3 ⟨ve, rfl, re, bX⟩
                    have orow := orow.later bX
                    refine hK.out _ _ (hH.later bX) (fun hH => ?_)
                    refine wpAnyH_ready (rs := [7, 11]) (by kernel_rfl) (by simp) ?_
                    refine AllReadyH.cons (o := { dst := some 84, op := Op.call { callee := Callee.value (Operand.func 14), args := #[Operand.tmp 78, Operand.tmp 79, Operand.tmp 83], argTypes := #[24, 29, 25] }, type := 39, pos := "outright.go:276", after := #[{ on := 1, ground := Ground.data }, { on := 2, ground := Ground.data }, { on := 6, ground := Ground.data }, { on := 6, ground := Ground.chain }], guard := none }) rfl (fun K hK => ?_) (AllReadyH.cons (o := { dst := some 15, op := Op.alloc 29, type := 0, pos := "outright.go:276", after := #[], guard := none }) rfl (fun K hK => ?_) AllReadyH.nil)
                    · go_simp
                      refine (RUNT.out _ _ _ orow.rd re.rd).mono ?_
                      rintro e x4 ⟨ra, rn, rc, rfl, rrow, bX⟩
                      have orow := orow.later bX
                      have re := re.later bX
                      have rrow := rrow.mono hH.bb.size
                      refine hK.out _ _ (hH.later bX) (fun hH => ?_)
                      refine wpAnyH_take (i := 8) (oi := { dst := some 76, op := Op.move (Operand.tmp 84), type := 39, pos := "outright.go:276", after := #[{ on := 7, ground := Ground.data }], guard := none }) (v := .tuple #[csV ck, .slice ra rn rc]) rfl (by kernel_rfl) (by kernel_rfl) (by kernel_rfl) (fun _ _ _ h => h) (Or.inl ⟨by rfl, fun w' h => by go_simp⟩) hH ?_
                      try simp only [Act.put, List.setIfInBounds_toArray, List.set_cons_zero, List.set_cons_succ]
                      refine wpAnyH_take (i := 9) (oi := { dst := some 85, op := Op.extract (Operand.tmp 76) 0, type := 29, pos := "outright.go:276", after := #[{ on := 8, ground := Ground.data }], guard := none }) (v := csV ck) rfl (by kernel_rfl) (by kernel_rfl) (by kernel_rfl) (fun _ _ _ h => h) (Or.inl ⟨by rfl, fun w' h => by go_simp⟩) hH ?_
                      try simp only [Act.put, List.setIfInBounds_toArray, List.set_cons_zero, List.set_cons_succ]
                      refine wpAnyH_take (i := 10) (oi := { dst := some 86, op := Op.extract (Operand.tmp 76) 1, type := 22, pos := "outright.go:276", after := #[{ on := 8, ground := Ground.data }, { on := 12, ground := Ground.gcOnly Departure.lateStores }], guard := none }) (v := .slice ra rn rc) rfl (by kernel_rfl) (by kernel_rfl) (by kernel_rfl) (fun _ _ _ h => h) (Or.inl ⟨by rfl, fun w' h => by go_simp⟩) hH ?_
                      try simp only [Act.put, List.setIfInBounds_toArray, List.set_cons_zero, List.set_cons_succ]
                      refine wpAnyH_ready (rs := [11]) (by kernel_rfl) (by simp) ?_
                      refine AllReadyH.cons (o := { dst := some 15, op := Op.alloc 29, type := 0, pos := "outright.go:276", after := #[], guard := none }) rfl (fun K hK => ?_) AllReadyH.nil
                      go_simp
                      have hN : Blk x4.heap.size 29 (csL ⟨0, false, 0, 0, 0, 0, 0, 0, 0, 0, 0, 0, 0, 0, 0⟩) (x4.alloc (.cells #[.int .i64 0, .bool false, .int .i64 0, .int .i64 0, .int .i64 0, .int .i64 0, .int .i64 0, .int .i64 0, .int .i64 0, .int .i64 0, .int .i64 0, .int .i64 0, .int .i64 0, .int .i64 0, .int .i64 0] 29)) := Blk.new _ _ _
                      have hG := hH.lts
                      have hp : w.heap.size < x4.heap.size := hH.p.lt
                      have orow := orow.later (below_alloc x4 (.cells #[.int .i64 0, .bool false, .int .i64 0, .int .i64 0, .int .i64 0, .int .i64 0, .int .i64 0, .int .i64 0, .int .i64 0, .int .i64 0, .int .i64 0, .int .i64 0, .int .i64 0, .int .i64 0, .int .i64 0] 29))
                      have re := re.later (below_alloc x4 (.cells #[.int .i64 0, .bool false, .int .i64 0, .int .i64 0, .int .i64 0, .int .i64 0, .int .i64 0, .int .i64 0, .int .i64 0, .int .i64 0, .int .i64 0, .int .i64 0, .int .i64 0, .int .i64 0, .int .i64 0] 29))
                      have rrow := rrow.later (below_alloc x4 (.cells #[.int .i64 0, .bool false, .int .i64 0, .int .i64 0, .int .i64 0, .int .i64 0, .int .i64 0, .int .i64 0, .int .i64 0, .int .i64 0, .int .i64 0, .int .i64 0, .int .i64 0, .int .i64 0, .int .i64 0] 29))
                      refine hK.out _ _ (hH.later (below_alloc _ _)) (fun hH => ?_)
                      refine wpAnyH_ready (rs := [12]) (by kernel_rfl) (by simp) ?_
                      refine AllReadyH.cons (o := { dst := none, op := Op.store 29 (Operand.tmp 15) (Operand.tmp 85), type := 0, pos := "outright.go:276", after := #[{ on := 11, ground := Ground.data }, { on := 9, ground := Ground.data }, { on := 7, ground := Ground.chain }, { on := 0, ground := Ground.phase }, { on := 1, ground := Ground.phase }, { on := 2, ground := Ground.phase }, { on := 3, ground := Ground.phase }, { on := 4, ground := Ground.phase }, { on := 5, ground := Ground.phase }, { on := 6, ground := Ground.phase }, { on := 7, ground := Ground.phase }, { on := 8, ground := Ground.phase }, { on := 9, ground := Ground.phase }, { on := 10, ground := Ground.textOnly Departure.lateStores }, { on := 11, ground := Ground.phase }], guard := none }) rfl (fun K hK => ?_) AllReadyH.nil
                      refine op_putC (zs := csL ⟨0, false, 0, 0, 0, 0, 0, 0, 0, 0, 0, 0, 0, 0, 0⟩) (csL ck) rfl (sizeCsL _) (csL_one _) rfl _ _ rfl _ rfl rfl hN ?_
                      intro w9 b9 g9
                      have hZ := hH.grown hN g9 hG hp
                      have PX : Hid (ZZ w l s [(_, ck), (RB, cN), (CB, cN)] [(.slice ra rn rc, ak), (.slice xa xn xc, aN), (va, aN)] w9) := (hZ.addB b9 hp).addR (rowV_blk rrow hN g9 (by decide))
                      refine hK.out _ _ hZ (fun hH => ?_)
                      simp only [Act.put]
                      refine wpAnyH_take (i := 13) (oi := { dst := some 16, op := Op.assign (Operand.tmp 86), type := 22, pos := "outright.go:276", after := #[{ on := 10, ground := Ground.data }, { on := 12, ground := Ground.chain }, { on := 0, ground := Ground.phase }, { on := 1, ground := Ground.phase }, { on := 2, ground := Ground.phase }, { on := 3, ground := Ground.phase }, { on := 4, ground := Ground.phase }, { on := 5, ground := Ground.phase }, { on := 6, ground := Ground.phase }, { on := 7, ground := Ground.phase }, { on := 8, ground := Ground.phase }, { on := 9, ground := Ground.phase }, { on := 10, ground := Ground.phase }, { on := 11, ground := Ground.phase }, { on := 12, ground := Ground.phase }], guard := none }) (v := .slice ra rn rc) rfl (by kernel_rfl) (by kernel_rfl) (by kernel_rfl) (fun _ _ _ h => h) (Or.inl ⟨by rfl, fun w' h => by go_simp⟩) hH ?_
                      try simp only [Act.put, List.setIfInBounds_toArray, List.set_cons_zero, List.set_cons_succ]
                      refine wpAnyH_done (by kernel_rfl) ?_ _
                      clear hH hK b9 g9 hN hZ
                      go_wp2_with fail
                      go_meet
                      case rel => exact ⟨_, _, _, _, rfl, rfl, PX⟩
                    · go_simp
                      have hN : Blk x3.heap.size 29 (csL ⟨0, false, 0, 0, 0, 0, 0, 0, 0, 0, 0, 0, 0, 0, 0⟩) (x3.alloc (.cells #[.int .i64 0, .bool false, .int .i64 0, .int .i64 0, .int .i64 0, .int .i64 0, .int .i64 0, .int .i64 0, .int .i64 0, .int .i64 0, .int .i64 0, .int .i64 0, .int .i64 0, .int .i64 0, .int .i64 0] 29)) := Blk.new _ _ _
                      have hG := hH.lts
                      have hp : w.heap.size < x3.heap.size := hH.p.lt
                      have orow := orow.later (below_alloc x3 (.cells #[.int .i64 0, .bool false, .int .i64 0, .int .i64 0, .int .i64 0, .int .i64 0, .int .i64 0, .int .i64 0, .int .i64 0, .int .i64 0, .int .i64 0, .int .i64 0, .int .i64 0, .int .i64 0, .int .i64 0] 29))
                      have re := re.later (below_alloc x3 (.cells #[.int .i64 0, .bool false, .int .i64 0, .int .i64 0, .int .i64 0, .int .i64 0, .int .i64 0, .int .i64 0, .int .i64 0, .int .i64 0, .int .i64 0, .int .i64 0, .int .i64 0, .int .i64 0, .int .i64 0] 29))
                      refine hK.out _ _ (hH.later (below_alloc _ _)) (fun hH => ?_)
                      refine wpAnyH_ready (rs := [7]) (by kernel_rfl) (by simp) ?_
                      refine AllReadyH.cons (o := { dst := some 84, op := Op.call { callee := Callee.value (Operand.func 14), args := #[Operand.tmp 78, Operand.tmp 79, Operand.tmp 83], argTypes := #[24, 29, 25] }, type := 39, pos := "outright.go:276", after := #[{ on := 1, ground := Ground.data }, { on := 2, ground := Ground.data }, { on := 6, ground := Ground.data }, { on := 6, ground := Ground.chain }], guard := none }) rfl (fun K hK => ?_) AllReadyH.nil
                      go_simp
                      refine (RUNT.out _ _ _ orow.rd re.rd).mono ?_
                      rintro e x5 ⟨ra, rn, rc, rfl, rrow, bX⟩
                      have orow := orow.later bX
                      have re := re.later bX
                      have hN := hN.below bX
                      have rrow := rrow.mono hH.bb.size
                      refine hK.out _ _ (hH.later bX) (fun hH => ?_)
                      refine wpAnyH_take (i := 8) (oi := { dst := some 76, op := Op.move (Operand.tmp 84), type := 39, pos := "outright.go:276", after := #[{ on := 7, ground := Ground.data }], guard := none }) (v := .tuple #[csV ck, .slice ra rn rc]) rfl (by kernel_rfl) (by kernel_rfl) (by kernel_rfl) (fun _ _ _ h => h) (Or.inl ⟨by rfl, fun w' h => by go_simp⟩) hH ?_
                      try simp only [Act.put, List.setIfInBounds_toArray, List.set_cons_zero, List.set_cons_succ]
                      refine wpAnyH_take (i := 9) (oi := { dst := some 85, op := Op.extract (Operand.tmp 76) 0, type := 29, pos := "outright.go:276", after := #[{ on := 8, ground := Ground.data }], guard := none }) (v := csV ck) rfl (by kernel_rfl) (by kernel_rfl) (by kernel_rfl) (fun _ _ _ h => h) (Or.inl ⟨by rfl, fun w' h => by go_simp⟩) hH ?_
                      try simp only [Act.put, List.setIfInBounds_toArray, List.set_cons_zero, List.set_cons_succ]
                      refine wpAnyH_take (i := 10) (oi := { dst := some 86, op := Op.extract (Operand.tmp 76) 1, type := 22, pos := "outright.go:276", after := #[{ on := 8, ground := Ground.data }, { on := 12, ground := Ground.gcOnly Departure.lateStores }], guard := none }) (v := .slice ra rn rc) rfl (by kernel_rfl) (by kernel_rfl) (by kernel_rfl) (fun _ _ _ h => h) (Or.inl ⟨by rfl, fun w' h => by go_simp⟩) hH ?_
                      try simp only [Act.put, List.setIfInBounds_toArray, List.set_cons_zero, List.set_cons_succ]
                      refine wpAnyH_ready (rs := [12]) (by kernel_rfl) (by simp) ?_
                      refine AllReadyH.cons (o := { dst := none, op := Op.store 29 (Operand.tmp 15) (Operand.tmp 85), type := 0, pos := "outright.go:276", after := #[{ on := 11, ground := Ground.data }, { on := 9, ground := Ground.data }, { on := 7, ground := Ground.chain }, { on := 0, ground := Ground.phase }, { on := 1, ground := Ground.phase }, { on := 2, ground := Ground.phase }, { on := 3, ground := Ground.phase }, { on := 4, ground := Ground.phase }, { on := 5, ground := Ground.phase }, { on := 6, ground := Ground.phase }, { on := 7, ground := Ground.phase }, { on := 8, ground := Ground.phase }, { on := 9, ground := Ground.phase }, { on := 10, ground := Ground.textOnly Departure.lateStores }, { on := 11, ground := Ground.phase }], guard := none }) rfl (fun K hK => ?_) AllReadyH.nil
                      refine op_putC (zs := csL ⟨0, false, 0, 0, 0, 0, 0, 0, 0, 0, 0, 0, 0, 0, 0⟩) (csL ck) rfl (sizeCsL _) (csL_one _) rfl _ _ rfl _ rfl rfl hN ?_
                      intro w9 b9 g9
                      have hZ := hH.grown hN g9 hG hp
                      have PX : Hid (ZZ w l s [(_, ck), (RB, cN), (CB, cN)] [(.slice ra rn rc, ak), (.slice xa xn xc, aN), (va, aN)] w9) := (hZ.addB b9 hp).addR (rowV_blk rrow hN g9 (by decide))
                      refine hK.out _ _ hZ (fun hH => ?_)
                      simp only [Act.put]
                      refine wpAnyH_take (i := 13) (oi := { dst := some 16, op := Op.assign (Operand.tmp 86), type := 22, pos := "outright.go:276", after := #[{ on := 10, ground := Ground.data }, { on := 12, ground := Ground.chain }, { on := 0, ground := Ground.phase }, { on := 1, ground := Ground.phase }, { on := 2, ground := Ground.phase }, { on := 3, ground := Ground.phase }, { on := 4, ground := Ground.phase }, { on := 5, ground := Ground.phase }, { on := 6, ground := Ground.phase }, { on := 7, ground := Ground.phase }, { on := 8, ground := Ground.phase }, { on := 9, ground := Ground.phase }, { on := 10, ground := Ground.phase }, { on := 11, ground := Ground.phase }, { on := 12, ground := Ground.phase }], guard := none }) (v := .slice ra rn rc) rfl (by kernel_rfl) (by kernel_rfl) (by kernel_rfl) (fun _ _ _ h => h) (Or.inl ⟨by rfl, fun w' h => by go_simp⟩) hH ?_
                      try simp only [Act.put, List.setIfInBounds_toArray, List.set_cons_zero, List.set_cons_succ]
                      refine wpAnyH_done (by kernel_rfl) ?_ _
                      clear hH hK b9 g9 hN hZ
                      go_wp2_with fail
                      go_meet
                      case rel => exact ⟨_, _, _, _, rfl, rfl, PX⟩
                  · go_simp
                    have hN : Blk x2.heap.size 29 (csL ⟨0, false, 0, 0, 0, 0, 0, 0, 0, 0, 0, 0, 0, 0, 0⟩) (x2.alloc (.cells #[.int .i64 0, .bool false, .int .i64 0, .int .i64 0, .int .i64 0, .int .i64 0, .int .i64 0, .int .i64 0, .int .i64 0, .int .i64 0, .int .i64 0, .int .i64 0, .int .i64 0, .int .i64 0, .int .i64 0] 29)) := Blk.new _ _ _
                    have hG := hH.lts
                    have hp : w.heap.size < x2.heap.size := hH.p.lt
                    have orow := orow.later (below_alloc x2 (.cells #[.int .i64 0, .bool false, .int .i64 0, .int .i64 0, .int .i64 0, .int .i64 0, .int .i64 0, .int .i64 0, .int .i64 0, .int .i64 0, .int .i64 0, .int .i64 0, .int .i64 0, .int .i64 0, .int .i64 0] 29))
                    refine hK.out _ _ (hH.later (below_alloc _ _)) (fun hH => ?_)
                    refine wpAnyH_ready (rs := [6]) (by kernel_rfl) (by simp) ?_
                    refine AllReadyH.cons (o := { dst := some 83, op := Op.call { callee := Callee.value (Operand.func 15), args := #[Operand.tmp 82], argTypes := #[25] }, type := 25, pos := "outright.go:276", after := #[{ on := 5, ground := Ground.data }, { on := 2, ground := Ground.chain }], guard := none }) rfl (fun K hK => ?_) AllReadyH.nil
                    go_simp
                    refine (FE.out _ _ _ LT.out (ET.out.later hH.bb)).mono ?_
                    rintro e x6 ⟨ve, rfl, re, bX⟩
                    have orow := orow.later bX
                    have hN := hN.below bX
                    refine hK.out _ _ (hH.later bX) (fun hH => ?_)
                    refine wpAnyH_ready (rs := [7]) (by kernel_rfl) (by simp) ?_
                    refine AllReadyH.cons (o := { dst := some 84, op := Op.call { callee := Callee.value (Operand.func 14), args := #[Operand.tmp 78, Operand.tmp 79, Operand.tmp 83], argTypes := #[24, 29, 25] }, type := 39, pos := "outright.go:276", after := #[{ on := 1, ground := Ground.data }, { on := 2, ground := Ground.data }, { on := 6, ground := Ground.data }, { on := 6, ground := Ground.chain }], guard := none }) rfl (fun K hK => ?_) AllReadyH.nil
                    go_simp
                    refine (RUNT.out _ _ _ orow.rd re.rd).mono ?_
                    rintro e x7 ⟨ra, rn, rc, rfl, rrow, bX⟩
                    have orow := orow.later bX
                    have hN := hN.below bX
                    have re := re.later bX
                    have rrow := rrow.mono hH.bb.size
                    refine hK.out _ _ (hH.later bX) (fun hH => ?_)
                    refine wpAnyH_take (i := 8) (oi := { dst := some 76, op := Op.move (Operand.tmp 84), type := 39, pos := "outright.go:276", after := #[{ on := 7, ground := Ground.data }], guard := none }) (v := .tuple #[csV ck, .slice ra rn rc]) rfl (by kernel_rfl) (by kernel_rfl) (by kernel_rfl) (fun _ _ _ h => h) (Or.inl ⟨by rfl, fun w' h => by go_simp⟩) hH ?_
                    try simp only [Act.put, List.setIfInBounds_toArray, List.set_cons_zero, List.set_cons_succ]
                    refine wpAnyH_take (i := 9) (oi := { dst := some 85, op := Op.extract (Operand.tmp 76) 0, type := 29, pos := "outright.go:276", after := #[{ on := 8, ground := Ground.data }], guard := none }) (v := csV ck) rfl (by kernel_rfl) (by kernel_rfl) (by kernel_rfl) (fun _ _ _ h => h) (Or.inl ⟨by rfl, fun w' h => by go_simp⟩) hH ?_
                    try simp only [Act.put, List.setIfInBounds_toArray, List.set_cons_zero, List.set_cons_succ]
                    refine wpAnyH_take (i := 10) (oi := { dst := some 86, op := Op.extract (Operand.tmp 76) 1, type := 22, pos := "outright.go:276", after := #[{ on := 8, ground := Ground.data }, { on := 12, ground := Ground.gcOnly Departure.lateStores }], guard := none }) (v := .slice ra rn rc) rfl (by kernel_rfl) (by kernel_rfl) (by kernel_rfl) (fun _ _ _ h => h) (Or.inl ⟨by rfl, fun w' h => by go_simp⟩) hH ?_
                    try simp only [Act.put, List.setIfInBounds_toArray, List.set_cons_zero, List.set_cons_succ]
                    refine wpAnyH_ready (rs := [12]) (by kernel_rfl) (by simp) ?_
                    refine AllReadyH.cons (o := { dst := none, op := Op.store 29 (Operand.tmp 15) (Operand.tmp 85), type := 0, pos := "outright.go:276", after := #[{ on := 11, ground := Ground.data }, { on := 9, ground := Ground.data }, { on := 7, ground := Ground.chain }, { on := 0, ground := Ground.phase }, { on := 1, ground := Ground.phase }, { on := 2, ground := Ground.phase }, { on := 3, ground := Ground.phase }, { on := 4, ground := Ground.phase }, { on := 5, ground := Ground.phase }, { on := 6, ground := Ground.phase }, { on := 7, ground := Ground.phase }, { on := 8, ground := Ground.phase }, { on := 9, ground := Ground.phase }, { on := 10, ground := Ground.textOnly Departure.lateStores }, { on := 11, ground := Ground.phase }], guard := none }) rfl (fun K hK => ?_) AllReadyH.nil
                    refine op_putC (zs := csL ⟨0, false, 0, 0, 0, 0, 0, 0, 0, 0, 0, 0, 0, 0, 0⟩) (csL ck) rfl (sizeCsL _) (csL_one _) rfl _ _ rfl _ rfl rfl hN ?_
                    intro w9 b9 g9
                    have hZ := hH.grown hN g9 hG hp
                    have PX : Hid (ZZ w l s [(_, ck), (RB, cN), (CB, cN)] [(.slice ra rn rc, ak), (.slice xa xn xc, aN), (va, aN)] w9) := (hZ.addB b9 hp).addR (rowV_blk rrow hN g9 (by decide))
                    refine hK.out _ _ hZ (fun hH => ?_)
                    simp only [Act.put]
                    refine wpAnyH_take (i := 13) (oi := { dst := some 16, op := Op.assign (Operand.tmp 86), type := 22, pos := "outright.go:276", after := #[{ on := 10, ground := Ground.data }, { on := 12, ground := Ground.chain }, { on := 0, ground := Ground.phase }, { on := 1, ground := Ground.phase }, { on := 2, ground := Ground.phase }, { on := 3, ground := Ground.phase }, { on := 4, ground := Ground.phase }, { on := 5, ground := Ground.phase }, { on := 6, ground := Ground.phase }, { on := 7, ground := Ground.phase }, { on := 8, ground := Ground.phase }, { on := 9, ground := Ground.phase }, { on := 10, ground := Ground.phase }, { on := 11, ground := Ground.phase }, { on := 12, ground := Ground.phase }], guard := none }) (v := .slice ra rn rc) rfl (by kernel_rfl) (by kernel_rfl) (by kernel_rfl) (fun _ _ _ h => h) (Or.inl ⟨by rfl, fun w' h => by go_simp⟩) hH ?_
                    try simp only [Act.put, List.setIfInBounds_toArray, List.set_cons_zero, List.set_cons_succ]
                    refine wpAnyH_done (by kernel_rfl) ?_ _
                    clear hH hK b9 g9 hN hZ
                    go_wp2_with fail
                    go_meet
                    case rel => exact ⟨_, _, _, _, rfl, rfl, PX⟩
                · go_simp
                  have hN : Blk x1.heap.size 29 (csL ⟨0, false, 0, 0, 0, 0, 0, 0, 0, 0, 0, 0, 0, 0, 0⟩) (x1.alloc (.cells #[.int .i64 0, .bool false, .int .i64 0, .int .i64 0, .int .i64 0, .int .i64 0, .int .i64 0, .int .i64 0, .int .i64 0, .int .i64 0, .int .i64 0, .int .i64 0, .int .i64 0, .int .i64 0, .int .i64 0] 29)) := Blk.new _ _ _
                  have hG := hH.lts
                  have hp : w.heap.size < x1.heap.size := hH.p.lt
                  have orow := orow.later (below_alloc x1 (.cells #[.int .i64 0, .bool false, .int .i64 0, .int .i64 0, .int .i64 0, .int .i64 0, .int .i64 0, .int .i64 0, .int .i64 0, .int .i64 0, .int .i64 0, .int .i64 0, .int .i64 0, .int .i64 0, .int .i64 0] 29))
                  refine hK.out _ _ (hH.later (below_alloc _ _)) (fun hH => ?_)
                  refine wpAnyH_ready (rs := [2]) (by kernel_rfl) (by simp) ?_
                  refine AllReadyH.cons (o := { dst := some 79, op := Op.call { callee := Callee.value (Operand.func 10), args := #[], argTypes := #[] }, type := 29, pos := "outright.go:276", after := #[{ on := 1, ground := Ground.chain }], guard := none }) rfl (fun K hK => ?_) AllReadyH.nil
                  go_simp
                  refine (FR.out _).mono ?_
                  rintro e x8 ⟨rfl, bX⟩
                  have orow := orow.later bX
                  have hN := hN.below bX
                  refine hK.out _ _ (hH.later bX) (fun hH => ?_)
                  refine wpAnyH_ready (rs := [6]) (by kernel_rfl) (by simp) ?_
                  refine AllReadyH.cons (o := { dst := some 83, op := Op.call { callee := Callee.value (Operand.func 15), args := #[Operand.tmp 82], argTypes := #[25] }, type := 25, pos := "outright.go:276", after := #[{ on := 5, ground := Ground.data }, { on := 2, ground := Ground.chain }], guard := none }) rfl (fun K hK => ?_) AllReadyH.nil
                  go_simp
                  refine (FE.out _ _ _ LT.out (ET.out.later hH.bb)).mono ?_
                  rintro e x9 ⟨ve, rfl, re, bX⟩
                  have orow := orow.later bX
                  have hN := hN.below bX
                  refine hK.out _ _ (hH.later bX) (fun hH => ?_)
                  refine wpAnyH_ready (rs := [7]) (by kernel_rfl) (by simp) ?_
                  refine AllReadyH.cons (o := { dst := some 84, op := Op.call { callee := Callee.value (Operand.func 14), args := #[Operand.tmp 78, Operand.tmp 79, Operand.tmp 83], argTypes := #[24, 29, 25] }, type := 39, pos := "outright.go:276", after := #[{ on := 1, ground := Ground.data }, { on := 2, ground := Ground.data }, { on := 6, ground := Ground.data }, { on := 6, ground := Ground.chain }], guard := none }) rfl (fun K hK => ?_) AllReadyH.nil
                  go_simp
                  refine (RUNT.out _ _ _ orow.rd re.rd).mono ?_
                  rintro e x10 ⟨ra, rn, rc, rfl, rrow, bX⟩
                  have orow := orow.later bX
                  have hN := hN.below bX
                  have re := re.later bX
                  have rrow := rrow.mono hH.bb.size
                  refine hK.out _ _ (hH.later bX) (fun hH => ?_)
                  refine wpAnyH_take (i := 8) (oi := { dst := some 76, op := Op.move (Operand.tmp 84), type := 39, pos := "outright.go:276", after := #[{ on := 7, ground := Ground.data }], guard := none }) (v := .tuple #[csV ck, .slice ra rn rc]) rfl (by kernel_rfl) (by kernel_rfl) (by kernel_rfl) (fun _ _ _ h => h) (Or.inl ⟨by rfl, fun w' h => by go_simp⟩) hH ?_
                  try simp only [Act.put, List.setIfInBounds_toArray, List.set_cons_zero, List.set_cons_succ]
                  refine wpAnyH_take (i := 9) (oi := { dst := some 85, op := Op.extract (Operand.tmp 76) 0, type := 29, pos := "outright.go:276", after := #[{ on := 8, ground := Ground.data }], guard := none }) (v := csV ck) rfl (by kernel_rfl) (by kernel_rfl) (by kernel_rfl) (fun _ _ _ h => h) (Or.inl ⟨by rfl, fun w' h => by go_simp⟩) hH ?_
                  try simp only [Act.put, List.setIfInBounds_toArray, List.set_cons_zero, List.set_cons_succ]
                  refine wpAnyH_take (i := 10) (oi := { dst := some 86, op := Op.extract (Operand.tmp 76) 1, type := 22, pos := "outright.go:276", after := #[{ on := 8, ground := Ground.data }, { on := 12, ground := Ground.gcOnly Departure.lateStores }], guard := none }) (v := .slice ra rn rc) rfl (by kernel_rfl) (by kernel_rfl) (by kernel_rfl) (fun _ _ _ h => h) (Or.inl ⟨by rfl, fun w' h => by go_simp⟩) hH ?_
                  try simp only [Act.put, List.setIfInBounds_toArray, List.set_cons_zero, List.set_cons_succ]
                  refine wpAnyH_ready (rs := [12]) (by kernel_rfl) (by simp) ?_
                  refine AllReadyH.cons (o := { dst := none, op := Op.store 29 (Operand.tmp 15) (Operand.tmp 85), type := 0, pos := "outright.go:276", after := #[{ on := 11, ground := Ground.data }, { on := 9, ground := Ground.data }, { on := 7, ground := Ground.chain }, { on := 0, ground := Ground.phase }, { on := 1, ground := Ground.phase }, { on := 2, ground := Ground.phase }, { on := 3, ground := Ground.phase }, { on := 4, ground := Ground.phase }, { on := 5, ground := Ground.phase }, { on := 6, ground := Ground.phase }, { on := 7, ground := Ground.phase }, { on := 8, ground := Ground.phase }, { on := 9, ground := Ground.phase }, { on := 10, ground := Ground.textOnly Departure.lateStores }, { on := 11, ground := Ground.phase }], guard := none }) rfl (fun K hK => ?_) AllReadyH.nil
                  refine op_putC (zs := csL ⟨0, false, 0, 0, 0, 0, 0, 0, 0, 0, 0, 0, 0, 0, 0⟩) (csL ck) rfl (sizeCsL _) (csL_one _) rfl _ _ rfl _ rfl rfl hN ?_
                  intro w9 b9 g9
                  have hZ := hH.grown hN g9 hG hp
                  have PX : Hid (ZZ w l s [(_, ck), (RB, cN), (CB, cN)] [(.slice ra rn rc, ak), (.slice xa xn xc, aN), (va, aN)] w9) := (hZ.addB b9 hp).addR (rowV_blk rrow hN g9 (by decide))
                  refine hK.out _ _ hZ (fun hH => ?_)
                  simp only [Act.put]
                  refine wpAnyH_take (i := 13) (oi := { dst := some 16, op := Op.assign (Operand.tmp 86), type := 22, pos := "outright.go:276", after := #[{ on := 10, ground := Ground.data }, { on := 12, ground := Ground.chain }, { on := 0, ground := Ground.phase }, { on := 1, ground := Ground.phase }, { on := 2, ground := Ground.phase }, { on := 3, ground := Ground.phase }, { on := 4, ground := Ground.phase }, { on := 5, ground := Ground.phase }, { on := 6, ground := Ground.phase }, { on := 7, ground := Ground.phase }, { on := 8, ground := Ground.phase }, { on := 9, ground := Ground.phase }, { on := 10, ground := Ground.phase }, { on := 11, ground := Ground.phase }, { on := 12, ground := Ground.phase }], guard := none }) (v := .slice ra rn rc) rfl (by kernel_rfl) (by kernel_rfl) (by kernel_rfl) (fun _ _ _ h => h) (Or.inl ⟨by rfl, fun w' h => by go_simp⟩) hH ?_
                  try simp only [Act.put, List.setIfInBounds_toArray, List.set_cons_zero, List.set_cons_succ]
                  refine wpAnyH_done (by kernel_rfl) ?_ _
                  clear hH hK b9 g9 hN hZ
                  go_wp2_with fail
                  go_meet
                  case rel => exact ⟨_, _, _, _, rfl, rfl, PX⟩
              · go_simp
                have hN : Blk x6.drew.heap.size 29 (csL ⟨0, false, 0, 0, 0, 0, 0, 0, 0, 0, 0, 0, 0, 0, 0⟩) (x6.drew.alloc (.cells #[.int .i64 0, .bool false, .int .i64 0, .int .i64 0, .int .i64 0, .int .i64 0, .int .i64 0, .int .i64 0, .int .i64 0, .int .i64 0, .int .i64 0, .int .i64 0, .int .i64 0, .int .i64 0, .int .i64 0] 29)) := Blk.new _ _ _
                have hG := hH.lts
                have hp : w.heap.size < x6.drew.heap.size := hH.p.lt
                refine hK.out _ _ (hH.later (below_alloc _ _)) (fun hH => ?_)
                refine wpAnyH_ready (rs := [1]) (by kernel_rfl) (by simp) ?_
                refine AllReadyH.cons (o := { dst := some 78, op := Op.call { callee := Callee.value (Operand.func 12), args := #[Operand.tmp 77], argTypes := #[24] }, type := 24, pos := "outright.go:276", after := #[{ on := 0, ground := Ground.data }], guard := none }) rfl (fun K hK => ?_) AllReadyH.nil
                go_simp
                refine (OW.out _ hH.bb).mono ?_
                rintro e x11 ⟨oa, on, oc, rfl, orow, bX⟩
                have hN := hN.below bX
                refine hK.out _ _ (hH.later bX) (fun hH => ?_)
                refine wpAnyH_ready (rs := [2]) (by kernel_rfl) (by simp) ?_
                refine AllReadyH.cons (o := { dst := some 79, op := Op.call { callee := Callee.value (Operand.func 10), args := #[], argTypes := #[] }, type := 29, pos := "outright.go:276", after := #[{ on := 1, ground := Ground.chain }], guard := none }) rfl (fun K hK => ?_) AllReadyH.nil
                go_simp
                refine (FR.out _).mono ?_
                rintro e x12 ⟨rfl, bX⟩
                have hN := hN.below bX
                have orow := orow.later bX
                refine hK.out _ _ (hH.later bX) (fun hH => ?_)
                refine wpAnyH_ready (rs := [6]) (by kernel_rfl) (by simp) ?_
                refine AllReadyH.cons (o := { dst := some 83, op := Op.call { callee := Callee.value (Operand.func 15), args := #[Operand.tmp 82], argTypes := #[25] }, type := 25, pos := "outright.go:276", after := #[{ on := 5, ground := Ground.data }, { on := 2, ground := Ground.chain }], guard := none }) rfl (fun K hK => ?_) AllReadyH.nil
                go_simp
                refine (FE.out _ _ _ LT.out (ET.out.later hH.bb)).mono ?_
                rintro e x13 ⟨ve, rfl, re, bX⟩
                have hN := hN.below bX
                have orow := orow.later bX
                refine hK.out _ _ (hH.later bX) (fun hH => ?_)
                refine wpAnyH_ready (rs := [7]) (by kernel_rfl) (by simp) ?_
                refine AllReadyH.cons (o := { dst := some 84, op := Op.call { callee := Callee.value (Operand.func 14), args := #[Operand.tmp 78, Operand.tmp 79, Operand.tmp 83], argTypes := #[24, 29, 25] }, type := 39, pos := "outright.go:276", after := #[{ on := 1, ground := Ground.data }, { on := 2, ground := Ground.data }, { on := 6, ground := Ground.data }, { on := 6, ground := Ground.chain }], guard := none }) rfl (fun K hK => ?_) AllReadyH.nil
                go_simp
                refine (RUNT.out _ _ _ orow.rd re.rd).mono ?_
                rintro e x14 ⟨ra, rn, rc, rfl, rrow, bX⟩
                have hN := hN.below bX
                have orow := orow.later bX
                have re := re.later bX
                have rrow := rrow.mono hH.bb.size
                refine hK.out _ _ (hH.later bX) (fun hH => ?_)
                refine wpAnyH_take (i := 8) (oi := { dst := some 76, op := Op.move (Operand.tmp 84), type := 39, pos := "outright.go:276", after := #[{ on := 7, ground := Ground.data }], guard := none }) (v := .tuple #[csV ck, .slice ra rn rc]) rfl (by kernel_rfl) (by kernel_rfl) (by kernel_rfl) (fun _ _ _ h => h) (Or.inl ⟨by rfl, fun w' h => by go_simp⟩) hH ?_
                try simp only [Act.put, List.setIfInBounds_toArray, List.set_cons_zero, List.set_cons_succ]
                refine wpAnyH_take (i := 9) (oi := { dst := some 85, op := Op.extract (Operand.tmp 76) 0, type := 29, pos := "outright.go:276", after := #[{ on := 8, ground := Ground.data }], guard := none }) (v := csV ck) rfl (by kernel_rfl) (by kernel_rfl) (by kernel_rfl) (fun _ _ _ h => h) (Or.inl ⟨by rfl, fun w' h => by go_simp⟩) hH ?_
                try simp only [Act.put, List.setIfInBounds_toArray, List.set_cons_zero, List.set_cons_succ]
                refine wpAnyH_take (i := 10) (oi := { dst := some 86, op := Op.extract (Operand.tmp 76) 1, type := 22, pos := "outright.go:276", after := #[{ on := 8, ground := Ground.data }, { on := 12, ground := Ground.gcOnly Departure.lateStores }], guard := none }) (v := .slice ra rn rc) rfl (by kernel_rfl) (by kernel_rfl) (by kernel_rfl) (fun _ _ _ h => h) (Or.inl ⟨by rfl, fun w' h => by go_simp⟩) hH ?_
                try simp only [Act.put, List.setIfInBounds_toArray, List.set_cons_zero, List.set_cons_succ]
                refine wpAnyH_ready (rs := [12]) (by kernel_rfl) (by simp) ?_
                refine AllReadyH.cons (o := { dst := none, op := Op.store 29 (Operand.tmp 15) (Operand.tmp 85), type := 0, pos := "outright.go:276", after := #[{ on := 11, ground := Ground.data }, { on := 9, ground := Ground.data }, { on := 7, ground := Ground.chain }, { on := 0, ground := Ground.phase }, { on := 1, ground := Ground.phase }, { on := 2, ground := Ground.phase }, { on := 3, ground := Ground.phase }, { on := 4, ground := Ground.phase }, { on := 5, ground := Ground.phase }, { on := 6, ground := Ground.phase }, { on := 7, ground := Ground.phase }, { on := 8, ground := Ground.phase }, { on := 9, ground := Ground.phase }, { on := 10, ground := Ground.textOnly Departure.lateStores }, { on := 11, ground := Ground.phase }], guard := none }) rfl (fun K hK => ?_) AllReadyH.nil
                refine op_putC (zs := csL ⟨0, false, 0, 0, 0, 0, 0, 0, 0, 0, 0, 0, 0, 0, 0⟩) (csL ck) rfl (sizeCsL _) (csL_one _) rfl _ _ rfl _ rfl rfl hN ?_
                intro w9 b9 g9
                have hZ := hH.grown hN g9 hG hp
                have PX : Hid (ZZ w l s [(_, ck), (RB, cN), (CB, cN)] [(.slice ra rn rc, ak), (.slice xa xn xc, aN), (va, aN)] w9) := (hZ.addB b9 hp).addR (rowV_blk rrow hN g9 (by decide))
                refine hK.out _ _ hZ (fun hH => ?_)
                simp only [Act.put]
                refine wpAnyH_take (i := 13) (oi := { dst := some 16, op := Op.assign (Operand.tmp 86), type := 22, pos := "outright.go:276", after := #[{ on := 10, ground := Ground.data }, { on := 12, ground := Ground.chain }, { on := 0, ground := Ground.phase }, { on := 1, ground := Ground.phase }, { on := 2, ground := Ground.phase }, { on := 3, ground := Ground.phase }, { on := 4, ground := Ground.phase }, { on := 5, ground := Ground.phase }, { on := 6, ground := Ground.phase }, { on := 7, ground := Ground.phase }, { on := 8, ground := Ground.phase }, { on := 9, ground := Ground.phase }, { on := 10, ground := Ground.phase }, { on := 11, ground := Ground.phase }, { on := 12, ground := Ground.phase }], guard := none }) (v := .slice ra rn rc) rfl (by kernel_rfl) (by kernel_rfl) (by kernel_rfl) (fun _ _ _ h => h) (Or.inl ⟨by rfl, fun w' h => by go_simp⟩) hH ?_
                try simp only [Act.put, List.setIfInBounds_toArray, List.set_cons_zero, List.set_cons_succ]
                refine wpAnyH_done (by kernel_rfl) ?_ _
                clear hH hK b9 g9 hN hZ
                go_wp2_with fail
                go_meet
                case rel => exact ⟨_, _, _, _, rfl, rfl, PX⟩
            case rest =>
              obtain ⟨HB, ha, hn, hc, rfl, rfl, SH⟩ := hcut
              clear SZ2
              go_upto_region 17 with fail
              go_cut [17, 18] from 20 to 112 (fun v17 v18 wx => ∃ G ra rn rc, v17 = .pointer (some ⟨G, 0, none⟩) ∧ v18 = .slice ra rn rc ∧ Hid (ZZ w l s [(G, cN), (HB, ck), (RB, cN), (CB, cN)] [(.slice ra rn rc, aq), (.slice ha hn hc, ak), (.slice xa xn xc, aN), (va, aN)] wx))
              case first =>
                have hu := Try.underlying24
                have hi := SZ.out
                have hu2 := Try.underlying29
                have hu3 := Try.underlying36
                refine wp_region_held_drew (S := fun w' => ZZ w l s [(HB, ck), (RB, cN), (CB, cN)] [(.slice ha hn hc, ak), (.slice xa xn xc, aN), (va, aN)] w') (by kernel_rfl) (SH.out.drew) (fun hH => ?_)
                refine wpAnyH_take (i := 0) (oi := { dst := some 88, op := Op.load 24 (Operand.tmp 3), type := 24, pos := "outright.go:277", after := #[], guard := none }) (v := .agg (polL l s).toArray) rfl (by kernel_rfl) (by kernel_rfl) (by kernel_rfl) (fun _ _ _ h => h) (yieldsIf_load_mid (by rfl) _ _ rfl w.heap.size 0 rfl (polL l s) _ (fun w' h => h.p.all) hu rfl hi) hH ?_
                try simp only [Act.put, List.setIfInBounds_toArray, List.set_cons_zero, List.set_cons_succ]
                refine wpAnyH_take (i := 2) (oi := { dst := some 90, op := Op.load 29 (Operand.tmp 15), type := 29, pos := "outright.go:277", after := #[], guard := none }) (v := .agg (csL ck).toArray) rfl (by kernel_rfl) (by kernel_rfl) (by kernel_rfl) (fun _ _ _ h => h) (yieldsIf_load_mid (by rfl) _ _ rfl HB 0 rfl (csL ck) _ (fun w' h => (h.b (HB, ck) (by simp)).all) hu2 rfl (sizeCsL ck)) hH ?_
                try simp only [Act.put, List.setIfInBounds_toArray, List.set_cons_zero, List.set_cons_succ]
                refine wpAnyH_take (i := 3) (oi := { dst := some 91, op := Op.move (Operand.tmp 1), type := 25, pos := "outright.go:277", after := #[], guard := none }) (v := .slice ao k cap) rfl (by kernel_rfl) (by kernel_rfl) (by kernel_rfl) (fun _ _ _ h => h) (Or.inl ⟨by rfl, fun w' h => by go_simp⟩) hH ?_
                try simp only [Act.put, List.setIfInBounds_toArray, List.set_cons_zero, List.set_cons_succ]
                refine wpAnyH_take (i := 4) (oi := { dst := some 92, op := Op.move (Operand.tmp 2), type := 3, pos := "outright.go:277", after := #[], guard := none }) (v := .int .i64 (m : Int)) rfl (by kernel_rfl) (by kernel_rfl) (by kernel_rfl) (fun _ _ _ h => h) (Or.inl ⟨by rfl, fun w' h => by go_simp⟩) hH ?_
                try simp only [Act.put, List.setIfInBounds_toArray, List.set_cons_zero, List.set_cons_succ]
                refine wpAnyH_take (i := 5) (oi := { dst := some 93, op := Op.slice 25 (Operand.tmp 91) (some (Operand.tmp 92)) none none, type := 25, pos := "outright.go:277", after := #[{ on := 3, ground := Ground.data }, { on := 4, ground := Ground.data }], guard := none }) (v := dv) rfl (by kernel_rfl) (by kernel_rfl) (by kernel_rfl) (fun _ _ _ h => h) (Or.inl ⟨by rfl, fun w' h => by rw [← DV.out]; go_simp⟩) hH ?_
                try simp only [Act.put, List.setIfInBounds_toArray, List.set_cons_zero, List.set_cons_succ]
                refine wpAnyH_ready (rs := [1, 11]) (by kernel_rfl) (by simp) ?_
                refine AllReadyH.cons (o := { dst := some 89, op := Op.call { callee := Callee.value (Operand.func 12), args := #[Operand.tmp 88], argTypes := #[24] }, type := 24, pos := "outright.go:277", after := #[{ on := 0, ground := Ground.data }], guard := none }) rfl (fun K hK => ?_) (AllReadyH.cons (o := { dst := some 17, op := Op.alloc 29, type := 0, pos := "outright.go:277", after := #[], guard := none }) rfl (fun K hK => ?_) AllReadyH.nil)
                · go_simp
                  refine (OW.out _ hH.bb).mono ?_
                  rintro e x1 ⟨oa, on, oc, rfl, orow, bX⟩
                  refine hK.out _ _ (hH.later bX) (fun hH => ?_)
                  refine wpAnyH_ready (rs := [6, 11]) (by kernel_rfl) (by simp) ?_
                  refine AllReadyH.cons (o := { dst := some 94, op := Op.call { callee := Callee.value (Operand.func 15), args := #[Operand.tmp 93], argTypes := #[25] }, type := 25, pos := "outright.go:277", after := #[{ on := 5, ground := Ground.data }, { on := 1, ground := Ground.chain }], guard := none }) rfl (fun K hK => ?_) (AllReadyH.cons (o := { dst := some 17, op := Op.alloc 29, type := 0, pos := "outright.go:277", after := #[], guard := none }) rfl (fun K hK => ?_) AllReadyH.nil)
                  · go_simp
                    refine (FE.out _ _ _ LD.out (ED.out.later hH.bb)).mono ?_
                    rintro e x2 ⟨ve, rfl, re, bX⟩
                    have orow := orow.later bX
                    refine hK.out _ _ (hH.later bX) (fun hH => ?_)
                    refine wpAnyH_ready (rs := [7, 11]) (by kernel_rfl) (by simp) ?_
                    refine AllReadyH.cons (o := { dst := some 95, op := Op.call { callee := Callee.value (Operand.func 14), args := #[Operand.tmp 89, Operand.tmp 90, Operand.tmp 94], argTypes := #[24, 29, 25] }, type := 39, pos := "outright.go:277", after := #[{ on := 1, ground := Ground.data }, { on := 2, ground := Ground.data }, { on := 6, ground := Ground.data }, { on := 6, ground := Ground.chain }], guard := none }) rfl (fun K hK => ?_) (AllReadyH.cons (o := { dst := some 17, op := Op.alloc 29, type := 0, pos := "outright.go:277", after := #[], guard := none }) rfl (fun K hK => ?_) AllReadyH.nil)
                    · go_simp
                      refine (RUND.out _ _ _ orow.rd re.rd).mono ?_
                      rintro e x3 ⟨ra, rn, rc, rfl, rrow, bX⟩
                      have orow := orow.later bX
                      have re := re.later bX
                      have rrow := rrow.mono hH.bb.size
                      refine hK.out _ _ (hH.later bX) (fun hH => ?_)
                      refine wpAnyH_take (i := 8) (oi := { dst := some 87, op := Op.move (Operand.tmp 95), type := 39, pos := "outright.go:277", after := #[{ on := 7, ground := Ground.data }], guard := none }) (v := .tuple #[csV cN, .slice ra rn rc]) rfl (by kernel_rfl) (by kernel_rfl) (by kernel_rfl) (fun _ _ _ h => h) (Or.inl ⟨by rfl, fun w' h => by go_simp⟩) hH ?_
                      try simp only [Act.put, List.setIfInBounds_toArray, List.set_cons_zero, List.set_cons_succ]
                      refine wpAnyH_take (i := 9) (oi := { dst := some 96, op := Op.extract (Operand.tmp 87) 0, type := 29, pos := "outright.go:277", after := #[{ on := 8, ground := Ground.data }], guard := none }) (v := csV cN) rfl (by kernel_rfl) (by kernel_rfl) (by kernel_rfl) (fun _ _ _ h => h) (Or.inl ⟨by rfl, fun w' h => by go_simp⟩) hH ?_
                      try simp only [Act.put, List.setIfInBounds_toArray, List.set_cons_zero, List.set_cons_succ]
                      refine wpAnyH_take (i := 10) (oi := { dst := some 97, op := Op.extract (Operand.tmp 87) 1, type := 22, pos := "outright.go:277", after := #[{ on := 8, ground := Ground.data }, { on := 12, ground := Ground.gcOnly Departure.lateStores }], guard := none }) (v := .slice ra rn rc) rfl (by kernel_rfl) (by kernel_rfl) (by kernel_rfl) (fun _ _ _ h => h) (Or.inl ⟨by rfl, fun w' h => by go_simp⟩) hH ?_
                      try simp only [Act.put, List.setIfInBounds_toArray, List.set_cons_zero, List.set_cons_succ]
                      refine wpAnyH_ready (rs := [11]) (by kernel_rfl) (by simp) ?_
                      refine AllReadyH.cons (o := { dst := some 17, op := Op.alloc 29, type := 0, pos := "outright.go:277", after := #[], guard := none }) rfl (fun K hK => ?_) AllReadyH.nil
                      go_simp
                      have hN : Blk x3.heap.size 29 (csL ⟨0, false, 0, 0, 0, 0, 0, 0, 0, 0, 0, 0, 0, 0, 0⟩) (x3.alloc (.cells #[.int .i64 0, .bool false, .int .i64 0, .int .i64 0, .int .i64 0, .int .i64 0, .int .i64 0, .int .i64 0, .int .i64 0, .int .i64 0, .int .i64 0, .int .i64 0, .int .i64 0, .int .i64 0, .int .i64 0] 29)) := Blk.new _ _ _
                      have hG := hH.lts
                      have hp : w.heap.size < x3.heap.size := hH.p.lt
                      have orow := orow.later (below_alloc x3 (.cells #[.int .i64 0, .bool false, .int .i64 0, .int .i64 0, .int .i64 0, .int .i64 0, .int .i64 0, .int .i64 0, .int .i64 0, .int .i64 0, .int .i64 0, .int .i64 0, .int .i64 0, .int .i64 0, .int .i64 0] 29))
                      have re := re.later (below_alloc x3 (.cells #[.int .i64 0, .bool false, .int .i64 0, .int .i64 0, .int .i64 0, .int .i64 0, .int .i64 0, .int .i64 0, .int .i64 0, .int .i64 0, .int .i64 0, .int .i64 0, .int .i64 0, .int .i64 0, .int .i64 0] 29))
                      have rrow := rrow.later (below_alloc x3 (.cells #[.int .i64 0, .bool false, .int .i64 0, .int .i64 0, .int .i64 0, .int .i64 0, .int .i64 0, .int .i64 0, .int .i64 0, .int .i64 0, .int .i64 0, .int .i64 0, .int .i64 0, .int .i64 0, .int .i64 0] 29))
                      refine hK.out _ _ (hH.later (below_alloc _ _)) (fun hH => ?_)
                      refine wpAnyH_ready (rs := [12]) (by kernel_rfl) (by simp) ?_
                      refine AllReadyH.cons (o := { dst := none, op := Op.store 29 (Operand.tmp 17) (Operand.tmp 96), type := 0, pos := "outright.go:277", after := #[{ on := 11, ground := Ground.data }, { on := 9, ground := Ground.data }, { on := 7, ground := Ground.chain }, { on := 0, ground := Ground.phase }, { on := 1, ground := Ground.phase }, { on := 2, ground := Ground.phase }, { on := 3, ground := Ground.phase }, { on := 4, ground := Ground.phase }, { on := 5, ground := Ground.phase }, { on := 6, ground := Ground.phase }, { on := 7, ground := Ground.phase }, { on := 8, ground := Ground.phase }, { on := 9, ground := Ground.phase }, { on := 10, ground := Ground.textOnly Departure.lateStores }, { on := 11, ground := Ground.phase }], guard := none }) rfl (fun K hK => ?_) AllReadyH.nil
                      refine op_putC (zs := csL ⟨0, false, 0, 0, 0, 0, 0, 0, 0, 0, 0, 0, 0, 0, 0⟩) (csL cN) rfl (sizeCsL _) (csL_one _) rfl _ _ rfl _ rfl rfl hN ?_
                      intro w9 b9 g9
                      have hZ := hH.grown hN g9 hG hp
                      have PX : Hid (ZZ w l s [(_, cN), (HB, ck), (RB, cN), (CB, cN)] [(.slice ra rn rc, aq), (.slice ha hn hc, ak), (.slice xa xn xc, aN), (va, aN)] w9) := (hZ.addB b9 hp).addR (rowV_blk rrow hN g9 (by decide))
                      refine hK.out _ _ hZ (fun hH => ?_)
                      simp only [Act.put]
                      refine wpAnyH_take (i := 13) (oi := { dst := some 18, op := Op.assign (Operand.tmp 97), type := 22, pos := "outright.go:277", after := #[{ on := 10, ground := Ground.data }, { on := 12, ground := Ground.chain }, { on := 0, ground := Ground.phase }, { on := 1, ground := Ground.phase }, { on := 2, ground := Ground.phase }, { on := 3, ground := Ground.phase }, { on := 4, ground := Ground.phase }, { on := 5, ground := Ground.phase }, { on := 6, ground := Ground.phase }, { on := 7, ground := Ground.phase }, { on := 8, ground := Ground.phase }, { on := 9, ground := Ground.phase }, { on := 10, ground := Ground.phase }, { on := 11, ground := Ground.phase }, { on := 12, ground := Ground.phase }], guard := none }) (v := .slice ra rn rc) rfl (by kernel_rfl) (by kernel_rfl) (by kernel_rfl) (fun _ _ _ h => h) (Or.inl ⟨by rfl, fun w' h => by go_simp⟩) hH ?_
                      try simp only [Act.put, List.setIfInBounds_toArray, List.set_cons_zero, List.set_cons_succ]
                      refine wpAnyH_done (by kernel_rfl) ?_ _
                      clear hH hK b9 g9 hN hZ
                      go_wp2_with fail
                      go_meet
                      case rel => exact ⟨_, _, _, _, rfl, rfl, PX⟩
                    · go_simp
                      have hN : Blk x2.heap.size 29 (csL ⟨0, false, 0, 0, 0, 0, 0, 0, 0, 0, 0, 0, 0, 0, 0⟩) (x2.alloc (.cells #[.int .i64 0, .bool false, .int .i64 0, .int .i64 0, .int .i64 0, .int .i64 0, .int .i64 0, .int .i64 0, .int .i64 0, .int .i64 0, .int .i64 0, .int .i64 0, .int .i64 0, .int .i64 0, .int .i64 0] 29)) := Blk.new _ _ _
                      have hG := hH.lts
                      have hp : w.heap.size < x2.heap.size := hH.p.lt
                      have orow := orow.later (below_alloc x2 (.cells #[.int .i64 0, .bool false, .int .i64 0, .int .i64 0, .int .i64 0, .int .i64 0, .int .i64 0, .int .i64 0, .int .i64 0, .int .i64 0, .int .i64 0, .int .i64 0, .int .i64 0, .int .i64 0, .int .i64 0] 29))
                      have re := re.later (below_alloc x2 (.cells #[.int .i64 0, .bool false, .int .i64 0, .int .i64 0, .int .i64 0, .int .i64 0, .int .i64 0, .int .i64 0, .int .i64 0, .int .i64 0, .int .i64 0, .int .i64 0, .int .i64 0, .int .i64 0, .int .i64 0] 29))
                      refine hK.out _ _ (hH.later (below_alloc _ _)) (fun hH => ?_)
                      refine wpAnyH_ready (rs := [7]) (by kernel_rfl) (by simp) ?_
                      refine AllReadyH.cons (o := { dst := some 95, op := Op.call { callee := Callee.value (Operand.func 14), args := #[Operand.tmp 89, Operand.tmp 90, Operand.tmp 94], argTypes := #[24, 29, 25] }, type := 39, pos := "outright.go:277", after := #[{ on := 1, ground := Ground.data }, { on := 2, ground := Ground.data }, { on := 6, ground := Ground.data }, { on := 6, ground := Ground.chain }], guard := none }) rfl (fun K hK => ?_) AllReadyH.nil
                      go_simp
                      refine (RUND.out _ _ _ orow.rd re.rd).mono ?_
                      rintro e x4 ⟨ra, rn, rc, rfl, rrow, bX⟩
                      have orow := orow.later bX
                      have re := re.later bX
                      have hN := hN.below bX
                      have rrow := rrow.mono hH.bb.size
                      refine hK.out _ _ (hH.later bX) (fun hH => ?_)
                      refine wpAnyH_take (i := 8) (oi := { dst := some 87, op := Op.move (Operand.tmp 95), type := 39, pos := "outright.go:277", after := #[{ on := 7, ground := Ground.data }], guard := none }) (v := .tuple #[csV cN, .slice ra rn rc]) rfl (by kernel_rfl) (by kernel_rfl) (by kernel_rfl) (fun _ _ _ h => h) (Or.inl ⟨by rfl, fun w' h => by go_simp⟩) hH ?_
                      try simp only [Act.put, List.setIfInBounds_toArray, List.set_cons_zero, List.set_cons_succ]
                      refine wpAnyH_take (i := 9) (oi := { dst := some 96, op := Op.extract (Operand.tmp 87) 0, type := 29, pos := "outright.go:277", after := #[{ on := 8, ground := Ground.data }], guard := none }) (v := csV cN) rfl (by kernel_rfl) (by kernel_rfl) (by kernel_rfl) (fun _ _ _ h => h) (Or.inl ⟨by rfl, fun w' h => by go_simp⟩) hH ?_
                      try simp only [Act.put, List.setIfInBounds_toArray, List.set_cons_zero, List.set_cons_succ]
                      refine wpAnyH_take (i := 10) (oi := { dst := some 97, op := Op.extract (Operand.tmp 87) 1, type := 22, pos := "outright.go:277", after := #[{ on := 8, ground := Ground.data }, { on := 12, ground := Ground.gcOnly Departure.lateStores }], guard := none }) (v := .slice ra rn rc) rfl (by kernel_rfl) (by kernel_rfl) (by kernel_rfl) (fun _ _ _ h => h) (Or.inl ⟨by rfl, fun w' h => by go_simp⟩) hH ?_
                      try simp only [Act.put, List.setIfInBounds_toArray, List.set_cons_zero, List.set_cons_succ]
                      refine wpAnyH_ready (rs := [12]) (by kernel_rfl) (by simp) ?_
                      refine AllReadyH.cons (o := { dst := none, op := Op.store 29 (Operand.tmp 17) (Operand.tmp 96), type := 0, pos := "outright.go:277", after := #[{ on := 11, ground := Ground.data }, { on := 9, ground := Ground.data }, { on := 7, ground := Ground.chain }, { on := 0, ground := Ground.phase }, { on := 1, ground := Ground.phase }, { on := 2, ground := Ground.phase }, { on := 3, ground := Ground.phase }, { on := 4, ground := Ground.phase }, { on := 5, ground := Ground.phase }, { on := 6, ground := Ground.phase }, { on := 7, ground := Ground.phase }, { on := 8, ground := Ground.phase }, { on := 9, ground := Ground.phase }, { on := 10, ground := Ground.textOnly Departure.lateStores }, { on := 11, ground := Ground.phase }], guard := none }) rfl (fun K hK => ?_) AllReadyH.nil
                      refine op_putC (zs := csL ⟨0, false, 0, 0, 0, 0, 0, 0, 0, 0, 0, 0, 0, 0, 0⟩) (csL cN) rfl (sizeCsL _) (csL_one _) rfl _ _ rfl _ rfl rfl hN ?_
                      intro w9 b9 g9
                      have hZ := hH.grown hN g9 hG hp
                      have PX : Hid (ZZ w l s [(_, cN), (HB, ck), (RB, cN), (CB, cN)] [(.slice ra rn rc, aq), (.slice ha hn hc, ak), (.slice xa xn xc, aN), (va, aN)] w9) := (hZ.addB b9 hp).addR (rowV_blk rrow hN g9 (by decide))
                      refine hK.out _ _ hZ (fun hH => ?_)
                      simp only [Act.put]
                      refine wpAnyH_take (i := 13) (oi := { dst := some 18, op := Op.assign (Operand.tmp 97), type := 22, pos := "outright.go:277", after := #[{ on := 10, ground := Ground.data }, { on := 12, ground := Ground.chain }, { on := 0, ground := Ground.phase }, { on := 1, ground := Ground.phase }, { on := 2, ground := Ground.phase }, { on := 3, ground := Ground.phase }, { on := 4, ground := Ground.phase }, { on := 5, ground := Ground.phase }, { on := 6, ground := Ground.phase }, { on := 7, ground := Ground.phase }, { on := 8, ground := Ground.phase }, { on := 9, ground := Ground.phase }, { on := 10, ground := Ground.phase }, { on := 11, ground := Ground.phase }, { on := 12, ground := Ground.phase }], guard := none }) (v := .slice ra rn rc) rfl (by kernel_rfl) (by kernel_rfl) (by kernel_rfl) (fun _ _ _ h => h) (Or.inl ⟨by rfl, fun w' h => by go_simp⟩) hH ?_
                      try simp only [Act.put, List.setIfInBounds_toArray, List.set_cons_zero, List.set_cons_succ]
                      refine wpAnyH_done (by kernel_rfl) ?_ _
                      clear hH hK b9 g9 hN hZ
                      go_wp2_with fail
                      go_meet
                      case rel => exact ⟨_, _, _, _, rfl, rfl, PX⟩
                  · go_simp
                    have hN : Blk x1.heap.size 29 (csL ⟨0, false, 0, 0, 0, 0, 0, 0, 0, 0, 0, 0, 0, 0, 0⟩) (x1.alloc (.cells #[.int .i64 0, .bool false, .int .i64 0, .int .i64 0, .int .i64 0, .int .i64 0, .int .i64 0, .int .i64 0, .int .i64 0, .int .i64 0, .int .i64 0, .int .i64 0, .int .i64 0, .int .i64 0, .int .i64 0] 29)) := Blk.new _ _ _
                    have hG := hH.lts
                    have hp : w.heap.size < x1.heap.size := hH.p.lt
                    have orow := orow.later (below_alloc x1 (.cells #[.int .i64 0, .bool false, .int .i64 0, .int .i64 0, .int .i64 0, .int .i64 0, .int .i64 0, .int .i64 0, .int .i64 0, .int .i64 0, .int .i64 0, .int .i64 0, .int .i64 0, .int .i64 0, .int .i64 0] 29))
                    refine hK.out _ _ (hH.later (below_alloc _ _)) (fun hH => ?_)
                    refine wpAnyH_ready (rs := [6]) (by kernel_rfl) (by simp) ?_
                    refine AllReadyH.cons (o := { dst := some 94, op := Op.call { callee := Callee.value (Operand.func 15), args := #[Operand.tmp 93], argTypes := #[25] }, type := 25, pos := "outright.go:277", after := #[{ on := 5, ground := Ground.data }, { on := 1, ground := Ground.chain }], guard := none }) rfl (fun K hK => ?_) AllReadyH.nil
                    go_simp
                    refine (FE.out _ _ _ LD.out (ED.out.later hH.bb)).mono ?_
                    rintro e x5 ⟨ve, rfl, re, bX⟩
                    have orow := orow.later bX
                    have hN := hN.below bX
                    refine hK.out _ _ (hH.later bX) (fun hH => ?_)
                    refine wpAnyH_ready (rs := [7]) (by kernel_rfl) (by simp) ?_
                    refine AllReadyH.cons (o := { dst := some 95, op := Op.call { callee := Callee.value (Operand.func 14), args := #[Operand.tmp 89, Operand.tmp 90, Operand.tmp 94], argTypes := #[24, 29, 25] }, type := 39, pos := "outright.go:277", after := #[{ on := 1, ground := Ground.data }, { on := 2, ground := Ground.data }, { on := 6, ground := Ground.data }, { on := 6, ground := Ground.chain }], guard := none }) rfl (fun K hK => ?_) AllReadyH.nil
                    go_simp
                    refine (RUND.out _ _ _ orow.rd re.rd).mono ?_
                    rintro e x6 ⟨ra, rn, rc, rfl, rrow, bX⟩
                    have orow := orow.later bX
                    have hN := hN.below bX
                    have re := re.later bX
                    have rrow := rrow.mono hH.bb.size
                    refine hK.out _ _ (hH.later bX) (fun hH => ?_)
                    refine wpAnyH_take (i := 8) (oi := { dst := some 87, op := Op.move (Operand.tmp 95), type := 39, pos := "outright.go:277", after := #[{ on := 7, ground := Ground.data }], guard := none }) (v := .tuple #[csV cN, .slice ra rn rc]) rfl (by kernel_rfl) (by kernel_rfl) (by kernel_rfl) (fun _ _ _ h => h) (Or.inl ⟨by rfl, fun w' h => by go_simp⟩) hH ?_
                    try simp only [Act.put, List.setIfInBounds_toArray, List.set_cons_zero, List.set_cons_succ]
                    refine wpAnyH_take (i := 9) (oi := { dst := some 96, op := Op.extract (Operand.tmp 87) 0, type := 29, pos := "outright.go:277", after := #[{ on := 8, ground := Ground.data }], guard := none }) (v := csV cN) rfl (by kernel_rfl) (by kernel_rfl) (by kernel_rfl) (fun _ _ _ h => h) (Or.inl ⟨by rfl, fun w' h => by go_simp⟩) hH ?_
                    try simp only [Act.put, List.setIfInBounds_toArray, List.set_cons_zero, List.set_cons_succ]
                    refine wpAnyH_take (i := 10) (oi := { dst := some 97, op := Op.extract (Operand.tmp 87) 1, type := 22, pos := "outright.go:277", after := #[{ on := 8, ground := Ground.data }, { on := 12, ground := Ground.gcOnly Departure.lateStores }], guard := none }) (v := .slice ra rn rc) rfl (by kernel_rfl) (by kernel_rfl) (by kernel_rfl) (fun _ _ _ h => h) (Or.inl ⟨by rfl, fun w' h => by go_simp⟩) hH ?_
                    try simp only [Act.put, List.setIfInBounds_toArray, List.set_cons_zero, List.set_cons_succ]
                    refine wpAnyH_ready (rs := [12]) (by kernel_rfl) (by simp) ?_
                    refine AllReadyH.cons (o := { dst := none, op := Op.store 29 (Operand.tmp 17) (Operand.tmp 96), type := 0, pos := "outright.go:277", after := #[{ on := 11, ground := Ground.data }, { on := 9, ground := Ground.data }, { on := 7, ground := Ground.chain }, { on := 0, ground := Ground.phase }, { on := 1, ground := Ground.phase }, { on := 2, ground := Ground.phase }, { on := 3, ground := Ground.phase }, { on := 4, ground := Ground.phase }, { on := 5, ground := Ground.phase }, { on := 6, ground := Ground.phase }, { on := 7, ground := Ground.phase }, { on := 8, ground := Ground.phase }, { on := 9, ground := Ground.phase }, { on := 10, ground := Ground.textOnly Departure.lateStores }, { on := 11, ground := Ground.phase }], guard := none }) rfl (fun K hK => ?_) AllReadyH.nil
                    refine op_putC (zs := csL ⟨0, false, 0, 0, 0, 0, 0, 0, 0, 0, 0, 0, 0, 0, 0⟩) (csL cN) rfl (sizeCsL _) (csL_one _) rfl _ _ rfl _ rfl rfl hN ?_
                    intro w9 b9 g9
                    have hZ := hH.grown hN g9 hG hp
                    have PX : Hid (ZZ w l s [(_, cN), (HB, ck), (RB, cN), (CB, cN)] [(.slice ra rn rc, aq), (.slice ha hn hc, ak), (.slice xa xn xc, aN), (va, aN)] w9) := (hZ.addB b9 hp).addR (rowV_blk rrow hN g9 (by decide))
                    refine hK.out _ _ hZ (fun hH => ?_)
                    simp only [Act.put]
                    refine wpAnyH_take (i := 13) (oi := { dst := some 18, op := Op.assign (Operand.tmp 97), type := 22, pos := "outright.go:277", after := #[{ on := 10, ground := Ground.data }, { on := 12, ground := Ground.chain }, { on := 0, ground := Ground.phase }, { on := 1, ground := Ground.phase }, { on := 2, ground := Ground.phase }, { on := 3, ground := Ground.phase }, { on := 4, ground := Ground.phase }, { on := 5, ground := Ground.phase }, { on := 6, ground := Ground.phase }, { on := 7, ground := Ground.phase }, { on := 8, ground := Ground.phase }, { on := 9, ground := Ground.phase }, { on := 10, ground := Ground.phase }, { on := 11, ground := Ground.phase }, { on := 12, ground := Ground.phase }], guard := none }) (v := .slice ra rn rc) rfl (by kernel_rfl) (by kernel_rfl) (by kernel_rfl) (fun _ _ _ h => h) (Or.inl ⟨by rfl, fun w' h => by go_simp⟩) hH ?_
                    try simp only [Act.put, List.setIfInBounds_toArray, List.set_cons_zero, List.set_cons_succ]
                    refine wpAnyH_done (by kernel_rfl) ?_ _
                    clear hH hK b9 g9 hN hZ
                    go_wp2_with fail
                    go_meet
                    case rel => exact ⟨_, _, _, _, rfl, rfl, PX⟩
                · go_simp
                  have hN : Blk wc.drew.heap.size 29 (csL ⟨0, false, 0, 0, 0, 0, 0, 0, 0, 0, 0, 0, 0, 0, 0⟩) (wc.drew.alloc (.cells #[.int .i64 0, .bool false, .int .i64 0, .int .i64 0, .int .i64 0, .int .i64 0, .int .i64 0, .int .i64 0, .int .i64 0, .int .i64 0, .int .i64 0, .int .i64 0, .int .i64 0, .int .i64 0, .int .i64 0] 29)) := Blk.new _ _ _
                  have hG := hH.lts
                  have hp : w.heap.size < wc.drew.heap.size := hH.p.lt
                  refine hK.out _ _ (hH.later (below_alloc _ _)) (fun hH => ?_)
                  refine wpAnyH_ready (rs := [1]) (by kernel_rfl) (by simp) ?_
                  refine AllReadyH.cons (o := { dst := some 89, op := Op.call { callee := Callee.value (Operand.func 12), args := #[Operand.tmp 88], argTypes := #[24] }, type := 24, pos := "outright.go:277", after := #[{ on := 0, ground := Ground.data }], guard := none }) rfl (fun K hK => ?_) AllReadyH.nil
                  go_simp
                  refine (OW.out _ hH.bb).mono ?_
                  rintro e x7 ⟨oa, on, oc, rfl, orow, bX⟩
                  have hN := hN.below bX
                  refine hK.out _ _ (hH.later bX) (fun hH => ?_)
                  refine wpAnyH_ready (rs := [6]) (by kernel_rfl) (by simp) ?_
                  refine AllReadyH.cons (o := { dst := some 94, op := Op.call { callee := Callee.value (Operand.func 15), args := #[Operand.tmp 93], argTypes := #[25] }, type := 25, pos := "outright.go:277", after := #[{ on := 5, ground := Ground.data }, { on := 1, ground := Ground.chain }], guard := none }) rfl (fun K hK => ?_) AllReadyH.nil
                  go_simp
                  refine (FE.out _ _ _ LD.out (ED.out.later hH.bb)).mono ?_
                  rintro e x8 ⟨ve, rfl, re, bX⟩
                  have hN := hN.below bX
                  have orow := orow.later bX
                  refine hK.out _ _ (hH.later bX) (fun hH => ?_)
                  refine wpAnyH_ready (rs := [7]) (by kernel_rfl) (by simp) ?_
                  refine AllReadyH.cons (o := { dst := some 95, op := Op.call { callee := Callee.value (Operand.func 14), args := #[Operand.tmp 89, Operand.tmp 90, Operand.tmp 94], argTypes := #[24, 29, 25] }, type := 39, pos := "outright.go:277", after := #[{ on := 1, ground := Ground.data }, { on := 2, ground := Ground.data }, { on := 6, ground := Ground.data }, { on := 6, ground := Ground.chain }], guard := none }) rfl (fun K hK => ?_) AllReadyH.nil
                  go_simp
                  refine (RUND.out _ _ _ orow.rd re.rd).mono ?_
                  rintro e x9 ⟨ra, rn, rc, rfl, rrow, bX⟩
                  have hN := hN.below bX
                  have orow := orow.later bX
                  have re := re.later bX
                  have rrow := rrow.mono hH.bb.size
                  refine hK.out _ _ (hH.later bX) (fun hH => ?_)
                  refine wpAnyH_take (i := 8) (oi := { dst := some 87, op := Op.move (Operand.tmp 95), type := 39, pos := "outright.go:277", after := #[{ on := 7, ground := Ground.data }], guard := none }) (v := .tuple #[csV cN, .slice ra rn rc]) rfl (by kernel_rfl) (by kernel_rfl) (by kernel_rfl) (fun _ _ _ h => h) (Or.inl ⟨by rfl, fun w' h => by go_simp⟩) hH ?_
                  try simp only [Act.put, List.setIfInBounds_toArray, List.set_cons_zero, List.set_cons_succ]
                  refine wpAnyH_take (i := 9) (oi := { dst := some 96, op := Op.extract (Operand.tmp 87) 0, type := 29, pos := "outright.go:277", after := #[{ on := 8, ground := Ground.data }], guard := none }) (v := csV cN) rfl (by kernel_rfl) (by kernel_rfl) (by kernel_rfl) (fun _ _ _ h => h) (Or.inl ⟨by rfl, fun w' h => by go_simp⟩) hH ?_
                  try simp only [Act.put, List.setIfInBounds_toArray, List.set_cons_zero, List.set_cons_succ]
                  refine wpAnyH_take (i := 10) (oi := { dst := some 97, op := Op.extract (Operand.tmp 87) 1, type := 22, pos := "outright.go:277", after := #[{ on := 8, ground := Ground.data }, { on := 12, ground := Ground.gcOnly Departure.lateStores }], guard := none }) (v := .slice ra rn rc) rfl (by kernel_rfl) (by kernel_rfl) (by kernel_rfl) (fun _ _ _ h => h) (Or.inl ⟨by rfl, fun w' h => by go_simp⟩) hH ?_
                  try simp only [Act.put, List.setIfInBounds_toArray, List.set_cons_zero, List.set_cons_succ]
                  refine wpAnyH_ready (rs := [12]) (by kernel_rfl) (by simp) ?_
                  refine AllReadyH.cons (o := { dst := none, op := Op.store 29 (Operand.tmp 17) (Operand.tmp 96), type := 0, pos := "outright.go:277", after := #[{ on := 11, ground := Ground.data }, { on := 9, ground := Ground.data }, { on := 7, ground := Ground.chain }, { on := 0, ground := Ground.phase }, { on := 1, ground := Ground.phase }, { on := 2, ground := Ground.phase }, { on := 3, ground := Ground.phase }, { on := 4, ground := Ground.phase }, { on := 5, ground := Ground.phase }, { on := 6, ground := Ground.phase }, { on := 7, ground := Ground.phase }, { on := 8, ground := Ground.phase }, { on := 9, ground := Ground.phase }, { on := 10, ground := Ground.textOnly Departure.lateStores }, { on := 11, ground := Ground.phase }], guard := none }) rfl (fun K hK => ?_) AllReadyH.nil
                  refine op_putC (zs := csL ⟨0, false, 0, 0, 0, 0, 0, 0, 0, 0, 0, 0, 0, 0, 0⟩) (csL cN) rfl (sizeCsL _) (csL_one _) rfl _ _ rfl _ rfl rfl hN ?_
                  intro w9 b9 g9
                  have hZ := hH.grown hN g9 hG hp
                  have PX : Hid (ZZ w l s [(_, cN), (HB, ck), (RB, cN), (CB, cN)] [(.slice ra rn rc, aq), (.slice ha hn hc, ak), (.slice xa xn xc, aN), (va, aN)] w9) := (hZ.addB b9 hp).addR (rowV_blk rrow hN g9 (by decide))
                  refine hK.out _ _ hZ (fun hH => ?_)
                  simp only [Act.put]
                  refine wpAnyH_take (i := 13) (oi := { dst := some 18, op := Op.assign (Operand.tmp 97), type := 22, pos := "outright.go:277", after := #[{ on := 10, ground := Ground.data }, { on := 12, ground := Ground.chain }, { on := 0, ground := Ground.phase }, { on := 1, ground := Ground.phase }, { on := 2, ground := Ground.phase }, { on := 3, ground := Ground.phase }, { on := 4, ground := Ground.phase }, { on := 5, ground := Ground.phase }, { on := 6, ground := Ground.phase }, { on := 7, ground := Ground.phase }, { on := 8, ground := Ground.phase }, { on := 9, ground := Ground.phase }, { on := 10, ground := Ground.phase }, { on := 11, ground := Ground.phase }, { on := 12, ground := Ground.phase }], guard := none }) (v := .slice ra rn rc) rfl (by kernel_rfl) (by kernel_rfl) (by kernel_rfl) (fun _ _ _ h => h) (Or.inl ⟨by rfl, fun w' h => by go_simp⟩) hH ?_
                  try simp only [Act.put, List.setIfInBounds_toArray, List.set_cons_zero, List.set_cons_succ]
                  refine wpAnyH_done (by kernel_rfl) ?_ _
                  clear hH hK b9 g9 hN hZ
                  go_wp2_with fail
                  go_meet
                  case rel => exact ⟨_, _, _, _, rfl, rfl, PX⟩
              case rest =>
                obtain ⟨QB, qa, qn, qc, rfl, rfl, SQ⟩ := hcut
                clear SH
                have L0 : ak.length + aq.length = aN.length := by rw [HCAT.out, List.length_append]
                have LA' := LA.out
                have B0 := SQ.out.bb.size
                have A1 : Hid (Rd wc (.slice ha hn hc) (bkL ak)) := (SQ.out.r (.slice ha hn hc, ak) (by simp)).rd
                have L1 : Hid (([] : List Value).length + (bkL ak).length ≤ maxLen) := by show _ ≤ _; rw [bkL_len]; unfold maxLen; simp only [List.length_nil]; omega
                have L2 : Hid ((([] : List Value).length + (bkL ak).length) * 8 ≤ 140737488355328) := by show _ ≤ _; rw [bkL_len]; simp only [List.length_nil]; omega
                go_upto_region 20 with (at_builtin; refine wpList_catS rfl (.tmp 98) (.tmp 99) 22 rfl 3 i0 (.int .i64 0) 8 Try.underlying22 hi0 hz0 hz1 hz2 rfl wc.heap.size _ _ [] (bkL ak) (bkL_one _) rfl (RowV.nil _ _ _) (Nat.le_refl _) rfl A1.out L1.out L2.out ?_; intro a1 n1 k1 y1 r1 g1)
                have Bq : Hid (Below wc.heap.size wc y1) := below_none ⟨g1.os, g1.tape, g1.output, g1.size, fun k hk _ => g1.block k hk (fun e => absurd e.symm (nilOwn k))⟩
                have R1 : Hid (RowV 3 wc.heap.size y1 (.slice a1 n1 k1) (bkL ak)) := r1
                have A2 : Hid (Rd y1 (.slice qa qn qc) (bkL aq)) := (SQ.out.r (.slice qa qn qc, aq) (by simp)).rd.later Bq.out
                clear L1 L2 g1 r1 A1
                have L1 : Hid ((bkL ak).length + (bkL aq).length ≤ maxLen) := by show _ ≤ _; rw [bkL_len, bkL_len]; unfold maxLen; omega
                have L2 : Hid (((bkL ak).length + (bkL aq).length) * 8 ≤ 140737488355328) := by show _ ≤ _; rw [bkL_len, bkL_len]; omega
                clear L0 LA' B0
                go_upto_region 21 with (at_builtin; refine wpList_catS rfl (.tmp 101) (.tmp 102) 22 rfl 3 i0 (.int .i64 0) 8 Try.underlying22 hi0 hz0 hz1 hz2 rfl wc.heap.size _ _ (bkL ak) (bkL aq) (bkL_one _) rfl R1.out Bq.out.size rfl A2.out L1.out L2.out ?_; intro a2 n2 k2 y2 r2 g2)
                have SE : Hid (ZZ w l s [(QB, cN), (HB, ck), (RB, cN), (CB, cN)] [(.slice qa qn qc, aq), (.slice ha hn hc, ak), (.slice xa xn xc, aN), (va, aN)] y2) := SQ.out.later (below_grown Bq.out R1.out (Nat.le_refl _) Bq.out.size g2)
                have R2 : Hid (Rd y2 (.slice a2 n2 k2) (bkL aN)) := by
                  show Rd _ _ _
                  rw [HCAT.out, show bkL (ak ++ aq) = bkL ak ++ bkL aq from by simp [bkL]]; exact r2.rd
                clear SQ Bq R1 A2 L1 L2 g2 r2
                have EQ := cs_eql cN
                go_wp2_with (first
                | ((with_reducible refine at_loadT 29 ?_); refine step_load rfl 29 _ rfl QB 0 rfl (csL cN) _ (Blk.all (SE.out.b (QB, cN) (by simp))) Try.underlying29 rfl (sizeCsL _) ?_)
                | ((with_reducible refine at_loadT 29 ?_); refine step_load rfl 29 _ rfl RB 0 rfl (csL cN) _ (Blk.all (SE.out.b (RB, cN) (by simp))) Try.underlying29 rfl (sizeCsL _) ?_))
                refine (SM.out aN _ _ _ (by have := LA.out; omega) R2.out (SE.out.r (.slice xa xn xc, aN) (by simp)).rd).mono ?_
                rintro e x9 ⟨rfl, b9⟩
                have SF : Hid (ZZ w l s [(QB, cN), (HB, ck), (RB, cN), (CB, cN)] [(.slice qa qn qc, aq), (.slice ha hn hc, ak), (.slice xa xn xc, aN), (va, aN)] x9) := SE.out.later b9
                clear b9 SE R2
                go_wp2_with fail
                go_ret
                exact ⟨rfl, SF.out.bb⟩
end Go.Proofs.Ytmhjghaipfijdab
