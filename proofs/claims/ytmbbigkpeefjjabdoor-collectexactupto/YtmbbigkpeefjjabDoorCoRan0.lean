/-
  Ours: what stands while two events are played at once (gen_coran.py).
-/
import Derived.Test.YtmbbigkpeefjjabDoorCoStd2
import Derived.Test.YtmbbigkpeefjjabDoorCoRun
namespace Go.Proofs.YtmbbigkpeefjjabDoor
open Go.RowKit LedM PolM CoM
theorem KR.later {w w1 w2 : World} {bs : List (Nat × TypeId × List Value)} {v : Value} {a : List Int} (h : KR w bs v a w1) (b : Below w1.heap.size w1 w2) : KR w bs v a w2 := h.call b
theorem KR.drew {w w1 : World} {bs : List (Nat × TypeId × List Value)} {v : Value} {a : List Int} (h : KR w bs v a w1) : KR w bs v a w1.drew := ⟨h.kd.drew, h.r⟩
set_option maxRecDepth 20000 in
set_option maxHeartbeats 8000000 in
theorem rrun_at (l hs : List Int) (s v : Value) (c : Cs) (es : List Ev) (w : World) (hl : l.length = 17) (hr : Rd w s (bkL hs)) (hb : hs.length ≤ 1152921504606846976) (er : RdV w v es) (hE : es.length ≤ 1000)
    (hq : ∀ k, k ≤ es.length → good l hs = true → FQ l (rk l hs c es k).1) :
    Calls Tryd.prog 17 #[PV l s, csV c, v] w (RunAns (rk l hs c es es.length) w) := by
  show Calls _ _ #[.agg (polL l s).toArray, .agg (csL c).toArray, _] _ _
  obtain ⟨i0, hi0, hz0, hz1, hz2⟩ := info_partsC infoInt
  have ST : Hid (∀ k, k ≤ es.length → ∀ w', Below w.heap.size w w' → Calls Tryd.prog 21 #[PV l s, csV (rk l hs c es k).1, evV (eN es k)] w' (StepAns (stepA l hs (rk l hs c es k).1 (eN es k)) w')) := fun k hk w' h => rstep_at l hs s _ _ w' hl (hr.later h) hb (hq k hk)
  have SZ : Hid ((Tryd.prog.info? 24).map (·.size) = some (polL l s).length) := by show _ = _; rw [polL_len hl]; exact sizeP
  have LL : Hid (∀ k, k ≤ es.length → (rk l hs c es k).2.length ≤ 4 * k) := fun k _ => rk_len l hs c es k
  have S0 : Hid (KD w [(w.heap.size, 24, polL l s), (w.heap.size + 1, 27, csL c), (w.heap.size + 1 + 1, 27, csL ⟨0, false, 0, 0, 0, 0, 0, 0, 0, 0, 0, 0, 0, 0, 0⟩)] (((w.alloc (.cells (polL l s).toArray 24)).alloc (.cells (csL c).toArray 27)).alloc (.cells #[.int .i64 0, .bool false, .int .i64 0, .int .i64 0, .int .i64 0, .int .i64 0, .int .i64 0, .int .i64 0, .int .i64 0, .int .i64 0, .int .i64 0, .int .i64 0, .int .i64 0, .int .i64 0, .int .i64 0] 27))) := KD.three w _ _ _ _ _ _
  obtain ⟨ao, cap, rfl, hcap, hno, er'⟩ := er
  obtain ⟨sa, sc, rfl, -, -, -⟩ := hr
  have EC : Hid (∀ k, k < es.length → ∃ g o, ao = some ⟨g, o, none⟩ ∧ g < w.heap.size ∧ w.rangeAt g (o + k * 4) (evL (eN es k))) := er'
  clear hl hb er' hno hcap hq
  generalize (bkL hs).length = sn at *
  generalize hr9 : rk l hs c es es.length = r9 at *
  have HR : Hid (rk l hs c es es.length = r9) := hr9
  clear hr9
  generalize es.length = N at *
  go_enter Tryd.func17, Tryd.ntmps17
  go_upto_region 1 with fail
  generalize ((w.alloc (.cells (polL l (.slice sa sn sc)).toArray 24)).alloc (.cells (csL c).toArray 27)).alloc (.cells #[.int .i64 0, .bool false, .int .i64 0, .int .i64 0, .int .i64 0, .int .i64 0, .int .i64 0, .int .i64 0, .int .i64 0, .int .i64 0, .int .i64 0, .int .i64 0, .int .i64 0, .int .i64 0, .int .i64 0] 27) = w1 at *
  have S1 : Hid (KR w [(w.heap.size, 24, polL l (.slice sa sn sc)), (w.heap.size + 1, 27, csL (rk l hs c es 0).1), (w.heap.size + 1 + 1, 27, csL ⟨0, false, 0, 0, 0, 0, 0, 0, 0, 0, 0, 0, 0, 0, 0⟩)] (.slice none 0 0) (rk l hs c es 0).2 w1) := ⟨S0.out, RowV.nil _ _ _⟩
  clear S0
  go_wp2_with fail
  go_loopw [8, 9, 10, 11, 12] (fun v8 v9 _ _ _ wr => ∃ k : Nat, ∃ va vn vc, v9 = .int .i64 (k : Int) ∧ v8 = .slice va vn vc ∧ k ≤ N ∧ Hid (KR w [(w.heap.size, 24, polL l (.slice sa sn sc)), (w.heap.size + 1, 27, csL (rk l hs c es k).1), (w.heap.size + 1 + 1, 27, csL ⟨0, false, 0, 0, 0, 0, 0, 0, 0, 0, 0, 0, 0, 0, 0⟩)] (.slice va vn vc) (rk l hs c es k).2 wr)) (fun _ v9 _ _ _ _ => N - (intOf v9).toNat)
  case atStart => exact ⟨0, _, _, _, rfl, rfl, by omega, S1⟩
  case round =>
    clear S1
    obtain ⟨k, va, vn, vc, rfl, rfl, hk, SR⟩ := hrel
    by_cases hlt : (k : Int) < (N : Int)
    · obtain ⟨g, o, rfl, lt, rg⟩ := EC.out k (by omega)
      have EV : Hid (∀ w', Below w.heap.size w w' → w'.rangeAt g (o + k * 4) (evL (eN es k))) := fun w' h => range_laterC rg lt h
      clear rg lt EC
      have RK : Hid (rk l hs c es (k + 1) = ((stepA l hs (rk l hs c es k).1 (eN es k)).2.1, (rk l hs c es k).2 ++ (stepA l hs (rk l hs c es k).1 (eN es k)).2.2)) := rfl
      have SK : Hid (∀ w', Below w.heap.size w w' → Calls Tryd.prog 21 #[PV l (.slice sa sn sc), csV (rk l hs c es k).1, evV (eN es k)] w' (StepAns (stepA l hs (rk l hs c es k).1 (eN es k)) w')) := fun w' h => ST.out k (by omega) w' h
      have AL0 := LL.out k (by omega)
      have SL := step_len l hs (rk l hs c es k).1 (eN es k)
      generalize stepA l hs (rk l hs c es k).1 (eN es k) = ans at *
      generalize eN es k = ev at *
      generalize rk l hs c es k = x1 at *
      obtain ⟨c1, a1⟩ := x1
      dsimp only at SR RK SK AL0
      have SR : Hid (KR w [(w.heap.size, 24, polL l (.slice sa sn sc)), (w.heap.size + 1, 27, csL c1), (w.heap.size + 1 + 1, 27, csL ⟨0, false, 0, 0, 0, 0, 0, 0, 0, 0, 0, 0, 0, 0, 0⟩)] (.slice va vn vc) a1 wr) := SR
      go_upto_region 5 with fail
      go_cut [10, 11, 12] from 13 to 33 (fun v10 v11 _ wx => ∃ G ra rn rc, v10 = .pointer (some ⟨G, 0, none⟩) ∧ v11 = .slice ra rn rc ∧ Hid (KR w [(w.heap.size, 24, polL l (.slice sa sn sc)), (w.heap.size + 1, 27, csL c1), (w.heap.size + 1 + 1, 27, csL ⟨0, false, 0, 0, 0, 0, 0, 0, 0, 0, 0, 0, 0, 0, 0⟩)] (.slice va vn vc) a1 wx ∧ Blk G 27 (csL ans.2.1) wx ∧ RowV 3 w.heap.size wx (.slice ra rn rc) (bkL ans.2.2)))
      case first =>
        have hu := Tryd.underlying24
        have hi := SZ.out
        have hu2 := Tryd.underlying27
        have hi2 := sizeCsL c1
        have hu3 := Tryd.underlying37
        have hi3 := sizeEvL ev
        refine wp_region_held_drew (S := fun w' => KR w [(w.heap.size, 24, polL l (.slice sa sn sc)), (w.heap.size + 1, 27, csL c1), (w.heap.size + 1 + 1, 27, csL ⟨0, false, 0, 0, 0, 0, 0, 0, 0, 0, 0, 0, 0, 0, 0⟩)] (.slice va vn vc) a1 w') (by kernel_rfl) (SR.out.drew) (fun hH => ?_)
        refine wpAnyH_take (i := 0) (oi := { dst := some 20, op := Op.load 24 (Operand.tmp 3), type := 24, pos := "arrearsref13.go:287", after := #[], guard := none }) (v := .agg (polL l (.slice sa sn sc)).toArray) rfl (by kernel_rfl) (by kernel_rfl) (by kernel_rfl) (fun _ _ _ h => h) (yieldsIf_load_mid (by rfl) _ _ rfl w.heap.size 0 rfl (polL l (.slice sa sn sc)) _ (fun w' h => (Blk.all (h.kd.at 0 rfl))) hu rfl hi) hH ?_
        try simp only [Act.put, List.setIfInBounds_toArray, List.set_cons_zero, List.set_cons_succ]
        refine wpAnyH_take (i := 1) (oi := { dst := some 21, op := Op.load 27 (Operand.tmp 4), type := 27, pos := "arrearsref13.go:287", after := #[], guard := none }) (v := .agg (csL c1).toArray) rfl (by kernel_rfl) (by kernel_rfl) (by kernel_rfl) (fun _ _ _ h => h) (yieldsIf_load_mid (by rfl) _ _ rfl (w.heap.size + 1) 0 rfl (csL c1) _ (fun w' h => (Blk.all (h.kd.at 1 rfl))) hu2 rfl hi2) hH ?_
        try simp only [Act.put, List.setIfInBounds_toArray, List.set_cons_zero, List.set_cons_succ]
        refine wpAnyH_take (i := 2) (oi := { dst := some 22, op := Op.move (Operand.tmp 2), type := 49, pos := "arrearsref13.go:287", after := #[], guard := none }) (v := .slice (some ⟨g, o, none⟩) N cap) rfl (by kernel_rfl) (by kernel_rfl) (by kernel_rfl) (fun _ _ _ h => h) (Or.inl ⟨by rfl, fun w' h => by go_simp⟩) hH ?_
        try simp only [Act.put, List.setIfInBounds_toArray, List.set_cons_zero, List.set_cons_succ]
        refine wpAnyH_take (i := 3) (oi := { dst := some 23, op := Op.move (Operand.tmp 9), type := 3, pos := "arrearsref13.go:287", after := #[], guard := none }) (v := .int .i64 (k : Int)) rfl (by kernel_rfl) (by kernel_rfl) (by kernel_rfl) (fun _ _ _ h => h) (Or.inl ⟨by rfl, fun w' h => by go_simp⟩) hH ?_
        try simp only [Act.put, List.setIfInBounds_toArray, List.set_cons_zero, List.set_cons_succ]
        refine wpAnyH_take (i := 4) (oi := { dst := some 24, op := Op.indexAddr 49 (Operand.tmp 22) (Operand.tmp 23), type := 0, pos := "arrearsref13.go:287", after := #[{ on := 2, ground := Ground.data }, { on := 3, ground := Ground.data }], guard := none }) (v := .pointer (some ⟨g, o + k * 4, none⟩)) rfl (by kernel_rfl) (by kernel_rfl) (by kernel_rfl) (fun _ _ _ h => h) (Or.inl ⟨by rfl, fun w' h => by go_simp⟩) hH ?_
        try simp only [Act.put, List.setIfInBounds_toArray, List.set_cons_zero, List.set_cons_succ]
        refine wpAnyH_take (i := 5) (oi := { dst := some 25, op := Op.load 37 (Operand.tmp 24), type := 37, pos := "arrearsref13.go:287", after := #[{ on := 4, ground := Ground.data }], guard := none }) (v := .agg (evL ev).toArray) rfl (by kernel_rfl) (by kernel_rfl) (by kernel_rfl) (fun _ _ _ h => h) (yieldsIf_load_mid (by rfl) _ _ rfl g (o + k * 4) rfl (evL ev) _ (fun w' h => EV.out _ h.kd.bb) hu3 rfl hi3) hH ?_
        try simp only [Act.put, List.setIfInBounds_toArray, List.set_cons_zero, List.set_cons_succ]
        refine wpAnyH_ready (rs := [6, 11]) (by kernel_rfl) (by simp) ?_
        refine AllReadyH.cons (o := { dst := some 26, op := Op.call { callee := Callee.value (Operand.func 21), args := #[Operand.tmp 20, Operand.tmp 21, Operand.tmp 25], argTypes := #[24, 27, 37] }, type := 58, pos := "arrearsref13.go:287", after := #[{ on := 0, ground := Ground.data }, { on := 1, ground := Ground.data }, { on := 5, ground := Ground.data }], guard := none }) rfl (fun K hK => ?_) (AllReadyH.cons (o := { dst := some 10, op := Op.alloc 27, type := 0, pos := "arrearsref13.go:287", after := #[], guard := none }) rfl (fun K hK => ?_) AllReadyH.nil)
        · go_simp
          refine (SK.out _ hH.kd.bb).mono ?_
          rintro e x1 ⟨ra, rn, rc, rfl, rrow, bX⟩
          have rrow := rrow.mono hH.kd.bb.size
          refine hK.out _ _ (hH.later bX) (fun hH => ?_)
          refine wpAnyH_take (i := 7) (oi := { dst := some 19, op := Op.move (Operand.tmp 26), type := 58, pos := "arrearsref13.go:287", after := #[{ on := 6, ground := Ground.data }], guard := none }) (v := .tuple #[csV ans.2.1, .slice ra rn rc, .int .i64 ans.1]) rfl (by kernel_rfl) (by kernel_rfl) (by kernel_rfl) (fun _ _ _ h => h) (Or.inl ⟨by rfl, fun w' h => by go_simp⟩) hH ?_
          try simp only [Act.put, List.setIfInBounds_toArray, List.set_cons_zero, List.set_cons_succ]
          refine wpAnyH_take (i := 8) (oi := { dst := some 27, op := Op.extract (Operand.tmp 19) 0, type := 27, pos := "arrearsref13.go:287", after := #[{ on := 7, ground := Ground.data }], guard := none }) (v := csV ans.2.1) rfl (by kernel_rfl) (by kernel_rfl) (by kernel_rfl) (fun _ _ _ h => h) (Or.inl ⟨by rfl, fun w' h => by go_simp⟩) hH ?_
          try simp only [Act.put, List.setIfInBounds_toArray, List.set_cons_zero, List.set_cons_succ]
          refine wpAnyH_take (i := 9) (oi := { dst := some 28, op := Op.extract (Operand.tmp 19) 1, type := 22, pos := "arrearsref13.go:287", after := #[{ on := 7, ground := Ground.data }, { on := 12, ground := Ground.gcOnly Departure.lateStores }], guard := none }) (v := .slice ra rn rc) rfl (by kernel_rfl) (by kernel_rfl) (by kernel_rfl) (fun _ _ _ h => h) (Or.inl ⟨by rfl, fun w' h => by go_simp⟩) hH ?_
          try simp only [Act.put, List.setIfInBounds_toArray, List.set_cons_zero, List.set_cons_succ]
          refine wpAnyH_take (i := 10) (oi := { dst := some 29, op := Op.extract (Operand.tmp 19) 2, type := 3, pos := "arrearsref13.go:287", after := #[{ on := 7, ground := Ground.data }, { on := 13, ground := Ground.gcOnly Departure.lateStores }], guard := none }) (v := .int .i64 ans.1) rfl (by kernel_rfl) (by kernel_rfl) (by kernel_rfl) (fun _ _ _ h => h) (Or.inl ⟨by rfl, fun w' h => by go_simp⟩) hH ?_
          try simp only [Act.put, List.setIfInBounds_toArray, List.set_cons_zero, List.set_cons_succ]
          refine wpAnyH_ready (rs := [11]) (by kernel_rfl) (by simp) ?_
          refine AllReadyH.cons (o := { dst := some 10, op := Op.alloc 27, type := 0, pos := "arrearsref13.go:287", after := #[], guard := none }) rfl (fun K hK => ?_) AllReadyH.nil
          go_simp
          have hN : Blk x1.heap.size 27 (csL ⟨0, false, 0, 0, 0, 0, 0, 0, 0, 0, 0, 0, 0, 0, 0⟩) (x1.alloc (.cells #[.int .i64 0, .bool false, .int .i64 0, .int .i64 0, .int .i64 0, .int .i64 0, .int .i64 0, .int .i64 0, .int .i64 0, .int .i64 0, .int .i64 0, .int .i64 0, .int .i64 0, .int .i64 0, .int .i64 0] 27)) := Blk.new _ _ _
          have hG := hH.kd.bb.size
          have hdq : wr.drew.heap.size = wr.heap.size := rfl
          have hlt : ∀ (k : Nat) (q : Nat × TypeId × List Value), [(w.heap.size, 24, polL l (.slice sa sn sc)), (w.heap.size + 1, 27, csL c1), (w.heap.size + 1 + 1, 27, csL ⟨0, false, 0, 0, 0, 0, 0, 0, 0, 0, 0, 0, 0, 0, 0⟩)][k]? = some q → q.1 < x1.heap.size := fun k q hq => hH.kd.lt k hq
          have rrow := rrow.later (below_alloc x1 (.cells #[.int .i64 0, .bool false, .int .i64 0, .int .i64 0, .int .i64 0, .int .i64 0, .int .i64 0, .int .i64 0, .int .i64 0, .int .i64 0, .int .i64 0, .int .i64 0, .int .i64 0, .int .i64 0, .int .i64 0] 27))
          refine hK.out _ _ (hH.later (below_alloc _ _)) (fun hH => ?_)
          refine wpAnyH_ready (rs := [12]) (by kernel_rfl) (by simp) ?_
          refine AllReadyH.cons (o := { dst := none, op := Op.store 27 (Operand.tmp 10) (Operand.tmp 27), type := 0, pos := "arrearsref13.go:287", after := #[{ on := 11, ground := Ground.data }, { on := 8, ground := Ground.data }, { on := 6, ground := Ground.chain }, { on := 0, ground := Ground.phase }, { on := 1, ground := Ground.phase }, { on := 2, ground := Ground.phase }, { on := 3, ground := Ground.phase }, { on := 4, ground := Ground.phase }, { on := 5, ground := Ground.phase }, { on := 6, ground := Ground.phase }, { on := 7, ground := Ground.phase }, { on := 8, ground := Ground.phase }, { on := 9, ground := Ground.textOnly Departure.lateStores }, { on := 10, ground := Ground.textOnly Departure.lateStores }, { on := 11, ground := Ground.phase }], guard := none }) rfl (fun K hK => ?_) AllReadyH.nil
          refine op_putC (zs := csL ⟨0, false, 0, 0, 0, 0, 0, 0, 0, 0, 0, 0, 0, 0, 0⟩) (csL ans.2.1) rfl (sizeCsL _) (csL_one _) rfl _ _ rfl _ rfl rfl hN ?_
          intro w9 b9 g9
          have hZ : KR w [(w.heap.size, 24, polL l (.slice sa sn sc)), (w.heap.size + 1, 27, csL c1), (w.heap.size + 1 + 1, 27, csL ⟨0, false, 0, 0, 0, 0, 0, 0, 0, 0, 0, 0, 0, 0, 0⟩)] (.slice va vn vc) a1 w9 := ⟨⟨hH.kd.bb.grown g9 hH.kd.bb.size (fun x e => by injection e with e; omega), fun k q hq => ⟨(hH.kd.bk k q hq).1, (hH.kd.bk k q hq).2.grown g9 (fun e => by injection e with e; have := hlt k q hq; omega)⟩, hH.kd.nd⟩, rowV_blk hH.r hN g9 int_ne_case⟩
          have PX : Hid (KR w [(w.heap.size, 24, polL l (.slice sa sn sc)), (w.heap.size + 1, 27, csL c1), (w.heap.size + 1 + 1, 27, csL ⟨0, false, 0, 0, 0, 0, 0, 0, 0, 0, 0, 0, 0, 0, 0⟩)] (.slice va vn vc) a1 w9 ∧ Blk _ 27 (csL ans.2.1) w9 ∧ RowV 3 w.heap.size w9 (.slice ra rn rc) (bkL ans.2.2)) := ⟨hZ, b9, rowV_blk rrow hN g9 int_ne_case⟩
          refine hK.out _ _ hZ (fun hH => ?_)
          simp only [Act.put]
          refine wpAnyH_take (i := 13) (oi := { dst := some 11, op := Op.assign (Operand.tmp 28), type := 22, pos := "arrearsref13.go:287", after := #[{ on := 9, ground := Ground.data }, { on := 12, ground := Ground.chain }, { on := 0, ground := Ground.phase }, { on := 1, ground := Ground.phase }, { on := 2, ground := Ground.phase }, { on := 3, ground := Ground.phase }, { on := 4, ground := Ground.phase }, { on := 5, ground := Ground.phase }, { on := 6, ground := Ground.phase }, { on := 7, ground := Ground.phase }, { on := 8, ground := Ground.phase }, { on := 9, ground := Ground.phase }, { on := 10, ground := Ground.textOnly Departure.lateStores }, { on := 11, ground := Ground.phase }, { on := 12, ground := Ground.phase }], guard := none }) (v := .slice ra rn rc) rfl (by kernel_rfl) (by kernel_rfl) (by kernel_rfl) (fun _ _ _ h => h) (Or.inl ⟨by rfl, fun w' h => by go_simp⟩) hH ?_
          try simp only [Act.put, List.setIfInBounds_toArray, List.set_cons_zero, List.set_cons_succ]
          refine wpAnyH_take (i := 14) (oi := { dst := some 12, op := Op.assign (Operand.tmp 29), type := 3, pos := "arrearsref13.go:287", after := #[{ on := 10, ground := Ground.data }, { on := 13, ground := Ground.chain }, { on := 0, ground := Ground.phase }, { on := 1, ground := Ground.phase }, { on := 2, ground := Ground.phase }, { on := 3, ground := Ground.phase }, { on := 4, ground := Ground.phase }, { on := 5, ground := Ground.phase }, { on := 6, ground := Ground.phase }, { on := 7, ground := Ground.phase }, { on := 8, ground := Ground.phase }, { on := 9, ground := Ground.phase }, { on := 10, ground := Ground.phase }, { on := 11, ground := Ground.phase }, { on := 12, ground := Ground.phase }, { on := 13, ground := Ground.phase }], guard := none }) (v := .int .i64 ans.1) rfl (by kernel_rfl) (by kernel_rfl) (by kernel_rfl) (fun _ _ _ h => h) (Or.inl ⟨by rfl, fun w' h => by go_simp⟩) hH ?_
          try simp only [Act.put, List.setIfInBounds_toArray, List.set_cons_zero, List.set_cons_succ]
          refine wpAnyH_done (by kernel_rfl) ?_ _
          clear hH hK b9 g9 hN hZ
          go_wp2_with fail
          go_meet
          case rel => exact ⟨_, _, _, _, rfl, rfl, PX⟩
        · go_simp
          have hN : Blk wr.drew.heap.size 27 (csL ⟨0, false, 0, 0, 0, 0, 0, 0, 0, 0, 0, 0, 0, 0, 0⟩) (wr.drew.alloc (.cells #[.int .i64 0, .bool false, .int .i64 0, .int .i64 0, .int .i64 0, .int .i64 0, .int .i64 0, .int .i64 0, .int .i64 0, .int .i64 0, .int .i64 0, .int .i64 0, .int .i64 0, .int .i64 0, .int .i64 0] 27)) := Blk.new _ _ _
          have hG := hH.kd.bb.size
          have hdq : wr.drew.heap.size = wr.heap.size := rfl
          have hlt : ∀ (k : Nat) (q : Nat × TypeId × List Value), [(w.heap.size, 24, polL l (.slice sa sn sc)), (w.heap.size + 1, 27, csL c1), (w.heap.size + 1 + 1, 27, csL ⟨0, false, 0, 0, 0, 0, 0, 0, 0, 0, 0, 0, 0, 0, 0⟩)][k]? = some q → q.1 < wr.drew.heap.size := fun k q hq => hH.kd.lt k hq
          refine hK.out _ _ (hH.later (below_alloc _ _)) (fun hH => ?_)
          refine wpAnyH_ready (rs := [6]) (by kernel_rfl) (by simp) ?_
          refine AllReadyH.cons (o := { dst := some 26, op := Op.call { callee := Callee.value (Operand.func 21), args := #[Operand.tmp 20, Operand.tmp 21, Operand.tmp 25], argTypes := #[24, 27, 37] }, type := 58, pos := "arrearsref13.go:287", after := #[{ on := 0, ground := Ground.data }, { on := 1, ground := Ground.data }, { on := 5, ground := Ground.data }], guard := none }) rfl (fun K hK => ?_) AllReadyH.nil
          go_simp
          refine (SK.out _ hH.kd.bb).mono ?_
          rintro e x2 ⟨ra, rn, rc, rfl, rrow, bX⟩
          have hN := hN.below bX
          have rrow := rrow.mono hH.kd.bb.size
          refine hK.out _ _ (hH.later bX) (fun hH => ?_)
          refine wpAnyH_take (i := 7) (oi := { dst := some 19, op := Op.move (Operand.tmp 26), type := 58, pos := "arrearsref13.go:287", after := #[{ on := 6, ground := Ground.data }], guard := none }) (v := .tuple #[csV ans.2.1, .slice ra rn rc, .int .i64 ans.1]) rfl (by kernel_rfl) (by kernel_rfl) (by kernel_rfl) (fun _ _ _ h => h) (Or.inl ⟨by rfl, fun w' h => by go_simp⟩) hH ?_
          try simp only [Act.put, List.setIfInBounds_toArray, List.set_cons_zero, List.set_cons_succ]
          refine wpAnyH_take (i := 8) (oi := { dst := some 27, op := Op.extract (Operand.tmp 19) 0, type := 27, pos := "arrearsref13.go:287", after := #[{ on := 7, ground := Ground.data }], guard := none }) (v := csV ans.2.1) rfl (by kernel_rfl) (by kernel_rfl) (by kernel_rfl) (fun _ _ _ h => h) (Or.inl ⟨by rfl, fun w' h => by go_simp⟩) hH ?_
          try simp only [Act.put, List.setIfInBounds_toArray, List.set_cons_zero, List.set_cons_succ]
          refine wpAnyH_take (i := 9) (oi := { dst := some 28, op := Op.extract (Operand.tmp 19) 1, type := 22, pos := "arrearsref13.go:287", after := #[{ on := 7, ground := Ground.data }, { on := 12, ground := Ground.gcOnly Departure.lateStores }], guard := none }) (v := .slice ra rn rc) rfl (by kernel_rfl) (by kernel_rfl) (by kernel_rfl) (fun _ _ _ h => h) (Or.inl ⟨by rfl, fun w' h => by go_simp⟩) hH ?_
          try simp only [Act.put, List.setIfInBounds_toArray, List.set_cons_zero, List.set_cons_succ]
          refine wpAnyH_take (i := 10) (oi := { dst := some 29, op := Op.extract (Operand.tmp 19) 2, type := 3, pos := "arrearsref13.go:287", after := #[{ on := 7, ground := Ground.data }, { on := 13, ground := Ground.gcOnly Departure.lateStores }], guard := none }) (v := .int .i64 ans.1) rfl (by kernel_rfl) (by kernel_rfl) (by kernel_rfl) (fun _ _ _ h => h) (Or.inl ⟨by rfl, fun w' h => by go_simp⟩) hH ?_
          try simp only [Act.put, List.setIfInBounds_toArray, List.set_cons_zero, List.set_cons_succ]
          refine wpAnyH_ready (rs := [12]) (by kernel_rfl) (by simp) ?_
          refine AllReadyH.cons (o := { dst := none, op := Op.store 27 (Operand.tmp 10) (Operand.tmp 27), type := 0, pos := "arrearsref13.go:287", after := #[{ on := 11, ground := Ground.data }, { on := 8, ground := Ground.data }, { on := 6, ground := Ground.chain }, { on := 0, ground := Ground.phase }, { on := 1, ground := Ground.phase }, { on := 2, ground := Ground.phase }, { on := 3, ground := Ground.phase }, { on := 4, ground := Ground.phase }, { on := 5, ground := Ground.phase }, { on := 6, ground := Ground.phase }, { on := 7, ground := Ground.phase }, { on := 8, ground := Ground.phase }, { on := 9, ground := Ground.textOnly Departure.lateStores }, { on := 10, ground := Ground.textOnly Departure.lateStores }, { on := 11, ground := Ground.phase }], guard := none }) rfl (fun K hK => ?_) AllReadyH.nil
          refine op_putC (zs := csL ⟨0, false, 0, 0, 0, 0, 0, 0, 0, 0, 0, 0, 0, 0, 0⟩) (csL ans.2.1) rfl (sizeCsL _) (csL_one _) rfl _ _ rfl _ rfl rfl hN ?_
          intro w9 b9 g9
          have hZ : KR w [(w.heap.size, 24, polL l (.slice sa sn sc)), (w.heap.size + 1, 27, csL c1), (w.heap.size + 1 + 1, 27, csL ⟨0, false, 0, 0, 0, 0, 0, 0, 0, 0, 0, 0, 0, 0, 0⟩)] (.slice va vn vc) a1 w9 := ⟨⟨hH.kd.bb.grown g9 hH.kd.bb.size (fun x e => by injection e with e; omega), fun k q hq => ⟨(hH.kd.bk k q hq).1, (hH.kd.bk k q hq).2.grown g9 (fun e => by injection e with e; have := hlt k q hq; omega)⟩, hH.kd.nd⟩, rowV_blk hH.r hN g9 int_ne_case⟩
          have PX : Hid (KR w [(w.heap.size, 24, polL l (.slice sa sn sc)), (w.heap.size + 1, 27, csL c1), (w.heap.size + 1 + 1, 27, csL ⟨0, false, 0, 0, 0, 0, 0, 0, 0, 0, 0, 0, 0, 0, 0⟩)] (.slice va vn vc) a1 w9 ∧ Blk _ 27 (csL ans.2.1) w9 ∧ RowV 3 w.heap.size w9 (.slice ra rn rc) (bkL ans.2.2)) := ⟨hZ, b9, rowV_blk rrow hN g9 int_ne_case⟩
          refine hK.out _ _ hZ (fun hH => ?_)
          simp only [Act.put]
          refine wpAnyH_take (i := 13) (oi := { dst := some 11, op := Op.assign (Operand.tmp 28), type := 22, pos := "arrearsref13.go:287", after := #[{ on := 9, ground := Ground.data }, { on := 12, ground := Ground.chain }, { on := 0, ground := Ground.phase }, { on := 1, ground := Ground.phase }, { on := 2, ground := Ground.phase }, { on := 3, ground := Ground.phase }, { on := 4, ground := Ground.phase }, { on := 5, ground := Ground.phase }, { on := 6, ground := Ground.phase }, { on := 7, ground := Ground.phase }, { on := 8, ground := Ground.phase }, { on := 9, ground := Ground.phase }, { on := 10, ground := Ground.textOnly Departure.lateStores }, { on := 11, ground := Ground.phase }, { on := 12, ground := Ground.phase }], guard := none }) (v := .slice ra rn rc) rfl (by kernel_rfl) (by kernel_rfl) (by kernel_rfl) (fun _ _ _ h => h) (Or.inl ⟨by rfl, fun w' h => by go_simp⟩) hH ?_
          try simp only [Act.put, List.setIfInBounds_toArray, List.set_cons_zero, List.set_cons_succ]
          refine wpAnyH_take (i := 14) (oi := { dst := some 12, op := Op.assign (Operand.tmp 29), type := 3, pos := "arrearsref13.go:287", after := #[{ on := 10, ground := Ground.data }, { on := 13, ground := Ground.chain }, { on := 0, ground := Ground.phase }, { on := 1, ground := Ground.phase }, { on := 2, ground := Ground.phase }, { on := 3, ground := Ground.phase }, { on := 4, ground := Ground.phase }, { on := 5, ground := Ground.phase }, { on := 6, ground := Ground.phase }, { on := 7, ground := Ground.phase }, { on := 8, ground := Ground.phase }, { on := 9, ground := Ground.phase }, { on := 10, ground := Ground.phase }, { on := 11, ground := Ground.phase }, { on := 12, ground := Ground.phase }, { on := 13, ground := Ground.phase }], guard := none }) (v := .int .i64 ans.1) rfl (by kernel_rfl) (by kernel_rfl) (by kernel_rfl) (fun _ _ _ h => h) (Or.inl ⟨by rfl, fun w' h => by go_simp⟩) hH ?_
          try simp only [Act.put, List.setIfInBounds_toArray, List.set_cons_zero, List.set_cons_succ]
          refine wpAnyH_done (by kernel_rfl) ?_ _
          clear hH hK b9 g9 hN hZ
          go_wp2_with fail
          go_meet
          case rel => exact ⟨_, _, _, _, rfl, rfl, PX⟩
      case rest =>
        obtain ⟨G, ra, rn, rc, rfl, rfl, SX⟩ := hcut
        clear SR
        go_upto_region 7 with (first
        | ((with_reducible refine at_loadT 27 ?_); refine step_load rfl 27 _ rfl G 0 rfl (csL ans.2.1) _ (Blk.all SX.out.2.1) Tryd.underlying27 rfl (sizeCsL _) ?_)
        | ((with_reducible refine at_store ?_); refine step_store rfl 27 _ _ rfl (w.heap.size + 1) 0 27 (csL c1) (csL ans.2.1) rfl rfl (SX.out.1.kd.at 1 rfl) (Nat.le_refl 15) (sizeCsL _) (csL_one _) ?_; intro w5 n5 g5))
        have S5 : Hid (KR w [(w.heap.size, 24, polL l (.slice sa sn sc)), (w.heap.size + 1, 27, csL ans.2.1), (w.heap.size + 1 + 1, 27, csL ⟨0, false, 0, 0, 0, 0, 0, 0, 0, 0, 0, 0, 0, 0, 0⟩)] (.slice va vn vc) a1 w5 ∧ RowV 3 w.heap.size w5 (.slice ra rn rc) (bkL ans.2.2)) := ⟨SX.out.1.store 1 rfl int_ne_case n5 g5, rowV_blk SX.out.2.2 (SX.out.1.kd.at 1 rfl) g5 int_ne_case⟩
        clear SX n5 g5
        have L1 : Hid ((bkL a1).length + (bkL ans.2.2).length ≤ maxLen) := by show _ ≤ _; rw [bkL_len, bkL_len]; unfold maxLen; omega
        have L2 : Hid (((bkL a1).length + (bkL ans.2.2).length) * 8 ≤ 140737488355328) := by show _ ≤ _; rw [bkL_len, bkL_len]; omega
        have hk2 : k ≤ 1000 := by omega
        clear AL0 SL
        go_wp2_with (at_builtin; refine wpList_catS rfl (.tmp 31) (.tmp 32) 22 rfl 3 i0 (.int .i64 0) 8 Tryd.underlying22 hi0 hz0 hz1 hz2 rfl w.heap.size _ _ (bkL a1) (bkL ans.2.2) (bkL_one _) rfl S5.out.1.r S5.out.1.kd.bb.size rfl S5.out.2.rd L1.out L2.out ?_; intro ka kn kc wk rk' gk)
        have S6 : Hid (KR w [(w.heap.size, 24, polL l (.slice sa sn sc)), (w.heap.size + 1, 27, csL ans.2.1), (w.heap.size + 1 + 1, 27, csL ⟨0, false, 0, 0, 0, 0, 0, 0, 0, 0, 0, 0, 0, 0, 0⟩)] (.slice ka kn kc) (a1 ++ ans.2.2) wk) := S5.out.1.row (fun k q hq => by rcases k with _ | k; (· cases hq; first | exact int_ne_case | exact int_ne_pol); rcases k with _ | k; (· cases hq; first | exact int_ne_case | exact int_ne_pol); rcases k with _ | k; (· cases hq; first | exact int_ne_case | exact int_ne_pol); cases hq) gk (by rw [show bkL (a1 ++ ans.2.2) = bkL a1 ++ bkL ans.2.2 from by simp [bkL]]; exact rk')
        clear rk' gk S5 L1 L2
        go_roundw
        case rel => exact ⟨k + 1, ka, kn, kc, by go_num, rfl, by omega, by rw [RK.out]; exact S6⟩
        case measure => simp [intOf]; omega
    · obtain rfl : k = N := by omega
      rw [HR.out] at SR
      clear ST LL EC HR
      obtain ⟨c9, a9⟩ := r9
      have SR : Hid (KR w [(w.heap.size, 24, polL l (.slice sa sn sc)), (w.heap.size + 1, 27, csL c9), (w.heap.size + 1 + 1, 27, csL ⟨0, false, 0, 0, 0, 0, 0, 0, 0, 0, 0, 0, 0, 0, 0⟩)] (.slice va vn vc) a9 wr) := SR
      go_wp2_with (first
      | ((with_reducible refine at_loadT 27 ?_); refine step_load rfl 27 _ rfl (w.heap.size + 1) 0 rfl (csL c9) _ (Blk.all (SR.out.kd.at 1 rfl)) Tryd.underlying27 rfl (sizeCsL _) ?_)
      | ((with_reducible refine at_store ?_); refine step_store rfl 27 _ _ rfl (w.heap.size + 1 + 1) 0 27 (csL ⟨0, false, 0, 0, 0, 0, 0, 0, 0, 0, 0, 0, 0, 0, 0⟩) (csL c9) rfl rfl (SR.out.kd.at 2 rfl) (Nat.le_refl 15) (sizeCsL _) (csL_one _) ?_; intro wz nz gz))
      refine ret_blk_tmp rfl rfl (w.heap.size + 1 + 1) 27 (csL c9) _ rfl nz Tryd.underlying27 rfl (sizeCsL _) ?_
      exact ⟨_, _, _, rfl, (rowV_blk SR.out.r (SR.out.kd.at 2 rfl) gz int_ne_case), (SR.out.kd.store 2 rfl nz gz).bb⟩
end Go.Proofs.YtmbbigkpeefjjabDoor

namespace Go.Proofs.YtmbbigkpeefjjabDoor
open Go.RowKit LedM PolM CoM
theorem sl_ne_ev : (22 : TypeId) ≠ 37 := by decide
theorem sh_ne_ev : (35 : TypeId) ≠ 37 := by decide
theorem sl_ne_case : (22 : TypeId) ≠ 27 := by decide
theorem sh_ne_case : (35 : TypeId) ≠ 27 := by decide
section
variable {w0 w w1 w2 : World} {bs : List (Nat × TypeId × List Value)} {SB : Nat} {vL vG : Value} {vs us : List Value} {t x y z v : Value} {ht hx hy hz a : List Int} {q : Nat × TypeId × List Value} {cs : List Value} {G : Nat}
theorem SD.drew (h : SD w0 w bs SB vL vG vs us t x y z ht hx hy hz w1) : SD w0 w bs SB vL vG vs us t x y z ht hx hy hz w1.drew := h.later (below_drw _)
theorem SD.dropZ (h : SD w0 w bs SB vL vG vs us t x y z ht hx hy hz w1) : SD w0 w bs SB vL vG vs us t x y (.slice none 0 0) ht hx hy [] w1 := ⟨h.kd, h.sh, h.rt, h.rx, h.ry, RowV.nil _ _ _, h.tx, h.ty, h.xy, Apt.nil _, Apt.nil _, h.ft, h.fx, h.fy, h.kp⟩
theorem SD.mkX (h : SD w0 w bs SB vL vG vs us t (.slice none 0 0) (.slice none 0 0) (.slice none 0 0) ht [] [] [] w1) (r : RowV 3 w0.heap.size w1 v (bkL a)) (tx : Apt v t) (f : Far v vs us) : SD w0 w bs SB vL vG vs us t v (.slice none 0 0) (.slice none 0 0) ht a [] [] w1 := ⟨h.kd, h.sh, h.rt, r, h.ry, h.rz, tx, h.ty, Apt.nil _, Apt.nil _, h.yz, h.ft, f, h.fy, h.kp⟩
theorem SD.mkY (h : SD w0 w bs SB vL vG vs us t x (.slice none 0 0) (.slice none 0 0) ht hx [] [] w1) (r : RowV 3 w0.heap.size w1 v (bkL a)) (ty : Apt v t) (xy : Apt x v) (f : Far v vs us) : SD w0 w bs SB vL vG vs us t x v (.slice none 0 0) ht hx a [] w1 := ⟨h.kd, h.sh, h.rt, h.rx, r, h.rz, h.tx, ty, xy, Apt.nil _, Apt.nil _, h.ft, h.fx, f, h.kp⟩
theorem SD.mkZ (h : SD w0 w bs SB vL vG vs us t x y (.slice none 0 0) ht hx hy [] w1) (r : RowV 3 w0.heap.size w1 v (bkL a)) (xz : Apt x v) (yz : Apt y v) : SD w0 w bs SB vL vG vs us t x y v ht hx hy a w1 := ⟨h.kd, h.sh, h.rt, h.rx, h.ry, r, h.tx, h.ty, h.xy, xz, yz, h.ft, h.fx, h.fy, h.kp⟩
theorem SD.addN (h : SD w0 w bs SB vL vG vs us t x y z ht hx hy hz w1) {T : TypeId} {o : Obj} (nb : Blk w1.heap.size T cs (w1.alloc o)) : SD w0 w (bs ++ [(w1.heap.size, T, cs)]) SB vL vG vs us t x y z ht hx hy hz (w1.alloc o) :=
  h.addB nb (grownBy_refl _ _)
theorem KD.addG (h : KD w0 bs w1) {T : TypeId} {zs : List Value} (_hN : Blk G T zs w1) (hne : ∀ (k : Nat) (q : Nat × TypeId × List Value), bs[k]? = some q → q.1 ≠ G) (hge : w0.heap.size ≤ G) (nb : Blk G T cs w2) (g : w1.grownBy w2 (some G)) : KD w0 (bs ++ [(G, T, cs)]) w2 := by
  refine ⟨h.bb.grown g h.bb.size (fun x e => by injection e with e; omega), fun k q hq => ?_, fun j k q q' hq hq' e => ?_⟩
  · by_cases hk : k < bs.length
    · rw [List.getElem?_append_left hk] at hq
      exact ⟨(h.bk k q hq).1, (h.bk k q hq).2.grown g (fun e => by injection e with e; exact hne k q hq e.symm)⟩
    · rw [List.getElem?_append_right (by omega)] at hq
      obtain ⟨hh, rfl⟩ : k - bs.length = 0 ∧ (G, T, cs) = q := by
        cases hd : k - bs.length with
        | zero => rw [hd] at hq; simpa using hq
        | succ m => rw [hd] at hq; simp at hq
      exact ⟨hge, nb⟩
  · have key : ∀ (j : Nat) (q : Nat × TypeId × List Value), (bs ++ [(G, T, cs)])[j]? = some q → (j < bs.length ∧ q.1 ≠ G ∧ bs[j]? = some q) ∨ (j = bs.length ∧ q.1 = G) := fun j q hq => by
      by_cases hk : j < bs.length
      · rw [List.getElem?_append_left hk] at hq
        exact .inl ⟨hk, hne j q hq, hq⟩
      · rw [List.getElem?_append_right (by omega)] at hq
        cases hd : j - bs.length with
        | zero => rw [hd] at hq; simp at hq; exact .inr ⟨by omega, by rw [← hq]⟩
        | succ m => rw [hd] at hq; simp at hq
    rcases key j q hq with ⟨_, n1, b1⟩ | ⟨e1, s1⟩
    · rcases key k q' hq' with ⟨_, n2, b2⟩ | ⟨e2, s2⟩
      · exact h.nd j k q q' b1 b2 e
      · exact absurd (e.trans s2) n1
    · rcases key k q' hq' with ⟨_, n2, b2⟩ | ⟨e2, s2⟩
      · exact absurd (e.symm.trans s1) n2
      · omega
/-- Another block is written, of a type of its own. -/
theorem SD.oth (h : SD w0 w bs SB vL vG vs us t x y z ht hx hy hz w1) {zs : List Value} (hN : Blk G 27 zs w1) (hne : ∀ (k : Nat) (q : Nat × TypeId × List Value), bs[k]? = some q → q.1 ≠ G) (hge : w0.heap.size ≤ G) (hw : w.heap.size < G) (g : w1.grownBy w2 (some G)) : SD w0 w bs SB vL vG vs us t x y z ht hx hy hz w2 :=
  ⟨⟨h.kd.bb.grown g h.kd.bb.size (fun x e => by injection e with e; omega), fun k q hq => ⟨(h.kd.bk k q hq).1, (h.kd.bk k q hq).2.grown g (fun e => by injection e with e; exact hne k q hq e.symm)⟩, h.kd.nd⟩, h.sh.other hN g int_ne_case sl_ne_case sh_ne_case, rowV_blk h.rt hN g int_ne_case, rowV_blk h.rx hN g int_ne_case, rowV_blk h.ry hN g int_ne_case, rowV_blk h.rz hN g int_ne_case, h.tx, h.ty, h.xy, h.xz, h.yz, h.ft, h.fx, h.fy, fun G' T cs a1 a2 a3 a4 => (h.kp G' T cs a1 a2 a3 a4).grown g (fun e => by injection e with e; have := a4.lt; omega)⟩
theorem SD.addG (h : SD w0 w bs SB vL vG vs us t x y z ht hx hy hz w1) {zs : List Value} (hN : Blk G 27 zs w1) (hne : ∀ (k : Nat) (q : Nat × TypeId × List Value), bs[k]? = some q → q.1 ≠ G) (hge : w0.heap.size ≤ G) (hw : w.heap.size < G) (nb : Blk G 27 cs w2) (g : w1.grownBy w2 (some G)) : SD w0 w (bs ++ [(G, 27, cs)]) SB vL vG vs us t x y z ht hx hy hz w2 := by
  have k := h.oth hN hne hge hw g
  exact ⟨h.kd.addG hN hne hge nb g, k.sh, k.rt, k.rx, k.ry, k.rz, k.tx, k.ty, k.xy, k.xz, k.yz, k.ft, k.fx, k.fy, k.kp⟩
theorem SD.set (h : SD w0 w bs SB vL vG vs us t x y z ht hx hy hz w1) (k : Nat) (hq : bs[k]? = some q) (ne : 3 ≠ q.2.1 ∧ 22 ≠ q.2.1 ∧ 35 ≠ q.2.1) (nb : Blk q.1 q.2.1 cs w2) (g : w1.grownBy w2 (some q.1)) (hw : w.heap.size ≤ q.1) : SD w0 w (bs.set k (q.1, q.2.1, cs)) SB vL vG vs us t x y z ht hx hy hz w2 :=
  ⟨h.kd.store k hq nb g, h.sh.other (h.kd.at k hq) g ne.1 ne.2.1 ne.2.2, rowV_blk h.rt (h.kd.at k hq) g ne.1, rowV_blk h.rx (h.kd.at k hq) g ne.1, rowV_blk h.ry (h.kd.at k hq) g ne.1, rowV_blk h.rz (h.kd.at k hq) g ne.1, h.tx, h.ty, h.xy, h.xz, h.yz, h.ft, h.fx, h.fy, fun G' T cs a1 a2 a3 a4 => (h.kp G' T cs a1 a2 a3 a4).grown g (fun e => by injection e with e; have := a4.lt; omega)⟩
end
theorem fb_0 {a b c : Ev} {G : Nat} {w : World} (h : Blk G 37 (evL a ++ (evL b ++ evL c)) w) : w.rangeAt G 0 (evL a) := h.range 0 4
theorem fb_1 {a b c : Ev} {G : Nat} {w : World} (h : Blk G 37 (evL a ++ (evL b ++ evL c)) w) : w.rangeAt G 4 (evL b) := h.range 4 4
theorem fb_2 {a b c : Ev} {G : Nat} {w : World} (h : Blk G 37 (evL a ++ (evL b ++ evL c)) w) : w.rangeAt G 8 (evL c) := h.range 8 4
theorem rdv2 {a b c : Ev} {G : Nat} {w : World} (h : Blk G 37 (evL a ++ (evL b ++ evL c)) w) : RdV w (.slice (some ⟨G, 0, none⟩) 2 3) [a, b] := by
  refine ⟨_, _, rfl, by simp, (fun e => by cases e), fun i hi => ⟨G, 0, rfl, h.lt, ?_⟩⟩
  rcases i with _ | i
  · exact fb_0 h
  · obtain rfl : i = 0 := by simp at hi; omega
    exact fb_1 h
theorem rdv2' {a b : Ev} {G : Nat} {w : World} (h : Blk G 37 (evL a ++ evL b) w) : RdV w (.slice (some ⟨G, 0, none⟩) 2 2) [a, b] := by
  refine ⟨_, _, rfl, by simp, (fun e => by cases e), fun i hi => ⟨G, 0, rfl, h.lt, ?_⟩⟩
  rcases i with _ | i
  · exact h.range 0 4
  · obtain rfl : i = 0 := by simp at hi; omega
    exact h.range 4 4
set_option maxRecDepth 20000 in
theorem ev_same (c : Ev) (w : World) : (Op.equalIn 10000 37 (.agg (evL c).toArray) (.agg (evL c).toArray)).run Tryd.prog w = .ok true w := by
  have u3 := Tryd.underlying3
  have u2 := Tryd.underlying2
  have a3 : ∀ w, (isAgg 3).run Tryd.prog w = .ok false w := fun w => by unfold isAgg; rw [Sem.run_bind, run_underlying u3 w]; rfl
  have a2 : ∀ w, (isAgg 2).run Tryd.prog w = .ok false w := fun w => by unfold isAgg; rw [Sem.run_bind, run_underlying u2 w]; rfl
  have z3 : (Tryd.prog.info? 3).map (·.size) = some 1 := by kernel_rfl
  have z2 : (Tryd.prog.info? 2).map (·.size) = some 1 := by kernel_rfl
  have s3 : ∀ w, (sizeOf 3).run Tryd.prog w = .ok 1 w := fun w => by
    cases hq : Tryd.prog.info? 3 with
    | none => simp [hq] at z3
    | some i => have : i.size = 1 := by simpa [hq] using z3
                simp [sizeOf, typeInfo, hq, this]
  have s2 : ∀ w, (sizeOf 2).run Tryd.prog w = .ok 1 w := fun w => by
    cases hq : Tryd.prog.info? 2 with
    | none => simp [hq] at z2
    | some i => have : i.size = 1 := by simpa [hq] using z2
                simp [sizeOf, typeInfo, hq, this]
  have hS : Tryd.prog.underlying 37 = some (.struct (Tryd.prog.fieldsOf 37)) := by kernel_rfl
  have hp : Tryd.prog.stoodInHeld 37 = false := by kernel_rfl
  simp only [evL]
  rw [show (10000 : Nat) = 9999 + 1 from rfl, run_equalIn_agg w 9999 37 _ _ hS hp]
  simp only [Program.fieldsOf, Tryd.underlying37]
  go_simp
theorem ev_eql (c : Ev) (w : World) : (binOp .eql 37 (.agg (evL c).toArray) (.agg (evL c).toArray)).run Tryd.prog w = .ok (.bool true) w := by
  rw [run_eql_struct, ev_same]; rfl
end Go.Proofs.YtmbbigkpeefjjabDoor
