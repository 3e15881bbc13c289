/-
  Ours: the walk of CollectTold (gen_colaw.py: THE SEAT's OWN NUMBERS).
-/
import Derived.Test.YtmhjghaipfijdaaCoCnt
namespace Go.Proofs.Ytmhjghaipfijdaa
open Go.RowKit LedM PolM CoM

namespace CoM
/-- What CollectTold asks of a step. -/
structure TF (c : Cs) (a : An) : Prop where
  t1 : (wrap64 (a.2.1.br - c.br) != cnt 1 a.2.2) = false
  t5 : (wrap64 (a.2.1.ke - c.ke) != cnt 5 a.2.2) = false
  t6 : (wrap64 (a.2.1.cu - c.cu) != cnt 6 a.2.2) = false
  t2 : (wrap64 (a.2.1.cy - c.cy) != cnt 2 a.2.2) = false
  t7 : (wrap64 (a.2.1.re - c.re) != cnt 7 a.2.2) = false
  t4 : ((a.2.1.st == 8 && c.st != 8) != (cnt 4 a.2.2 == 1)) = false
  t8 : ((a.2.1.st == 9 && c.st != 9) != (cnt 8 a.2.2 == 1)) = false
  t3 : (a.2.1.su && !c.su) = true → (cnt 3 a.2.2 != 1) = false
  len : a.2.2.length ≤ 3
theorem sI_t' {b : Bool} (h : b = true) : sI b = 1 := by rw [h]; rfl
theorem sI_f' {b : Bool} (h : b = false) : sI b = 0 := by rw [h]; rfl
theorem bne_f {x y : Int} (h : x = y) : (x != y) = false := by simp [h]
theorem told_of {l hs : List Int} {c : Cs} {e : Ev} {n : Int} (hI : Inv (pn l) n c ∨ good l hs = false) (hn : 0 ≤ n ∧ n < 4611686018427387904) (E : EvOk e) : TF c (stepA l hs c e) := by
  by_cases h0 : (stepA l hs c e).1 = 0
  · have hg : good l hs = true := by
      cases hg : good l hs
      · rw [step_bad hg] at h0; exact absurd h0 (by show (120 : Int) ≠ 0; decide)
      · rfl
    have I : Inv (pn l) n c := hI.resolve_right (by rw [hg]; decide)
    have F := step_fact rfl (pol_of hg) I hn E h0
    have P := pol_of hg
    generalize stepA l hs c e = a at *
    obtain ⟨a0, c', ac⟩ := a
    have I' := F.inv
    have x1 := I.br; have y1 := I'.br; have x2 := I.ke; have y2 := I'.ke; have x3 := I.cu; have y3 := I'.cu; have x4 := I.cy; have y4 := I'.cy; have x5 := I.re; have y5 := I'.re; have pr := P.r
    have f1 := F.t1; have f5 := F.t5; have f6 := F.t6; have f2 := F.t2; have f7 := F.t7
    dsimp only at f1 f5 f6 f2 f7 y1 y2 y3 y4 y5 ⊢
    refine ⟨?_, ?_, ?_, ?_, ?_, ?_, ?_, ?_, ?_⟩ <;> dsimp only
    · rw [wr (by omega) (by omega)]; exact bne_f f1
    · rw [wr (by omega) (by omega)]; exact bne_f f5
    · rw [wr (by omega) (by omega)]; exact bne_f f6
    · rw [wr (by omega) (by omega)]; exact bne_f f2
    · rw [wr (by omega) (by omega)]; exact bne_f f7
    · have t := F.t4
      dsimp only at t
      by_cases x : c'.st = 8 ∧ c.st ≠ 8
      · have := t.1 x; simp [x.1, x.2, this]
      · have y : ¬ cnt 4 ac = 1 := fun z => x (t.2 z)
        have z : (c'.st == 8 && c.st != 8) = false := by
          cases hq : (c'.st == 8 && c.st != 8)
          · rfl
          · simp at hq; exact absurd hq x
        rw [z]; simp [y]
    · have t := F.t8
      dsimp only at t
      by_cases x : c'.st = 9 ∧ c.st ≠ 9
      · have := t.1 x; simp [x.1, x.2, this]
      · have y : ¬ cnt 8 ac = 1 := fun z => x (t.2 z)
        have z : (c'.st == 9 && c.st != 9) = false := by
          cases hq : (c'.st == 9 && c.st != 9)
          · rfl
          · simp at hq; exact absurd hq x
        rw [z]; simp [y]
    · intro q
      simp at q
      exact bne_f (F.t3 (sI_t' q.1) (sI_f' q.2))
    · have := F.len; dsimp only at this; omega
  · have h2 := step_no h0
    generalize stepA l hs c e = a at *
    obtain ⟨a0, c', ac⟩ := a
    dsimp only at h2
    obtain ⟨rfl, rfl⟩ := Prod.mk.inj h2
    have z : ∀ x : Int, wrap64 (x - x) = 0 := fun x => by rw [Int.sub_self]; simp [wrap64]
    refine ⟨?_, ?_, ?_, ?_, ?_, ?_, ?_, ?_, ?_⟩ <;> dsimp only [cnt]
    · rw [z]; rfl
    · rw [z]; rfl
    · rw [z]; rfl
    · rw [z]; rfl
    · rw [z]; rfl
    · by_cases x : c'.st = 8 <;> simp [x]
    · by_cases x : c'.st = 9 <;> simp [x]
    · intro q; simp at q
    · simp
theorem inv_next {l hs : List Int} {c : Cs} {e : Ev} {k : Nat} (hI : Inv (pn l) (k : Int) c ∨ good l hs = false) (hk : k < 4398046511104) (E : EvOk e) : Inv (pn l) ((k + 1 : Nat) : Int) (stepA l hs c e).2.1 ∨ good l hs = false := by
  cases hg : good l hs
  · exact .inr rfl
  · have I : Inv (pn l) (k : Int) c := hI.resolve_right (by rw [hg]; decide)
    refine .inl ?_
    by_cases h0 : (stepA l hs c e).1 = 0
    · have := (step_fact rfl (pol_of hg) I (by omega) E h0).inv
      rwa [show (k : Int) + 1 = ((k + 1 : Nat) : Int) from by omega] at this
    · rw [step_no h0]; exact I.mono (by omega)
end CoM

set_option maxRecDepth 20000 in
set_option maxHeartbeats 4000000 in
theorem told_any (l hs : List Int) (s v : Value) (es : List Ev) (w : World) (hl : l.length = 17) (hr : Rd w s (bkL hs)) (hb : hs.length * 8 ≤ 140737488355328) (er : RdV w v es) (hE : es.length ≤ 4398046511104) (okE : ∀ i, EvOk (eN es i)) :
    Calls Try.prog 7 #[PV l s, v] w fun e w' => e = .returned (.bool true) ∧ Below w.heap.size w w' := by
  show Calls _ _ #[.agg (polL l s).toArray, _] _ _
  have OW : Hid (∀ w', Below w.heap.size w w' → Calls Try.prog 13 #[PV l s] w' (OwnAns l hs w')) := fun w' h => own_at l hs s w' hl (hr.later h) hb
  have FR : Hid (∀ w', Calls Try.prog 11 #[] w' fun e w'' => e = .returned (csV fresh) ∧ Below w'.heap.size w' w'') := fresh_at
  have MY : Hid (∀ w', Below w.heap.size w w' → Calls Try.prog 9 #[PV l s] w' fun e w'' => e = .returned (.bool (good l hs)) ∧ Below w'.heap.size w' w'') := fun w' h => mayc_at l hs s w' hl (hr.later h) (by omega)
  have OP : Hid (good l hs = true → ∀ w', Below w.heap.size w w' → Calls Try.prog 10 #[PV l s] w' fun e w'' => e = .returned (.bool true) ∧ Below w'.heap.size w' w'') := fun hg w' h => opens_at l hs s w' hl (hr.later h) hb hg
  have ST : Hid (∀ c ev s' w', Rd w' s' (bkL hs) → Calls Try.prog 12 #[PV l s', csV c, evV ev] w' (StepAns (stepA l hs c ev) w')) := fun c ev s' w' h => step_at l hs s' c ev w' hl h (by omega)
  have SZ : Hid ((Try.prog.info? 24).map (·.size) = some (polL l s).length) := by show _ = _; rw [polL_len hl]; exact sizeP
  have S0 : Hid (PS w l s (w.alloc (.cells (polL l s).toArray 24))) := ⟨Blk.new _ _ _, below_alloc _ _⟩
  have HL : Hid (l.length = 17) := hl
  have ER : Hid (RdV w v es) := er
  obtain ⟨ao, cap, rfl, hcap, hno, er'⟩ := er
  have EC : Hid (∀ k, k < es.length → ∃ g o, ao = some ⟨g, o, none⟩ ∧ g < w.heap.size ∧ w.rangeAt g (o + k * 4) (evL (eN es k))) := er'
  have OK : Hid (∀ k, EvOk (eN es k)) := okE
  clear hl hr hb er' ER okE hno
  generalize es.length = N at *
  cases hg : good l hs
  · go_enter Try.func7, Try.ntmps7
    go_upto_region 1 with fail
    generalize w.alloc (.cells (polL l s).toArray 24) = w0 at *
    go_wp2_with ((with_reducible refine at_loadT 24 ?_); refine step_load rfl 24 _ rfl w.heap.size 0 rfl (polL l s) _ (Blk.all S0.out.p) Try.underlying24 rfl SZ.out ?_)
    refine (MY.out _ S0.out.bb).mono ?_
    rw [hg]
    rintro e w2 ⟨rfl, bX⟩
    have S2 : Hid (PS w l s w2) := S0.out.later bX
    clear bX
    go_wp2_with fail
    refine (FR.out _).mono ?_
    rintro e w3 ⟨rfl, bX⟩
    have S3 : Hid (PS w l s w3) := S2.out.later bX
    clear bX S2
    have NZ : Hid (Blk w3.heap.size 28 (csL ⟨0, false, 0, 0, 0, 0, 0, 0, 0, 0, 0, 0, 0, 0, 0⟩) (w3.alloc (.cells #[.int .i64 0, .bool false, .int .i64 0, .int .i64 0, .int .i64 0, .int .i64 0, .int .i64 0, .int .i64 0, .int .i64 0, .int .i64 0, .int .i64 0, .int .i64 0, .int .i64 0, .int .i64 0, .int .i64 0] 28))) := Blk.new _ _ _
    go_upto_region 4 with ((with_reducible refine at_store ?_); refine step_store rfl 28 _ _ rfl w3.heap.size 0 28 (csL ⟨0, false, 0, 0, 0, 0, 0, 0, 0, 0, 0, 0, 0, 0, 0⟩) (csL fresh) rfl rfl NZ.out (Nat.le_refl 15) (sizeCsL _) (csL_one _) ?_; intro w4 n4 g4)
    have S4 : Hid (LS w l s fresh w3.heap.size w4) := by
      have x := S3.out.later (below_alloc w3 (.cells #[.int .i64 0, .bool false, .int .i64 0, .int .i64 0, .int .i64 0, .int .i64 0, .int .i64 0, .int .i64 0, .int .i64 0, .int .i64 0, .int .i64 0, .int .i64 0, .int .i64 0, .int .i64 0, .int .i64 0] 28))
      have y := x.grown g4 S3.out.p.lt
      exact ⟨y.p, n4, y.bb, S3.out.p.lt⟩
    clear n4 g4 NZ S3
    obtain ⟨CB, hCB⟩ : ∃ CB, w3.heap.size = CB := ⟨_, rfl⟩
    rw [hCB] at S4
    rw [hCB]
    clear hCB
    go_wp2_with fail
    go_loopw [6, 7, 8, 9] (fun v6 _ _ _ wr => ∃ (k : Nat) (c : Cs), v6 = .int .i64 (k : Int) ∧ k ≤ N ∧ Hid (Inv (pn l) (k : Int) c ∨ good l hs = false) ∧ Hid (LS w l s c CB wr)) (fun v6 _ _ _ _ => N - (intOf v6).toNat)
    case atStart => exact ⟨0, fresh, rfl, by omega, .inr hg, S4⟩
    case round =>
      obtain ⟨k, c, rfl, hk, IV, SR⟩ := hrel
      by_cases hlt : (k : Int) < (N : Int)
      · obtain ⟨g, o, rfl, lt, rg⟩ := EC.out k (by omega)
        have EV : Hid (∀ w', Below w.heap.size w w' → w'.rangeAt g (o + k * 4) (evL (eN es k))) := fun w' h => range_laterC rg lt h
        have EK : Hid (EvOk (eN es k)) := OK.out k
        clear rg lt EC
        generalize eN es k = ev at *
        have SK : Hid (∀ s' w', Rd w' s' (bkL hs) → Calls Try.prog 12 #[PV l s', csV c, evV ev] w' (StepAns (stepA l hs c ev) w')) := fun s' w' h => ST.out c ev s' w' h
        have SF : Hid ((stepA l hs c ev).1 ≠ 0 → (stepA l hs c ev).2 = (c, [])) := step_no
        have TT : Hid (TF c (stepA l hs c ev)) := told_of IV.out (by omega) EK.out
        have IN : Hid (Inv (pn l) ((k + 1 : Nat) : Int) (stepA l hs c ev).2.1 ∨ good l hs = false) := inv_next IV.out (by omega) EK.out

        generalize stepA l hs c ev = ans at *
        go_upto_region 7 with fail
        go_cut [7, 8, 9] from 18 to 123 (fun v7 v8 v9 wx => ∃ G ra rn rc, v7 = .pointer (some ⟨G, 0, none⟩) ∧ v8 = .slice ra rn rc ∧ v9 = .int .i64 ans.1 ∧ Hid (SA w l s c CB G ans (.slice ra rn rc) wx))
        case first =>
          have hu := Try.underlying24
          have hi := SZ.out
          have hu2 := Try.underlying28
          have hi2 := sizeCsL c
          have hu3 := Try.underlying35
          have hi3 := sizeEvL ev
          refine wp_region_held_drew (S := fun w' => LS w l s c CB w') (by kernel_rfl) (SR.out.drew) (fun hH => ?_)
          refine wpAnyH_take (i := 0) (oi := { dst := some 25, op := Op.load 24 (Operand.tmp 2), type := 24, pos := "outright.go:212", after := #[], guard := none }) (v := .agg (polL l s).toArray) rfl (by kernel_rfl) (by kernel_rfl) (by kernel_rfl) (fun _ _ _ h => h) (yieldsIf_load_mid (by rfl) _ _ rfl w.heap.size 0 rfl (polL l s) _ (fun w' h => h.p.all) hu rfl hi) hH ?_
          try simp only [Act.put, List.setIfInBounds_toArray, List.set_cons_zero, List.set_cons_succ]
          refine wpAnyH_take (i := 2) (oi := { dst := some 27, op := Op.load 28 (Operand.tmp 5), type := 28, pos := "outright.go:212", after := #[], guard := none }) (v := .agg (csL c).toArray) rfl (by kernel_rfl) (by kernel_rfl) (by kernel_rfl) (fun _ _ _ h => h) (yieldsIf_load_mid (by rfl) _ _ rfl CB 0 rfl (csL c) _ (fun w' h => h.c.all) hu2 rfl hi2) hH ?_
          try simp only [Act.put, List.setIfInBounds_toArray, List.set_cons_zero, List.set_cons_succ]
          refine wpAnyH_take (i := 3) (oi := { dst := some 28, op := Op.move (Operand.tmp 1), type := 25, pos := "outright.go:212", after := #[], guard := none }) (v := .slice (some ⟨g, o, none⟩) N cap) rfl (by kernel_rfl) (by kernel_rfl) (by kernel_rfl) (fun _ _ _ h => h) (Or.inl ⟨by rfl, fun w' h => by go_simp⟩) hH ?_
          try simp only [Act.put, List.setIfInBounds_toArray, List.set_cons_zero, List.set_cons_succ]
          refine wpAnyH_take (i := 4) (oi := { dst := some 29, op := Op.move (Operand.tmp 6), type := 3, pos := "outright.go:212", after := #[], guard := none }) (v := .int .i64 (k : Int)) rfl (by kernel_rfl) (by kernel_rfl) (by kernel_rfl) (fun _ _ _ h => h) (Or.inl ⟨by rfl, fun w' h => by go_simp⟩) hH ?_
          try simp only [Act.put, List.setIfInBounds_toArray, List.set_cons_zero, List.set_cons_succ]
          refine wpAnyH_take (i := 5) (oi := { dst := some 30, op := Op.indexAddr 25 (Operand.tmp 28) (Operand.tmp 29), type := 0, pos := "outright.go:212", after := #[{ on := 3, ground := Ground.data }, { on := 4, ground := Ground.data }], guard := none }) (v := .pointer (some ⟨g, o + k * 4, none⟩)) rfl (by kernel_rfl) (by kernel_rfl) (by kernel_rfl) (fun _ _ _ h => h) (Or.inl ⟨by rfl, fun w' h => by go_simp⟩) hH ?_
          try simp only [Act.put, List.setIfInBounds_toArray, List.set_cons_zero, List.set_cons_succ]
          refine wpAnyH_take (i := 6) (oi := { dst := some 31, op := Op.load 35 (Operand.tmp 30), type := 35, pos := "outright.go:212", after := #[{ on := 5, ground := Ground.data }], guard := none }) (v := .agg (evL ev).toArray) rfl (by kernel_rfl) (by kernel_rfl) (by kernel_rfl) (fun _ _ _ h => h) (yieldsIf_load_mid (by rfl) _ _ rfl g (o + k * 4) rfl (evL ev) _ (fun w' h => EV.out _ h.bb) hu3 rfl hi3) hH ?_
          try simp only [Act.put, List.setIfInBounds_toArray, List.set_cons_zero, List.set_cons_succ]
          refine wpAnyH_ready (rs := [1, 12]) (by kernel_rfl) (by simp) ?_
          refine AllReadyH.cons (o := { dst := some 26, op := Op.call { callee := Callee.value (Operand.func 13), args := #[Operand.tmp 25], argTypes := #[24] }, type := 24, pos := "outright.go:212", after := #[{ on := 0, ground := Ground.data }], guard := none }) rfl (fun K hK => ?_) (AllReadyH.cons (o := { dst := some 7, op := Op.alloc 28, type := 0, pos := "outright.go:212", after := #[], guard := none }) rfl (fun K hK => ?_) AllReadyH.nil)
          · go_simp
            refine (OW.out _ hH.bb).mono ?_
            rintro e x1 ⟨oa, on, oc, rfl, orow, bX⟩
            refine hK.out _ _ (hH.later bX) (fun hH => ?_)
            refine wpAnyH_ready (rs := [7, 12]) (by kernel_rfl) (by simp) ?_
            refine AllReadyH.cons (o := { dst := some 32, op := Op.call { callee := Callee.value (Operand.func 12), args := #[Operand.tmp 26, Operand.tmp 27, Operand.tmp 31], argTypes := #[24, 28, 35] }, type := 31, pos := "outright.go:212", after := #[{ on := 1, ground := Ground.data }, { on := 2, ground := Ground.data }, { on := 6, ground := Ground.data }, { on := 1, ground := Ground.chain }], guard := none }) rfl (fun K hK => ?_) (AllReadyH.cons (o := { dst := some 7, op := Op.alloc 28, type := 0, pos := "outright.go:212", after := #[], guard := none }) rfl (fun K hK => ?_) AllReadyH.nil)
            · go_simp
              refine (SK.out _ _ orow.rd).mono ?_
              rintro e x2 ⟨ra, rn, rc, rfl, rrow, bX⟩
              have orow := orow.later bX
              have rrow := rrow.mono hH.bb.size
              refine hK.out _ _ (hH.later bX) (fun hH => ?_)
              refine wpAnyH_take (i := 8) (oi := { dst := some 24, op := Op.move (Operand.tmp 32), type := 31, pos := "outright.go:212", after := #[{ on := 7, ground := Ground.data }], guard := none }) (v := .tuple #[csV ans.2.1, .slice ra rn rc, .int .i64 ans.1]) rfl (by kernel_rfl) (by kernel_rfl) (by kernel_rfl) (fun _ _ _ h => h) (Or.inl ⟨by rfl, fun w' h => by go_simp⟩) hH ?_
              try simp only [Act.put, List.setIfInBounds_toArray, List.set_cons_zero, List.set_cons_succ]
              refine wpAnyH_take (i := 9) (oi := { dst := some 33, op := Op.extract (Operand.tmp 24) 0, type := 28, pos := "outright.go:212", after := #[{ on := 8, ground := Ground.data }], guard := none }) (v := csV ans.2.1) rfl (by kernel_rfl) (by kernel_rfl) (by kernel_rfl) (fun _ _ _ h => h) (Or.inl ⟨by rfl, fun w' h => by go_simp⟩) hH ?_
              try simp only [Act.put, List.setIfInBounds_toArray, List.set_cons_zero, List.set_cons_succ]
              refine wpAnyH_take (i := 10) (oi := { dst := some 34, op := Op.extract (Operand.tmp 24) 1, type := 22, pos := "outright.go:212", after := #[{ on := 8, ground := Ground.data }, { on := 13, ground := Ground.gcOnly Departure.lateStores }], guard := none }) (v := .slice ra rn rc) rfl (by kernel_rfl) (by kernel_rfl) (by kernel_rfl) (fun _ _ _ h => h) (Or.inl ⟨by rfl, fun w' h => by go_simp⟩) hH ?_
              try simp only [Act.put, List.setIfInBounds_toArray, List.set_cons_zero, List.set_cons_succ]
              refine wpAnyH_take (i := 11) (oi := { dst := some 35, op := Op.extract (Operand.tmp 24) 2, type := 30, pos := "outright.go:212", after := #[{ on := 8, ground := Ground.data }, { on := 14, ground := Ground.gcOnly Departure.lateStores }], guard := none }) (v := .int .i64 ans.1) rfl (by kernel_rfl) (by kernel_rfl) (by kernel_rfl) (fun _ _ _ h => h) (Or.inl ⟨by rfl, fun w' h => by go_simp⟩) hH ?_
              try simp only [Act.put, List.setIfInBounds_toArray, List.set_cons_zero, List.set_cons_succ]
              refine wpAnyH_ready (rs := [12]) (by kernel_rfl) (by simp) ?_
              refine AllReadyH.cons (o := { dst := some 7, op := Op.alloc 28, type := 0, pos := "outright.go:212", after := #[], guard := none }) rfl (fun K hK => ?_) AllReadyH.nil
              go_simp
              have hN : Blk x2.heap.size 28 (csL ⟨0, false, 0, 0, 0, 0, 0, 0, 0, 0, 0, 0, 0, 0, 0⟩) (x2.alloc (.cells #[.int .i64 0, .bool false, .int .i64 0, .int .i64 0, .int .i64 0, .int .i64 0, .int .i64 0, .int .i64 0, .int .i64 0, .int .i64 0, .int .i64 0, .int .i64 0, .int .i64 0, .int .i64 0, .int .i64 0] 28)) := Blk.new _ _ _
              have hG : CB < x2.heap.size := hH.c.lt
              have orow := orow.later (below_alloc x2 (.cells #[.int .i64 0, .bool false, .int .i64 0, .int .i64 0, .int .i64 0, .int .i64 0, .int .i64 0, .int .i64 0, .int .i64 0, .int .i64 0, .int .i64 0, .int .i64 0, .int .i64 0, .int .i64 0, .int .i64 0] 28))
              have rrow := rrow.later (below_alloc x2 (.cells #[.int .i64 0, .bool false, .int .i64 0, .int .i64 0, .int .i64 0, .int .i64 0, .int .i64 0, .int .i64 0, .int .i64 0, .int .i64 0, .int .i64 0, .int .i64 0, .int .i64 0, .int .i64 0, .int .i64 0] 28))
              refine hK.out _ _ (hH.later (below_alloc _ _)) (fun hH => ?_)
              refine wpAnyH_ready (rs := [13]) (by kernel_rfl) (by simp) ?_
              refine AllReadyH.cons (o := { dst := none, op := Op.store 28 (Operand.tmp 7) (Operand.tmp 33), type := 0, pos := "outright.go:212", after := #[{ on := 12, ground := Ground.data }, { on := 9, ground := Ground.data }, { on := 7, ground := Ground.chain }, { on := 0, ground := Ground.phase }, { on := 1, ground := Ground.phase }, { on := 2, ground := Ground.phase }, { on := 3, ground := Ground.phase }, { on := 4, ground := Ground.phase }, { on := 5, ground := Ground.phase }, { on := 6, ground := Ground.phase }, { on := 7, ground := Ground.phase }, { on := 8, ground := Ground.phase }, { on := 9, ground := Ground.phase }, { on := 10, ground := Ground.textOnly Departure.lateStores }, { on := 11, ground := Ground.textOnly Departure.lateStores }, { on := 12, ground := Ground.phase }], guard := none }) rfl (fun K hK => ?_) AllReadyH.nil
              refine op_putC (zs := csL ⟨0, false, 0, 0, 0, 0, 0, 0, 0, 0, 0, 0, 0, 0, 0⟩) (csL ans.2.1) rfl (sizeCsL _) (csL_one _) rfl _ _ rfl _ rfl rfl hN ?_
              intro w9 b9 g9
              have PX : Hid (SA w l s c CB _ ans (.slice ra rn rc) w9) := ⟨hH.grown g9 hG, b9, hG, rowV_blk rrow hN g9 (by decide)⟩
              refine hK.out _ _ PX.out.ls (fun hH => ?_)
              simp only [Act.put]
              refine wpAnyH_take (i := 14) (oi := { dst := some 8, op := Op.assign (Operand.tmp 34), type := 22, pos := "outright.go:212", after := #[{ on := 10, ground := Ground.data }, { on := 13, ground := Ground.chain }, { on := 0, ground := Ground.phase }, { on := 1, ground := Ground.phase }, { on := 2, ground := Ground.phase }, { on := 3, ground := Ground.phase }, { on := 4, ground := Ground.phase }, { on := 5, ground := Ground.phase }, { on := 6, ground := Ground.phase }, { on := 7, ground := Ground.phase }, { on := 8, ground := Ground.phase }, { on := 9, ground := Ground.phase }, { on := 10, ground := Ground.phase }, { on := 11, ground := Ground.textOnly Departure.lateStores }, { on := 12, ground := Ground.phase }, { on := 13, ground := Ground.phase }], guard := none }) (v := .slice ra rn rc) rfl (by kernel_rfl) (by kernel_rfl) (by kernel_rfl) (fun _ _ _ h => h) (Or.inl ⟨by rfl, fun w' h => by go_simp⟩) hH ?_
              try simp only [Act.put, List.setIfInBounds_toArray, List.set_cons_zero, List.set_cons_succ]
              refine wpAnyH_take (i := 15) (oi := { dst := some 9, op := Op.assign (Operand.tmp 35), type := 30, pos := "outright.go:212", after := #[{ on := 11, ground := Ground.data }, { on := 14, ground := Ground.chain }, { on := 0, ground := Ground.phase }, { on := 1, ground := Ground.phase }, { on := 2, ground := Ground.phase }, { on := 3, ground := Ground.phase }, { on := 4, ground := Ground.phase }, { on := 5, ground := Ground.phase }, { on := 6, ground := Ground.phase }, { on := 7, ground := Ground.phase }, { on := 8, ground := Ground.phase }, { on := 9, ground := Ground.phase }, { on := 10, ground := Ground.phase }, { on := 11, ground := Ground.phase }, { on := 12, ground := Ground.phase }, { on := 13, ground := Ground.phase }, { on := 14, ground := Ground.phase }], guard := none }) (v := .int .i64 ans.1) rfl (by kernel_rfl) (by kernel_rfl) (by kernel_rfl) (fun _ _ _ h => h) (Or.inl ⟨by rfl, fun w' h => by go_simp⟩) hH ?_
              try simp only [Act.put, List.setIfInBounds_toArray, List.set_cons_zero, List.set_cons_succ]
              refine wpAnyH_done (by kernel_rfl) ?_ _
              clear hH hK b9 g9 hN
              go_wp2_with fail
              go_meet
              case rel => exact ⟨_, _, _, _, rfl, rfl, rfl, PX⟩
            · go_simp
              have hN : Blk x1.heap.size 28 (csL ⟨0, false, 0, 0, 0, 0, 0, 0, 0, 0, 0, 0, 0, 0, 0⟩) (x1.alloc (.cells #[.int .i64 0, .bool false, .int .i64 0, .int .i64 0, .int .i64 0, .int .i64 0, .int .i64 0, .int .i64 0, .int .i64 0, .int .i64 0, .int .i64 0, .int .i64 0, .int .i64 0, .int .i64 0, .int .i64 0] 28)) := Blk.new _ _ _
              have hG : CB < x1.heap.size := hH.c.lt
              have orow := orow.later (below_alloc x1 (.cells #[.int .i64 0, .bool false, .int .i64 0, .int .i64 0, .int .i64 0, .int .i64 0, .int .i64 0, .int .i64 0, .int .i64 0, .int .i64 0, .int .i64 0, .int .i64 0, .int .i64 0, .int .i64 0, .int .i64 0] 28))
              refine hK.out _ _ (hH.later (below_alloc _ _)) (fun hH => ?_)
              refine wpAnyH_ready (rs := [7]) (by kernel_rfl) (by simp) ?_
              refine AllReadyH.cons (o := { dst := some 32, op := Op.call { callee := Callee.value (Operand.func 12), args := #[Operand.tmp 26, Operand.tmp 27, Operand.tmp 31], argTypes := #[24, 28, 35] }, type := 31, pos := "outright.go:212", after := #[{ on := 1, ground := Ground.data }, { on := 2, ground := Ground.data }, { on := 6, ground := Ground.data }, { on := 1, ground := Ground.chain }], guard := none }) rfl (fun K hK => ?_) AllReadyH.nil
              go_simp
              refine (SK.out _ _ orow.rd).mono ?_
              rintro e x3 ⟨ra, rn, rc, rfl, rrow, bX⟩
              have orow := orow.later bX
              have hN := hN.below bX
              have rrow := rrow.mono hH.bb.size
              refine hK.out _ _ (hH.later bX) (fun hH => ?_)
              refine wpAnyH_take (i := 8) (oi := { dst := some 24, op := Op.move (Operand.tmp 32), type := 31, pos := "outright.go:212", after := #[{ on := 7, ground := Ground.data }], guard := none }) (v := .tuple #[csV ans.2.1, .slice ra rn rc, .int .i64 ans.1]) rfl (by kernel_rfl) (by kernel_rfl) (by kernel_rfl) (fun _ _ _ h => h) (Or.inl ⟨by rfl, fun w' h => by go_simp⟩) hH ?_
              try simp only [Act.put, List.setIfInBounds_toArray, List.set_cons_zero, List.set_cons_succ]
              refine wpAnyH_take (i := 9) (oi := { dst := some 33, op := Op.extract (Operand.tmp 24) 0, type := 28, pos := "outright.go:212", after := #[{ on := 8, ground := Ground.data }], guard := none }) (v := csV ans.2.1) rfl (by kernel_rfl) (by kernel_rfl) (by kernel_rfl) (fun _ _ _ h => h) (Or.inl ⟨by rfl, fun w' h => by go_simp⟩) hH ?_
              try simp only [Act.put, List.setIfInBounds_toArray, List.set_cons_zero, List.set_cons_succ]
              refine wpAnyH_take (i := 10) (oi := { dst := some 34, op := Op.extract (Operand.tmp 24) 1, type := 22, pos := "outright.go:212", after := #[{ on := 8, ground := Ground.data }, { on := 13, ground := Ground.gcOnly Departure.lateStores }], guard := none }) (v := .slice ra rn rc) rfl (by kernel_rfl) (by kernel_rfl) (by kernel_rfl) (fun _ _ _ h => h) (Or.inl ⟨by rfl, fun w' h => by go_simp⟩) hH ?_
              try simp only [Act.put, List.setIfInBounds_toArray, List.set_cons_zero, List.set_cons_succ]
              refine wpAnyH_take (i := 11) (oi := { dst := some 35, op := Op.extract (Operand.tmp 24) 2, type := 30, pos := "outright.go:212", after := #[{ on := 8, ground := Ground.data }, { on := 14, ground := Ground.gcOnly Departure.lateStores }], guard := none }) (v := .int .i64 ans.1) rfl (by kernel_rfl) (by kernel_rfl) (by kernel_rfl) (fun _ _ _ h => h) (Or.inl ⟨by rfl, fun w' h => by go_simp⟩) hH ?_
              try simp only [Act.put, List.setIfInBounds_toArray, List.set_cons_zero, List.set_cons_succ]
              refine wpAnyH_ready (rs := [13]) (by kernel_rfl) (by simp) ?_
              refine AllReadyH.cons (o := { dst := none, op := Op.store 28 (Operand.tmp 7) (Operand.tmp 33), type := 0, pos := "outright.go:212", after := #[{ on := 12, ground := Ground.data }, { on := 9, ground := Ground.data }, { on := 7, ground := Ground.chain }, { on := 0, ground := Ground.phase }, { on := 1, ground := Ground.phase }, { on := 2, ground := Ground.phase }, { on := 3, ground := Ground.phase }, { on := 4, ground := Ground.phase }, { on := 5, ground := Ground.phase }, { on := 6, ground := Ground.phase }, { on := 7, ground := Ground.phase }, { on := 8, ground := Ground.phase }, { on := 9, ground := Ground.phase }, { on := 10, ground := Ground.textOnly Departure.lateStores }, { on := 11, ground := Ground.textOnly Departure.lateStores }, { on := 12, ground := Ground.phase }], guard := none }) rfl (fun K hK => ?_) AllReadyH.nil
              refine op_putC (zs := csL ⟨0, false, 0, 0, 0, 0, 0, 0, 0, 0, 0, 0, 0, 0, 0⟩) (csL ans.2.1) rfl (sizeCsL _) (csL_one _) rfl _ _ rfl _ rfl rfl hN ?_
              intro w9 b9 g9
              have PX : Hid (SA w l s c CB _ ans (.slice ra rn rc) w9) := ⟨hH.grown g9 hG, b9, hG, rowV_blk rrow hN g9 (by decide)⟩
              refine hK.out _ _ PX.out.ls (fun hH => ?_)
              simp only [Act.put]
              refine wpAnyH_take (i := 14) (oi := { dst := some 8, op := Op.assign (Operand.tmp 34), type := 22, pos := "outright.go:212", after := #[{ on := 10, ground := Ground.data }, { on := 13, ground := Ground.chain }, { on := 0, ground := Ground.phase }, { on := 1, ground := Ground.phase }, { on := 2, ground := Ground.phase }, { on := 3, ground := Ground.phase }, { on := 4, ground := Ground.phase }, { on := 5, ground := Ground.phase }, { on := 6, ground := Ground.phase }, { on := 7, ground := Ground.phase }, { on := 8, ground := Ground.phase }, { on := 9, ground := Ground.phase }, { on := 10, ground := Ground.phase }, { on := 11, ground := Ground.textOnly Departure.lateStores }, { on := 12, ground := Ground.phase }, { on := 13, ground := Ground.phase }], guard := none }) (v := .slice ra rn rc) rfl (by kernel_rfl) (by kernel_rfl) (by kernel_rfl) (fun _ _ _ h => h) (Or.inl ⟨by rfl, fun w' h => by go_simp⟩) hH ?_
              try simp only [Act.put, List.setIfInBounds_toArray, List.set_cons_zero, List.set_cons_succ]
              refine wpAnyH_take (i := 15) (oi := { dst := some 9, op := Op.assign (Operand.tmp 35), type := 30, pos := "outright.go:212", after := #[{ on := 11, ground := Ground.data }, { on := 14, ground := Ground.chain }, { on := 0, ground := Ground.phase }, { on := 1, ground := Ground.phase }, { on := 2, ground := Ground.phase }, { on := 3, ground := Ground.phase }, { on := 4, ground := Ground.phase }, { on := 5, ground := Ground.phase }, { on := 6, ground := Ground.phase }, { on := 7, ground := Ground.phase }, { on := 8, ground := Ground.phase }, { on := 9, ground := Ground.phase }, { on := 10, ground := Ground.phase }, { on := 11, ground := Ground.phase }, { on := 12, ground := Ground.phase }, { on := 13, ground := Ground.phase }, { on := 14, ground := Ground.phase }], guard := none }) (v := .int .i64 ans.1) rfl (by kernel_rfl) (by kernel_rfl) (by kernel_rfl) (fun _ _ _ h => h) (Or.inl ⟨by rfl, fun w' h => by go_simp⟩) hH ?_
              try simp only [Act.put, List.setIfInBounds_toArray, List.set_cons_zero, List.set_cons_succ]
              refine wpAnyH_done (by kernel_rfl) ?_ _
              clear hH hK b9 g9 hN
              go_wp2_with fail
              go_meet
              case rel => exact ⟨_, _, _, _, rfl, rfl, rfl, PX⟩
          · go_simp
            have hN : Blk wr.drew.heap.size 28 (csL ⟨0, false, 0, 0, 0, 0, 0, 0, 0, 0, 0, 0, 0, 0, 0⟩) (wr.drew.alloc (.cells #[.int .i64 0, .bool false, .int .i64 0, .int .i64 0, .int .i64 0, .int .i64 0, .int .i64 0, .int .i64 0, .int .i64 0, .int .i64 0, .int .i64 0, .int .i64 0, .int .i64 0, .int .i64 0, .int .i64 0] 28)) := Blk.new _ _ _
            have hG : CB < wr.drew.heap.size := hH.c.lt
            refine hK.out _ _ (hH.later (below_alloc _ _)) (fun hH => ?_)
            refine wpAnyH_ready (rs := [1]) (by kernel_rfl) (by simp) ?_
            refine AllReadyH.cons (o := { dst := some 26, op := Op.call { callee := Callee.value (Operand.func 13), args := #[Operand.tmp 25], argTypes := #[24] }, type := 24, pos := "outright.go:212", after := #[{ on := 0, ground := Ground.data }], guard := none }) rfl (fun K hK => ?_) AllReadyH.nil
            go_simp
            refine (OW.out _ hH.bb).mono ?_
            rintro e x4 ⟨oa, on, oc, rfl, orow, bX⟩
            have hN := hN.below bX
            refine hK.out _ _ (hH.later bX) (fun hH => ?_)
            refine wpAnyH_ready (rs := [7]) (by kernel_rfl) (by simp) ?_
            refine AllReadyH.cons (o := { dst := some 32, op := Op.call { callee := Callee.value (Operand.func 12), args := #[Operand.tmp 26, Operand.tmp 27, Operand.tmp 31], argTypes := #[24, 28, 35] }, type := 31, pos := "outright.go:212", after := #[{ on := 1, ground := Ground.data }, { on := 2, ground := Ground.data }, { on := 6, ground := Ground.data }, { on := 1, ground := Ground.chain }], guard := none }) rfl (fun K hK => ?_) AllReadyH.nil
            go_simp
            refine (SK.out _ _ orow.rd).mono ?_
            rintro e x5 ⟨ra, rn, rc, rfl, rrow, bX⟩
            have hN := hN.below bX
            have orow := orow.later bX
            have rrow := rrow.mono hH.bb.size
            refine hK.out _ _ (hH.later bX) (fun hH => ?_)
            refine wpAnyH_take (i := 8) (oi := { dst := some 24, op := Op.move (Operand.tmp 32), type := 31, pos := "outright.go:212", after := #[{ on := 7, ground := Ground.data }], guard := none }) (v := .tuple #[csV ans.2.1, .slice ra rn rc, .int .i64 ans.1]) rfl (by kernel_rfl) (by kernel_rfl) (by kernel_rfl) (fun _ _ _ h => h) (Or.inl ⟨by rfl, fun w' h => by go_simp⟩) hH ?_
            try simp only [Act.put, List.setIfInBounds_toArray, List.set_cons_zero, List.set_cons_succ]
            refine wpAnyH_take (i := 9) (oi := { dst := some 33, op := Op.extract (Operand.tmp 24) 0, type := 28, pos := "outright.go:212", after := #[{ on := 8, ground := Ground.data }], guard := none }) (v := csV ans.2.1) rfl (by kernel_rfl) (by kernel_rfl) (by kernel_rfl) (fun _ _ _ h => h) (Or.inl ⟨by rfl, fun w' h => by go_simp⟩) hH ?_
            try simp only [Act.put, List.setIfInBounds_toArray, List.set_cons_zero, List.set_cons_succ]
            refine wpAnyH_take (i := 10) (oi := { dst := some 34, op := Op.extract (Operand.tmp 24) 1, type := 22, pos := "outright.go:212", after := #[{ on := 8, ground := Ground.data }, { on := 13, ground := Ground.gcOnly Departure.lateStores }], guard := none }) (v := .slice ra rn rc) rfl (by kernel_rfl) (by kernel_rfl) (by kernel_rfl) (fun _ _ _ h => h) (Or.inl ⟨by rfl, fun w' h => by go_simp⟩) hH ?_
            try simp only [Act.put, List.setIfInBounds_toArray, List.set_cons_zero, List.set_cons_succ]
            refine wpAnyH_take (i := 11) (oi := { dst := some 35, op := Op.extract (Operand.tmp 24) 2, type := 30, pos := "outright.go:212", after := #[{ on := 8, ground := Ground.data }, { on := 14, ground := Ground.gcOnly Departure.lateStores }], guard := none }) (v := .int .i64 ans.1) rfl (by kernel_rfl) (by kernel_rfl) (by kernel_rfl) (fun _ _ _ h => h) (Or.inl ⟨by rfl, fun w' h => by go_simp⟩) hH ?_
            try simp only [Act.put, List.setIfInBounds_toArray, List.set_cons_zero, List.set_cons_succ]
            refine wpAnyH_ready (rs := [13]) (by kernel_rfl) (by simp) ?_
            refine AllReadyH.cons (o := { dst := none, op := Op.store 28 (Operand.tmp 7) (Operand.tmp 33), type := 0, pos := "outright.go:212", after := #[{ on := 12, ground := Ground.data }, { on := 9, ground := Ground.data }, { on := 7, ground := Ground.chain }, { on := 0, ground := Ground.phase }, { on := 1, ground := Ground.phase }, { on := 2, ground := Ground.phase }, { on := 3, ground := Ground.phase }, { on := 4, ground := Ground.phase }, { on := 5, ground := Ground.phase }, { on := 6, ground := Ground.phase }, { on := 7, ground := Ground.phase }, { on := 8, ground := Ground.phase }, { on := 9, ground := Ground.phase }, { on := 10, ground := Ground.textOnly Departure.lateStores }, { on := 11, ground := Ground.textOnly Departure.lateStores }, { on := 12, ground := Ground.phase }], guard := none }) rfl (fun K hK => ?_) AllReadyH.nil
            refine op_putC (zs := csL ⟨0, false, 0, 0, 0, 0, 0, 0, 0, 0, 0, 0, 0, 0, 0⟩) (csL ans.2.1) rfl (sizeCsL _) (csL_one _) rfl _ _ rfl _ rfl rfl hN ?_
            intro w9 b9 g9
            have PX : Hid (SA w l s c CB _ ans (.slice ra rn rc) w9) := ⟨hH.grown g9 hG, b9, hG, rowV_blk rrow hN g9 (by decide)⟩
            refine hK.out _ _ PX.out.ls (fun hH => ?_)
            simp only [Act.put]
            refine wpAnyH_take (i := 14) (oi := { dst := some 8, op := Op.assign (Operand.tmp 34), type := 22, pos := "outright.go:212", after := #[{ on := 10, ground := Ground.data }, { on := 13, ground := Ground.chain }, { on := 0, ground := Ground.phase }, { on := 1, ground := Ground.phase }, { on := 2, ground := Ground.phase }, { on := 3, ground := Ground.phase }, { on := 4, ground := Ground.phase }, { on := 5, ground := Ground.phase }, { on := 6, ground := Ground.phase }, { on := 7, ground := Ground.phase }, { on := 8, ground := Ground.phase }, { on := 9, ground := Ground.phase }, { on := 10, ground := Ground.phase }, { on := 11, ground := Ground.textOnly Departure.lateStores }, { on := 12, ground := Ground.phase }, { on := 13, ground := Ground.phase }], guard := none }) (v := .slice ra rn rc) rfl (by kernel_rfl) (by kernel_rfl) (by kernel_rfl) (fun _ _ _ h => h) (Or.inl ⟨by rfl, fun w' h => by go_simp⟩) hH ?_
            try simp only [Act.put, List.setIfInBounds_toArray, List.set_cons_zero, List.set_cons_succ]
            refine wpAnyH_take (i := 15) (oi := { dst := some 9, op := Op.assign (Operand.tmp 35), type := 30, pos := "outright.go:212", after := #[{ on := 11, ground := Ground.data }, { on := 14, ground := Ground.chain }, { on := 0, ground := Ground.phase }, { on := 1, ground := Ground.phase }, { on := 2, ground := Ground.phase }, { on := 3, ground := Ground.phase }, { on := 4, ground := Ground.phase }, { on := 5, ground := Ground.phase }, { on := 6, ground := Ground.phase }, { on := 7, ground := Ground.phase }, { on := 8, ground := Ground.phase }, { on := 9, ground := Ground.phase }, { on := 10, ground := Ground.phase }, { on := 11, ground := Ground.phase }, { on := 12, ground := Ground.phase }, { on := 13, ground := Ground.phase }, { on := 14, ground := Ground.phase }], guard := none }) (v := .int .i64 ans.1) rfl (by kernel_rfl) (by kernel_rfl) (by kernel_rfl) (fun _ _ _ h => h) (Or.inl ⟨by rfl, fun w' h => by go_simp⟩) hH ?_
            try simp only [Act.put, List.setIfInBounds_toArray, List.set_cons_zero, List.set_cons_succ]
            refine wpAnyH_done (by kernel_rfl) ?_ _
            clear hH hK b9 g9 hN
            go_wp2_with fail
            go_meet
            case rel => exact ⟨_, _, _, _, rfl, rfl, rfl, PX⟩
        case rest =>
          obtain ⟨G, ra, rn, rc, rfl, rfl, rfl, SX⟩ := hcut
          clear SR
          obtain ⟨t1, t5, t6, t2, t7, t4, t8, t3, tl⟩ := TT.out
          have CN : Hid (∀ x m, Calls Try.prog 17 #[.slice ra rn rc, .int .i64 x] (wc.drewN m) fun e w'' => e = .returned (.int .i64 (cnt x ans.2.2)) ∧ w'' = wc.drewN m) := fun x m => cnt_at x ans.2.2 _ _ (SX.out.r.rd.drewN m) (by omega)
          have d10 : wc.cell? ⟨G, 10, none⟩ = some (.int .i64 ans.2.1.br) := SX.out.d.cell 10 _ rfl
          have c10 : wc.cell? ⟨CB, 10, none⟩ = some (.int .i64 c.br) := SX.out.ls.cs 10 _ rfl
          have d9 : wc.cell? ⟨G, 9, none⟩ = some (.int .i64 ans.2.1.ke) := SX.out.d.cell 9 _ rfl
          have c9 : wc.cell? ⟨CB, 9, none⟩ = some (.int .i64 c.ke) := SX.out.ls.cs 9 _ rfl
          have d11 : wc.cell? ⟨G, 11, none⟩ = some (.int .i64 ans.2.1.cu) := SX.out.d.cell 11 _ rfl
          have c11 : wc.cell? ⟨CB, 11, none⟩ = some (.int .i64 c.cu) := SX.out.ls.cs 11 _ rfl
          go_upto_region 8 with fail
          go_quiet ((go_at_call 17; exact Calls.quiet_of_same (CN.out _ _)))
          have SY : Hid (SA w l s c CB G ans (.slice ra rn rc) (wc.drewN nq)) := SX.out.drewN nq
          clear CN
          generalize wc.drewN nq = x1 at *
          have CN : Hid (∀ x m, Calls Try.prog 17 #[.slice ra rn rc, .int .i64 x] (x1.drewN m) fun e w'' => e = .returned (.int .i64 (cnt x ans.2.2)) ∧ w'' = x1.drewN m) := fun x m => cnt_at x ans.2.2 _ _ (SY.out.r.rd.drewN m) (by omega)
          have d2a : x1.cell? ⟨G, 2, none⟩ = some (.int .i64 ans.2.1.cy) := SY.out.d.cell 2 _ rfl
          have c2a : x1.cell? ⟨CB, 2, none⟩ = some (.int .i64 c.cy) := SY.out.ls.cs 2 _ rfl
          have d12a : x1.cell? ⟨G, 12, none⟩ = some (.int .i64 ans.2.1.re) := SY.out.d.cell 12 _ rfl
          have c12a : x1.cell? ⟨CB, 12, none⟩ = some (.int .i64 c.re) := SY.out.ls.cs 12 _ rfl
          go_upto_region 10 with fail
          go_quiet ((go_at_call 17; exact Calls.quiet_of_same (CN.out _ _)))
          have SZ1 : Hid (SA w l s c CB G ans (.slice ra rn rc) (x1.drewN nq)) := SY.out.drewN nq
          clear CN
          generalize x1.drewN nq = x2 at *
          have CN : Hid (∀ x m, Calls Try.prog 17 #[.slice ra rn rc, .int .i64 x] (x2.drewN m) fun e w'' => e = .returned (.int .i64 (cnt x ans.2.2)) ∧ w'' = x2.drewN m) := fun x m => cnt_at x ans.2.2 _ _ (SZ1.out.r.rd.drewN m) (by omega)
          have d0b : x2.cell? ⟨G, 0, none⟩ = some (.int .i64 ans.2.1.st) := SZ1.out.d.cell 0 _ rfl
          have c0b : x2.cell? ⟨CB, 0, none⟩ = some (.int .i64 c.st) := SZ1.out.ls.cs 0 _ rfl
          go_upto_region 12 with fail
          go_cut [93] from 24 to 123 (fun v wx => v = .bool false ∧ Hid (SA w l s c CB G ans (.slice ra rn rc) wx))
          case first =>
            by_cases q8 : ans.2.1.st = 8
            · have e8 : (ans.2.1.st == 8) = true := by simpa using q8
              rw [e8, Bool.true_and] at t4
              have HT : Hid (((c.st != 8) != (cnt 4 ans.2.2 == 1)) = false) := t4
              clear q8 t4
              go_quiet ((go_at_call 17; exact Calls.quiet_of_same (CN.out _ _)))
              go_wp2_with fail
              go_meet
              case rel => exact ⟨congrArg Value.bool HT.out, SZ1.out.drewN _⟩
            · have e8 : (ans.2.1.st == 8) = false := by simpa using q8
              rw [e8, Bool.false_and] at t4
              have HT : Hid ((cnt 4 ans.2.2 == 1) = false) := by
                show _ = _
                cases hz : (cnt 4 ans.2.2 == 1)
                · rfl
                · rw [hz] at t4; cases t4
              clear q8 t4
              go_quiet ((go_at_call 17; exact Calls.quiet_of_same (CN.out _ _)))
              go_wp2_with fail
              go_meet
              case rel => exact ⟨congrArg Value.bool HT.out, SZ1.out.drewN _⟩
          case rest =>
            obtain ⟨rfl, SV⟩ := hcut
            clear CN
            have CN : Hid (∀ x m, Calls Try.prog 17 #[.slice ra rn rc, .int .i64 x] (wc.drewN m) fun e w'' => e = .returned (.int .i64 (cnt x ans.2.2)) ∧ w'' = wc.drewN m) := fun x m => cnt_at x ans.2.2 _ _ (SV.out.r.rd.drewN m) (by omega)
            have d0c : wc.cell? ⟨G, 0, none⟩ = some (.int .i64 ans.2.1.st) := SV.out.d.cell 0 _ rfl
            have c0c : wc.cell? ⟨CB, 0, none⟩ = some (.int .i64 c.st) := SV.out.ls.cs 0 _ rfl
            go_upto_region 14 with fail
            go_cut [105] from 24 to 123 (fun v wx => v = .bool false ∧ Hid (SA w l s c CB G ans (.slice ra rn rc) wx))
            case first =>
              by_cases q8 : ans.2.1.st = 9
              · have e8 : (ans.2.1.st == 9) = true := by simpa using q8
                rw [e8, Bool.true_and] at t8
                have HT : Hid (((c.st != 9) != (cnt 8 ans.2.2 == 1)) = false) := t8
                clear q8 t8
                go_quiet ((go_at_call 17; exact Calls.quiet_of_same (CN.out _ _)))
                go_wp2_with fail
                go_meet
                case rel => exact ⟨congrArg Value.bool HT.out, SV.out.drewN _⟩
              · have e8 : (ans.2.1.st == 9) = false := by simpa using q8
                rw [e8, Bool.false_and] at t8
                have HT : Hid ((cnt 8 ans.2.2 == 1) = false) := by
                  show _ = _
                  cases hz : (cnt 8 ans.2.2 == 1)
                  · rfl
                  · rw [hz] at t8; cases t8
                clear q8 t8
                go_quiet ((go_at_call 17; exact Calls.quiet_of_same (CN.out _ _)))
                go_wp2_with fail
                go_meet
                case rel => exact ⟨congrArg Value.bool HT.out, SV.out.drewN _⟩
            case rest =>
              obtain ⟨rfl, SU⟩ := hcut
              clear CN
              have CN : Hid (∀ x, Calls Try.prog 17 #[.slice ra rn rc, .int .i64 x] wc fun e w'' => e = .returned (.int .i64 (cnt x ans.2.2)) ∧ wc = w'') := fun x => (cnt_at x ans.2.2 _ _ SU.out.r.rd (by omega)).mono fun _ _ k => ⟨k.1, k.2.symm⟩
              have d1d : wc.cell? ⟨G, 1, none⟩ = some (.bool ans.2.1.su) := SU.out.d.cell 1 _ rfl
              have c1d : wc.cell? ⟨CB, 1, none⟩ = some (.bool c.su) := SU.out.ls.cs 1 _ rfl
              have rl : rn = ans.2.2.length := by
                obtain ⟨a', c', q, _⟩ := SU.out.r.rd.len
                injection q with _ q _
                rw [q, bkL_len]
              have hrn : ¬ (3 : Int) < (rn : Int) := by omega
              clear rl
              cases us : ans.2.1.su
              · rw [us] at d1d t3
                go_wp2_with (first
                | ((with_reducible refine at_loadT 28 ?_); refine step_load rfl 28 _ rfl G 0 rfl (csL ans.2.1) _ (Blk.all SU.out.d) Try.underlying28 rfl (sizeCsL _) ?_)
                | ((with_reducible refine at_store ?_); refine step_store rfl 28 _ _ rfl CB 0 28 _ (csL ans.2.1) rfl rfl SU.out.ls.c (Nat.le_refl 15) (sizeCsL _) (csL_one _) ?_; intro w8 n8 g8))
                have S8 : Hid (LS w l s ans.2.1 CB w8) := SU.out.ls.put n8 g8
                clear n8 g8
                go_roundw
                case rel => exact ⟨k + 1, ans.2.1, by go_num, by omega, IN, S8⟩
                case measure => simp [intOf]; omega
              · rw [us] at d1d t3
                cases uc : c.su
                · rw [uc] at c1d t3
                  have t3' := t3 rfl
                  clear t3
                  go_wp2_with fail
                  refine (CN.out 3).mono ?_
                  rintro e x9 ⟨rfl, rfl⟩
                  go_wp2_with (first
                  | ((with_reducible refine at_loadT 28 ?_); refine step_load rfl 28 _ rfl G 0 rfl (csL ans.2.1) _ (Blk.all SU.out.d) Try.underlying28 rfl (sizeCsL _) ?_)
                  | ((with_reducible refine at_store ?_); refine step_store rfl 28 _ _ rfl CB 0 28 _ (csL ans.2.1) rfl rfl SU.out.ls.c (Nat.le_refl 15) (sizeCsL _) (csL_one _) ?_; intro w8 n8 g8))
                  have S8 : Hid (LS w l s ans.2.1 CB w8) := SU.out.ls.put n8 g8
                  clear n8 g8
                  go_roundw
                  case rel => exact ⟨k + 1, ans.2.1, by go_num, by omega, IN, S8⟩
                  case measure => simp [intOf]; omega
                · rw [uc] at c1d t3
                  go_wp2_with (first
                  | ((with_reducible refine at_loadT 28 ?_); refine step_load rfl 28 _ rfl G 0 rfl (csL ans.2.1) _ (Blk.all SU.out.d) Try.underlying28 rfl (sizeCsL _) ?_)
                  | ((with_reducible refine at_store ?_); refine step_store rfl 28 _ _ rfl CB 0 28 _ (csL ans.2.1) rfl rfl SU.out.ls.c (Nat.le_refl 15) (sizeCsL _) (csL_one _) ?_; intro w8 n8 g8))
                  have S8 : Hid (LS w l s ans.2.1 CB w8) := SU.out.ls.put n8 g8
                  clear n8 g8
                  go_roundw
                  case rel => exact ⟨k + 1, ans.2.1, by go_num, by omega, IN, S8⟩
                  case measure => simp [intOf]; omega
      · obtain rfl : k = N := by omega
        go_wp2_with fail
        go_ret
        exact ⟨rfl, SR.out.bb⟩
  · go_enter Try.func7, Try.ntmps7
    go_upto_region 1 with fail
    generalize w.alloc (.cells (polL l s).toArray 24) = w0 at *
    go_wp2_with ((with_reducible refine at_loadT 24 ?_); refine step_load rfl 24 _ rfl w.heap.size 0 rfl (polL l s) _ (Blk.all S0.out.p) Try.underlying24 rfl SZ.out ?_)
    refine (MY.out _ S0.out.bb).mono ?_
    rw [hg]
    rintro e w1 ⟨rfl, bX⟩
    have S1 : Hid (PS w l s w1) := S0.out.later bX
    clear bX
    go_wp2_with (first
    | ((with_reducible refine at_loadT 24 ?_); refine step_load rfl 24 _ rfl w.heap.size 0 rfl (polL l s) _ (Blk.all S1.out.p) Try.underlying24 rfl SZ.out ?_)
    | ((with_reducible refine at_loadG 24 ?_); refine step_loadG rfl 24 _ rfl w.heap.size 0 rfl (polL l s) _ (Blk.all S1.out.p) Try.underlying24 rfl SZ.out ?_))
    refine (OP.out hg _ S1.out.bb).mono ?_
    rintro e w2 ⟨rfl, bX⟩
    have S2 : Hid (PS w l s w2) := S1.out.later bX
    clear bX
    go_wp2_with fail
    refine (FR.out _).mono ?_
    rintro e w3 ⟨rfl, bX⟩
    have S3 : Hid (PS w l s w3) := S2.out.later bX
    clear bX S2
    have NZ : Hid (Blk w3.heap.size 28 (csL ⟨0, false, 0, 0, 0, 0, 0, 0, 0, 0, 0, 0, 0, 0, 0⟩) (w3.alloc (.cells #[.int .i64 0, .bool false, .int .i64 0, .int .i64 0, .int .i64 0, .int .i64 0, .int .i64 0, .int .i64 0, .int .i64 0, .int .i64 0, .int .i64 0, .int .i64 0, .int .i64 0, .int .i64 0, .int .i64 0] 28))) := Blk.new _ _ _
    go_upto_region 4 with ((with_reducible refine at_store ?_); refine step_store rfl 28 _ _ rfl w3.heap.size 0 28 (csL ⟨0, false, 0, 0, 0, 0, 0, 0, 0, 0, 0, 0, 0, 0, 0⟩) (csL fresh) rfl rfl NZ.out (Nat.le_refl 15) (sizeCsL _) (csL_one _) ?_; intro w4 n4 g4)
    have S4 : Hid (LS w l s fresh w3.heap.size w4) := by
      have x := S3.out.later (below_alloc w3 (.cells #[.int .i64 0, .bool false, .int .i64 0, .int .i64 0, .int .i64 0, .int .i64 0, .int .i64 0, .int .i64 0, .int .i64 0, .int .i64 0, .int .i64 0, .int .i64 0, .int .i64 0, .int .i64 0, .int .i64 0] 28))
      have y := x.grown g4 S3.out.p.lt
      exact ⟨y.p, n4, y.bb, S3.out.p.lt⟩
    clear n4 g4 NZ S3
    obtain ⟨CB, hCB⟩ : ∃ CB, w3.heap.size = CB := ⟨_, rfl⟩
    rw [hCB] at S4
    rw [hCB]
    clear hCB
    go_wp2_with fail
    go_loopw [6, 7, 8, 9] (fun v6 _ _ _ wr => ∃ (k : Nat) (c : Cs), v6 = .int .i64 (k : Int) ∧ k ≤ N ∧ Hid (Inv (pn l) (k : Int) c ∨ good l hs = false) ∧ Hid (LS w l s c CB wr)) (fun v6 _ _ _ _ => N - (intOf v6).toNat)
    case atStart => exact ⟨0, fresh, rfl, by omega, .inl (inv_fresh (pol_of hg)), S4⟩
    case round =>
      obtain ⟨k, c, rfl, hk, IV, SR⟩ := hrel
      by_cases hlt : (k : Int) < (N : Int)
      · obtain ⟨g, o, rfl, lt, rg⟩ := EC.out k (by omega)
        have EV : Hid (∀ w', Below w.heap.size w w' → w'.rangeAt g (o + k * 4) (evL (eN es k))) := fun w' h => range_laterC rg lt h
        have EK : Hid (EvOk (eN es k)) := OK.out k
        clear rg lt EC
        generalize eN es k = ev at *
        have SK : Hid (∀ s' w', Rd w' s' (bkL hs) → Calls Try.prog 12 #[PV l s', csV c, evV ev] w' (StepAns (stepA l hs c ev) w')) := fun s' w' h => ST.out c ev s' w' h
        have SF : Hid ((stepA l hs c ev).1 ≠ 0 → (stepA l hs c ev).2 = (c, [])) := step_no
        have TT : Hid (TF c (stepA l hs c ev)) := told_of IV.out (by omega) EK.out
        have IN : Hid (Inv (pn l) ((k + 1 : Nat) : Int) (stepA l hs c ev).2.1 ∨ good l hs = false) := inv_next IV.out (by omega) EK.out

        generalize stepA l hs c ev = ans at *
        go_upto_region 7 with fail
        go_cut [7, 8, 9] from 18 to 123 (fun v7 v8 v9 wx => ∃ G ra rn rc, v7 = .pointer (some ⟨G, 0, none⟩) ∧ v8 = .slice ra rn rc ∧ v9 = .int .i64 ans.1 ∧ Hid (SA w l s c CB G ans (.slice ra rn rc) wx))
        case first =>
          have hu := Try.underlying24
          have hi := SZ.out
          have hu2 := Try.underlying28
          have hi2 := sizeCsL c
          have hu3 := Try.underlying35
          have hi3 := sizeEvL ev
          refine wp_region_held_drew (S := fun w' => LS w l s c CB w') (by kernel_rfl) (SR.out.drew) (fun hH => ?_)
          refine wpAnyH_take (i := 0) (oi := { dst := some 25, op := Op.load 24 (Operand.tmp 2), type := 24, pos := "outright.go:212", after := #[], guard := none }) (v := .agg (polL l s).toArray) rfl (by kernel_rfl) (by kernel_rfl) (by kernel_rfl) (fun _ _ _ h => h) (yieldsIf_load_mid (by rfl) _ _ rfl w.heap.size 0 rfl (polL l s) _ (fun w' h => h.p.all) hu rfl hi) hH ?_
          try simp only [Act.put, List.setIfInBounds_toArray, List.set_cons_zero, List.set_cons_succ]
          refine wpAnyH_take (i := 2) (oi := { dst := some 27, op := Op.load 28 (Operand.tmp 5), type := 28, pos := "outright.go:212", after := #[], guard := none }) (v := .agg (csL c).toArray) rfl (by kernel_rfl) (by kernel_rfl) (by kernel_rfl) (fun _ _ _ h => h) (yieldsIf_load_mid (by rfl) _ _ rfl CB 0 rfl (csL c) _ (fun w' h => h.c.all) hu2 rfl hi2) hH ?_
          try simp only [Act.put, List.setIfInBounds_toArray, List.set_cons_zero, List.set_cons_succ]
          refine wpAnyH_take (i := 3) (oi := { dst := some 28, op := Op.move (Operand.tmp 1), type := 25, pos := "outright.go:212", after := #[], guard := none }) (v := .slice (some ⟨g, o, none⟩) N cap) rfl (by kernel_rfl) (by kernel_rfl) (by kernel_rfl) (fun _ _ _ h => h) (Or.inl ⟨by rfl, fun w' h => by go_simp⟩) hH ?_
          try simp only [Act.put, List.setIfInBounds_toArray, List.set_cons_zero, List.set_cons_succ]
          refine wpAnyH_take (i := 4) (oi := { dst := some 29, op := Op.move (Operand.tmp 6), type := 3, pos := "outright.go:212", after := #[], guard := none }) (v := .int .i64 (k : Int)) rfl (by kernel_rfl) (by kernel_rfl) (by kernel_rfl) (fun _ _ _ h => h) (Or.inl ⟨by rfl, fun w' h => by go_simp⟩) hH ?_
          try simp only [Act.put, List.setIfInBounds_toArray, List.set_cons_zero, List.set_cons_succ]
          refine wpAnyH_take (i := 5) (oi := { dst := some 30, op := Op.indexAddr 25 (Operand.tmp 28) (Operand.tmp 29), type := 0, pos := "outright.go:212", after := #[{ on := 3, ground := Ground.data }, { on := 4, ground := Ground.data }], guard := none }) (v := .pointer (some ⟨g, o + k * 4, none⟩)) rfl (by kernel_rfl) (by kernel_rfl) (by kernel_rfl) (fun _ _ _ h => h) (Or.inl ⟨by rfl, fun w' h => by go_simp⟩) hH ?_
          try simp only [Act.put, List.setIfInBounds_toArray, List.set_cons_zero, List.set_cons_succ]
          refine wpAnyH_take (i := 6) (oi := { dst := some 31, op := Op.load 35 (Operand.tmp 30), type := 35, pos := "outright.go:212", after := #[{ on := 5, ground := Ground.data }], guard := none }) (v := .agg (evL ev).toArray) rfl (by kernel_rfl) (by kernel_rfl) (by kernel_rfl) (fun _ _ _ h => h) (yieldsIf_load_mid (by rfl) _ _ rfl g (o + k * 4) rfl (evL ev) _ (fun w' h => EV.out _ h.bb) hu3 rfl hi3) hH ?_
          try simp only [Act.put, List.setIfInBounds_toArray, List.set_cons_zero, List.set_cons_succ]
          refine wpAnyH_ready (rs := [1, 12]) (by kernel_rfl) (by simp) ?_
          refine AllReadyH.cons (o := { dst := some 26, op := Op.call { callee := Callee.value (Operand.func 13), args := #[Operand.tmp 25], argTypes := #[24] }, type := 24, pos := "outright.go:212", after := #[{ on := 0, ground := Ground.data }], guard := none }) rfl (fun K hK => ?_) (AllReadyH.cons (o := { dst := some 7, op := Op.alloc 28, type := 0, pos := "outright.go:212", after := #[], guard := none }) rfl (fun K hK => ?_) AllReadyH.nil)
          · go_simp
            refine (OW.out _ hH.bb).mono ?_
            rintro e x1 ⟨oa, on, oc, rfl, orow, bX⟩
            refine hK.out _ _ (hH.later bX) (fun hH => ?_)
            refine wpAnyH_ready (rs := [7, 12]) (by kernel_rfl) (by simp) ?_
            refine AllReadyH.cons (o := { dst := some 32, op := Op.call { callee := Callee.value (Operand.func 12), args := #[Operand.tmp 26, Operand.tmp 27, Operand.tmp 31], argTypes := #[24, 28, 35] }, type := 31, pos := "outright.go:212", after := #[{ on := 1, ground := Ground.data }, { on := 2, ground := Ground.data }, { on := 6, ground := Ground.data }, { on := 1, ground := Ground.chain }], guard := none }) rfl (fun K hK => ?_) (AllReadyH.cons (o := { dst := some 7, op := Op.alloc 28, type := 0, pos := "outright.go:212", after := #[], guard := none }) rfl (fun K hK => ?_) AllReadyH.nil)
            · go_simp
              refine (SK.out _ _ orow.rd).mono ?_
              rintro e x2 ⟨ra, rn, rc, rfl, rrow, bX⟩
              have orow := orow.later bX
              have rrow := rrow.mono hH.bb.size
              refine hK.out _ _ (hH.later bX) (fun hH => ?_)
              refine wpAnyH_take (i := 8) (oi := { dst := some 24, op := Op.move (Operand.tmp 32), type := 31, pos := "outright.go:212", after := #[{ on := 7, ground := Ground.data }], guard := none }) (v := .tuple #[csV ans.2.1, .slice ra rn rc, .int .i64 ans.1]) rfl (by kernel_rfl) (by kernel_rfl) (by kernel_rfl) (fun _ _ _ h => h) (Or.inl ⟨by rfl, fun w' h => by go_simp⟩) hH ?_
              try simp only [Act.put, List.setIfInBounds_toArray, List.set_cons_zero, List.set_cons_succ]
              refine wpAnyH_take (i := 9) (oi := { dst := some 33, op := Op.extract (Operand.tmp 24) 0, type := 28, pos := "outright.go:212", after := #[{ on := 8, ground := Ground.data }], guard := none }) (v := csV ans.2.1) rfl (by kernel_rfl) (by kernel_rfl) (by kernel_rfl) (fun _ _ _ h => h) (Or.inl ⟨by rfl, fun w' h => by go_simp⟩) hH ?_
              try simp only [Act.put, List.setIfInBounds_toArray, List.set_cons_zero, List.set_cons_succ]
              refine wpAnyH_take (i := 10) (oi := { dst := some 34, op := Op.extract (Operand.tmp 24) 1, type := 22, pos := "outright.go:212", after := #[{ on := 8, ground := Ground.data }, { on := 13, ground := Ground.gcOnly Departure.lateStores }], guard := none }) (v := .slice ra rn rc) rfl (by kernel_rfl) (by kernel_rfl) (by kernel_rfl) (fun _ _ _ h => h) (Or.inl ⟨by rfl, fun w' h => by go_simp⟩) hH ?_
              try simp only [Act.put, List.setIfInBounds_toArray, List.set_cons_zero, List.set_cons_succ]
              refine wpAnyH_take (i := 11) (oi := { dst := some 35, op := Op.extract (Operand.tmp 24) 2, type := 30, pos := "outright.go:212", after := #[{ on := 8, ground := Ground.data }, { on := 14, ground := Ground.gcOnly Departure.lateStores }], guard := none }) (v := .int .i64 ans.1) rfl (by kernel_rfl) (by kernel_rfl) (by kernel_rfl) (fun _ _ _ h => h) (Or.inl ⟨by rfl, fun w' h => by go_simp⟩) hH ?_
              try simp only [Act.put, List.setIfInBounds_toArray, List.set_cons_zero, List.set_cons_succ]
              refine wpAnyH_ready (rs := [12]) (by kernel_rfl) (by simp) ?_
              refine AllReadyH.cons (o := { dst := some 7, op := Op.alloc 28, type := 0, pos := "outright.go:212", after := #[], guard := none }) rfl (fun K hK => ?_) AllReadyH.nil
              go_simp
              have hN : Blk x2.heap.size 28 (csL ⟨0, false, 0, 0, 0, 0, 0, 0, 0, 0, 0, 0, 0, 0, 0⟩) (x2.alloc (.cells #[.int .i64 0, .bool false, .int .i64 0, .int .i64 0, .int .i64 0, .int .i64 0, .int .i64 0, .int .i64 0, .int .i64 0, .int .i64 0, .int .i64 0, .int .i64 0, .int .i64 0, .int .i64 0, .int .i64 0] 28)) := Blk.new _ _ _
              have hG : CB < x2.heap.size := hH.c.lt
              have orow := orow.later (below_alloc x2 (.cells #[.int .i64 0, .bool false, .int .i64 0, .int .i64 0, .int .i64 0, .int .i64 0, .int .i64 0, .int .i64 0, .int .i64 0, .int .i64 0, .int .i64 0, .int .i64 0, .int .i64 0, .int .i64 0, .int .i64 0] 28))
              have rrow := rrow.later (below_alloc x2 (.cells #[.int .i64 0, .bool false, .int .i64 0, .int .i64 0, .int .i64 0, .int .i64 0, .int .i64 0, .int .i64 0, .int .i64 0, .int .i64 0, .int .i64 0, .int .i64 0, .int .i64 0, .int .i64 0, .int .i64 0] 28))
              refine hK.out _ _ (hH.later (below_alloc _ _)) (fun hH => ?_)
              refine wpAnyH_ready (rs := [13]) (by kernel_rfl) (by simp) ?_
              refine AllReadyH.cons (o := { dst := none, op := Op.store 28 (Operand.tmp 7) (Operand.tmp 33), type := 0, pos := "outright.go:212", after := #[{ on := 12, ground := Ground.data }, { on := 9, ground := Ground.data }, { on := 7, ground := Ground.chain }, { on := 0, ground := Ground.phase }, { on := 1, ground := Ground.phase }, { on := 2, ground := Ground.phase }, { on := 3, ground := Ground.phase }, { on := 4, ground := Ground.phase }, { on := 5, ground := Ground.phase }, { on := 6, ground := Ground.phase }, { on := 7, ground := Ground.phase }, { on := 8, ground := Ground.phase }, { on := 9, ground := Ground.phase }, { on := 10, ground := Ground.textOnly Departure.lateStores }, { on := 11, ground := Ground.textOnly Departure.lateStores }, { on := 12, ground := Ground.phase }], guard := none }) rfl (fun K hK => ?_) AllReadyH.nil
              refine op_putC (zs := csL ⟨0, false, 0, 0, 0, 0, 0, 0, 0, 0, 0, 0, 0, 0, 0⟩) (csL ans.2.1) rfl (sizeCsL _) (csL_one _) rfl _ _ rfl _ rfl rfl hN ?_
              intro w9 b9 g9
              have PX : Hid (SA w l s c CB _ ans (.slice ra rn rc) w9) := ⟨hH.grown g9 hG, b9, hG, rowV_blk rrow hN g9 (by decide)⟩
              refine hK.out _ _ PX.out.ls (fun hH => ?_)
              simp only [Act.put]
              refine wpAnyH_take (i := 14) (oi := { dst := some 8, op := Op.assign (Operand.tmp 34), type := 22, pos := "outright.go:212", after := #[{ on := 10, ground := Ground.data }, { on := 13, ground := Ground.chain }, { on := 0, ground := Ground.phase }, { on := 1, ground := Ground.phase }, { on := 2, ground := Ground.phase }, { on := 3, ground := Ground.phase }, { on := 4, ground := Ground.phase }, { on := 5, ground := Ground.phase }, { on := 6, ground := Ground.phase }, { on := 7, ground := Ground.phase }, { on := 8, ground := Ground.phase }, { on := 9, ground := Ground.phase }, { on := 10, ground := Ground.phase }, { on := 11, ground := Ground.textOnly Departure.lateStores }, { on := 12, ground := Ground.phase }, { on := 13, ground := Ground.phase }], guard := none }) (v := .slice ra rn rc) rfl (by kernel_rfl) (by kernel_rfl) (by kernel_rfl) (fun _ _ _ h => h) (Or.inl ⟨by rfl, fun w' h => by go_simp⟩) hH ?_
              try simp only [Act.put, List.setIfInBounds_toArray, List.set_cons_zero, List.set_cons_succ]
              refine wpAnyH_take (i := 15) (oi := { dst := some 9, op := Op.assign (Operand.tmp 35), type := 30, pos := "outright.go:212", after := #[{ on := 11, ground := Ground.data }, { on := 14, ground := Ground.chain }, { on := 0, ground := Ground.phase }, { on := 1, ground := Ground.phase }, { on := 2, ground := Ground.phase }, { on := 3, ground := Ground.phase }, { on := 4, ground := Ground.phase }, { on := 5, ground := Ground.phase }, { on := 6, ground := Ground.phase }, { on := 7, ground := Ground.phase }, { on := 8, ground := Ground.phase }, { on := 9, ground := Ground.phase }, { on := 10, ground := Ground.phase }, { on := 11, ground := Ground.phase }, { on := 12, ground := Ground.phase }, { on := 13, ground := Ground.phase }, { on := 14, ground := Ground.phase }], guard := none }) (v := .int .i64 ans.1) rfl (by kernel_rfl) (by kernel_rfl) (by kernel_rfl) (fun _ _ _ h => h) (Or.inl ⟨by rfl, fun w' h => by go_simp⟩) hH ?_
              try simp only [Act.put, List.setIfInBounds_toArray, List.set_cons_zero, List.set_cons_succ]
              refine wpAnyH_done (by kernel_rfl) ?_ _
              clear hH hK b9 g9 hN
              go_wp2_with fail
              go_meet
              case rel => exact ⟨_, _, _, _, rfl, rfl, rfl, PX⟩
            · go_simp
              have hN : Blk x1.heap.size 28 (csL ⟨0, false, 0, 0, 0, 0, 0, 0, 0, 0, 0, 0, 0, 0, 0⟩) (x1.alloc (.cells #[.int .i64 0, .bool false, .int .i64 0, .int .i64 0, .int .i64 0, .int .i64 0, .int .i64 0, .int .i64 0, .int .i64 0, .int .i64 0, .int .i64 0, .int .i64 0, .int .i64 0, .int .i64 0, .int .i64 0] 28)) := Blk.new _ _ _
              have hG : CB < x1.heap.size := hH.c.lt
              have orow := orow.later (below_alloc x1 (.cells #[.int .i64 0, .bool false, .int .i64 0, .int .i64 0, .int .i64 0, .int .i64 0, .int .i64 0, .int .i64 0, .int .i64 0, .int .i64 0, .int .i64 0, .int .i64 0, .int .i64 0, .int .i64 0, .int .i64 0] 28))
              refine hK.out _ _ (hH.later (below_alloc _ _)) (fun hH => ?_)
              refine wpAnyH_ready (rs := [7]) (by kernel_rfl) (by simp) ?_
              refine AllReadyH.cons (o := { dst := some 32, op := Op.call { callee := Callee.value (Operand.func 12), args := #[Operand.tmp 26, Operand.tmp 27, Operand.tmp 31], argTypes := #[24, 28, 35] }, type := 31, pos := "outright.go:212", after := #[{ on := 1, ground := Ground.data }, { on := 2, ground := Ground.data }, { on := 6, ground := Ground.data }, { on := 1, ground := Ground.chain }], guard := none }) rfl (fun K hK => ?_) AllReadyH.nil
              go_simp
              refine (SK.out _ _ orow.rd).mono ?_
              rintro e x3 ⟨ra, rn, rc, rfl, rrow, bX⟩
              have orow := orow.later bX
              have hN := hN.below bX
              have rrow := rrow.mono hH.bb.size
              refine hK.out _ _ (hH.later bX) (fun hH => ?_)
              refine wpAnyH_take (i := 8) (oi := { dst := some 24, op := Op.move (Operand.tmp 32), type := 31, pos := "outright.go:212", after := #[{ on := 7, ground := Ground.data }], guard := none }) (v := .tuple #[csV ans.2.1, .slice ra rn rc, .int .i64 ans.1]) rfl (by kernel_rfl) (by kernel_rfl) (by kernel_rfl) (fun _ _ _ h => h) (Or.inl ⟨by rfl, fun w' h => by go_simp⟩) hH ?_
              try simp only [Act.put, List.setIfInBounds_toArray, List.set_cons_zero, List.set_cons_succ]
              refine wpAnyH_take (i := 9) (oi := { dst := some 33, op := Op.extract (Operand.tmp 24) 0, type := 28, pos := "outright.go:212", after := #[{ on := 8, ground := Ground.data }], guard := none }) (v := csV ans.2.1) rfl (by kernel_rfl) (by kernel_rfl) (by kernel_rfl) (fun _ _ _ h => h) (Or.inl ⟨by rfl, fun w' h => by go_simp⟩) hH ?_
              try simp only [Act.put, List.setIfInBounds_toArray, List.set_cons_zero, List.set_cons_succ]
              refine wpAnyH_take (i := 10) (oi := { dst := some 34, op := Op.extract (Operand.tmp 24) 1, type := 22, pos := "outright.go:212", after := #[{ on := 8, ground := Ground.data }, { on := 13, ground := Ground.gcOnly Departure.lateStores }], guard := none }) (v := .slice ra rn rc) rfl (by kernel_rfl) (by kernel_rfl) (by kernel_rfl) (fun _ _ _ h => h) (Or.inl ⟨by rfl, fun w' h => by go_simp⟩) hH ?_
              try simp only [Act.put, List.setIfInBounds_toArray, List.set_cons_zero, List.set_cons_succ]
              refine wpAnyH_take (i := 11) (oi := { dst := some 35, op := Op.extract (Operand.tmp 24) 2, type := 30, pos := "outright.go:212", after := #[{ on := 8, ground := Ground.data }, { on := 14, ground := Ground.gcOnly Departure.lateStores }], guard := none }) (v := .int .i64 ans.1) rfl (by kernel_rfl) (by kernel_rfl) (by kernel_rfl) (fun _ _ _ h => h) (Or.inl ⟨by rfl, fun w' h => by go_simp⟩) hH ?_
              try simp only [Act.put, List.setIfInBounds_toArray, List.set_cons_zero, List.set_cons_succ]
              refine wpAnyH_ready (rs := [13]) (by kernel_rfl) (by simp) ?_
              refine AllReadyH.cons (o := { dst := none, op := Op.store 28 (Operand.tmp 7) (Operand.tmp 33), type := 0, pos := "outright.go:212", after := #[{ on := 12, ground := Ground.data }, { on := 9, ground := Ground.data }, { on := 7, ground := Ground.chain }, { on := 0, ground := Ground.phase }, { on := 1, ground := Ground.phase }, { on := 2, ground := Ground.phase }, { on := 3, ground := Ground.phase }, { on := 4, ground := Ground.phase }, { on := 5, ground := Ground.phase }, { on := 6, ground := Ground.phase }, { on := 7, ground := Ground.phase }, { on := 8, ground := Ground.phase }, { on := 9, ground := Ground.phase }, { on := 10, ground := Ground.textOnly Departure.lateStores }, { on := 11, ground := Ground.textOnly Departure.lateStores }, { on := 12, ground := Ground.phase }], guard := none }) rfl (fun K hK => ?_) AllReadyH.nil
              refine op_putC (zs := csL ⟨0, false, 0, 0, 0, 0, 0, 0, 0, 0, 0, 0, 0, 0, 0⟩) (csL ans.2.1) rfl (sizeCsL _) (csL_one _) rfl _ _ rfl _ rfl rfl hN ?_
              intro w9 b9 g9
              have PX : Hid (SA w l s c CB _ ans (.slice ra rn rc) w9) := ⟨hH.grown g9 hG, b9, hG, rowV_blk rrow hN g9 (by decide)⟩
              refine hK.out _ _ PX.out.ls (fun hH => ?_)
              simp only [Act.put]
              refine wpAnyH_take (i := 14) (oi := { dst := some 8, op := Op.assign (Operand.tmp 34), type := 22, pos := "outright.go:212", after := #[{ on := 10, ground := Ground.data }, { on := 13, ground := Ground.chain }, { on := 0, ground := Ground.phase }, { on := 1, ground := Ground.phase }, { on := 2, ground := Ground.phase }, { on := 3, ground := Ground.phase }, { on := 4, ground := Ground.phase }, { on := 5, ground := Ground.phase }, { on := 6, ground := Ground.phase }, { on := 7, ground := Ground.phase }, { on := 8, ground := Ground.phase }, { on := 9, ground := Ground.phase }, { on := 10, ground := Ground.phase }, { on := 11, ground := Ground.textOnly Departure.lateStores }, { on := 12, ground := Ground.phase }, { on := 13, ground := Ground.phase }], guard := none }) (v := .slice ra rn rc) rfl (by kernel_rfl) (by kernel_rfl) (by kernel_rfl) (fun _ _ _ h => h) (Or.inl ⟨by rfl, fun w' h => by go_simp⟩) hH ?_
              try simp only [Act.put, List.setIfInBounds_toArray, List.set_cons_zero, List.set_cons_succ]
              refine wpAnyH_take (i := 15) (oi := { dst := some 9, op := Op.assign (Operand.tmp 35), type := 30, pos := "outright.go:212", after := #[{ on := 11, ground := Ground.data }, { on := 14, ground := Ground.chain }, { on := 0, ground := Ground.phase }, { on := 1, ground := Ground.phase }, { on := 2, ground := Ground.phase }, { on := 3, ground := Ground.phase }, { on := 4, ground := Ground.phase }, { on := 5, ground := Ground.phase }, { on := 6, ground := Ground.phase }, { on := 7, ground := Ground.phase }, { on := 8, ground := Ground.phase }, { on := 9, ground := Ground.phase }, { on := 10, ground := Ground.phase }, { on := 11, ground := Ground.phase }, { on := 12, ground := Ground.phase }, { on := 13, ground := Ground.phase }, { on := 14, ground := Ground.phase }], guard := none }) (v := .int .i64 ans.1) rfl (by kernel_rfl) (by kernel_rfl) (by kernel_rfl) (fun _ _ _ h => h) (Or.inl ⟨by rfl, fun w' h => by go_simp⟩) hH ?_
              try simp only [Act.put, List.setIfInBounds_toArray, List.set_cons_zero, List.set_cons_succ]
              refine wpAnyH_done (by kernel_rfl) ?_ _
              clear hH hK b9 g9 hN
              go_wp2_with fail
              go_meet
              case rel => exact ⟨_, _, _, _, rfl, rfl, rfl, PX⟩
          · go_simp
            have hN : Blk wr.drew.heap.size 28 (csL ⟨0, false, 0, 0, 0, 0, 0, 0, 0, 0, 0, 0, 0, 0, 0⟩) (wr.drew.alloc (.cells #[.int .i64 0, .bool false, .int .i64 0, .int .i64 0, .int .i64 0, .int .i64 0, .int .i64 0, .int .i64 0, .int .i64 0, .int .i64 0, .int .i64 0, .int .i64 0, .int .i64 0, .int .i64 0, .int .i64 0] 28)) := Blk.new _ _ _
            have hG : CB < wr.drew.heap.size := hH.c.lt
            refine hK.out _ _ (hH.later (below_alloc _ _)) (fun hH => ?_)
            refine wpAnyH_ready (rs := [1]) (by kernel_rfl) (by simp) ?_
            refine AllReadyH.cons (o := { dst := some 26, op := Op.call { callee := Callee.value (Operand.func 13), args := #[Operand.tmp 25], argTypes := #[24] }, type := 24, pos := "outright.go:212", after := #[{ on := 0, ground := Ground.data }], guard := none }) rfl (fun K hK => ?_) AllReadyH.nil
            go_simp
            refine (OW.out _ hH.bb).mono ?_
            rintro e x4 ⟨oa, on, oc, rfl, orow, bX⟩
            have hN := hN.below bX
            refine hK.out _ _ (hH.later bX) (fun hH => ?_)
            refine wpAnyH_ready (rs := [7]) (by kernel_rfl) (by simp) ?_
            refine AllReadyH.cons (o := { dst := some 32, op := Op.call { callee := Callee.value (Operand.func 12), args := #[Operand.tmp 26, Operand.tmp 27, Operand.tmp 31], argTypes := #[24, 28, 35] }, type := 31, pos := "outright.go:212", after := #[{ on := 1, ground := Ground.data }, { on := 2, ground := Ground.data }, { on := 6, ground := Ground.data }, { on := 1, ground := Ground.chain }], guard := none }) rfl (fun K hK => ?_) AllReadyH.nil
            go_simp
            refine (SK.out _ _ orow.rd).mono ?_
            rintro e x5 ⟨ra, rn, rc, rfl, rrow, bX⟩
            have hN := hN.below bX
            have orow := orow.later bX
            have rrow := rrow.mono hH.bb.size
            refine hK.out _ _ (hH.later bX) (fun hH => ?_)
            refine wpAnyH_take (i := 8) (oi := { dst := some 24, op := Op.move (Operand.tmp 32), type := 31, pos := "outright.go:212", after := #[{ on := 7, ground := Ground.data }], guard := none }) (v := .tuple #[csV ans.2.1, .slice ra rn rc, .int .i64 ans.1]) rfl (by kernel_rfl) (by kernel_rfl) (by kernel_rfl) (fun _ _ _ h => h) (Or.inl ⟨by rfl, fun w' h => by go_simp⟩) hH ?_
            try simp only [Act.put, List.setIfInBounds_toArray, List.set_cons_zero, List.set_cons_succ]
            refine wpAnyH_take (i := 9) (oi := { dst := some 33, op := Op.extract (Operand.tmp 24) 0, type := 28, pos := "outright.go:212", after := #[{ on := 8, ground := Ground.data }], guard := none }) (v := csV ans.2.1) rfl (by kernel_rfl) (by kernel_rfl) (by kernel_rfl) (fun _ _ _ h => h) (Or.inl ⟨by rfl, fun w' h => by go_simp⟩) hH ?_
            try simp only [Act.put, List.setIfInBounds_toArray, List.set_cons_zero, List.set_cons_succ]
            refine wpAnyH_take (i := 10) (oi := { dst := some 34, op := Op.extract (Operand.tmp 24) 1, type := 22, pos := "outright.go:212", after := #[{ on := 8, ground := Ground.data }, { on := 13, ground := Ground.gcOnly Departure.lateStores }], guard := none }) (v := .slice ra rn rc) rfl (by kernel_rfl) (by kernel_rfl) (by kernel_rfl) (fun _ _ _ h => h) (Or.inl ⟨by rfl, fun w' h => by go_simp⟩) hH ?_
            try simp only [Act.put, List.setIfInBounds_toArray, List.set_cons_zero, List.set_cons_succ]
            refine wpAnyH_take (i := 11) (oi := { dst := some 35, op := Op.extract (Operand.tmp 24) 2, type := 30, pos := "outright.go:212", after := #[{ on := 8, ground := Ground.data }, { on := 14, ground := Ground.gcOnly Departure.lateStores }], guard := none }) (v := .int .i64 ans.1) rfl (by kernel_rfl) (by kernel_rfl) (by kernel_rfl) (fun _ _ _ h => h) (Or.inl ⟨by rfl, fun w' h => by go_simp⟩) hH ?_
            try simp only [Act.put, List.setIfInBounds_toArray, List.set_cons_zero, List.set_cons_succ]
            refine wpAnyH_ready (rs := [13]) (by kernel_rfl) (by simp) ?_
            refine AllReadyH.cons (o := { dst := none, op := Op.store 28 (Operand.tmp 7) (Operand.tmp 33), type := 0, pos := "outright.go:212", after := #[{ on := 12, ground := Ground.data }, { on := 9, ground := Ground.data }, { on := 7, ground := Ground.chain }, { on := 0, ground := Ground.phase }, { on := 1, ground := Ground.phase }, { on := 2, ground := Ground.phase }, { on := 3, ground := Ground.phase }, { on := 4, ground := Ground.phase }, { on := 5, ground := Ground.phase }, { on := 6, ground := Ground.phase }, { on := 7, ground := Ground.phase }, { on := 8, ground := Ground.phase }, { on := 9, ground := Ground.phase }, { on := 10, ground := Ground.textOnly Departure.lateStores }, { on := 11, ground := Ground.textOnly Departure.lateStores }, { on := 12, ground := Ground.phase }], guard := none }) rfl (fun K hK => ?_) AllReadyH.nil
            refine op_putC (zs := csL ⟨0, false, 0, 0, 0, 0, 0, 0, 0, 0, 0, 0, 0, 0, 0⟩) (csL ans.2.1) rfl (sizeCsL _) (csL_one _) rfl _ _ rfl _ rfl rfl hN ?_
            intro w9 b9 g9
            have PX : Hid (SA w l s c CB _ ans (.slice ra rn rc) w9) := ⟨hH.grown g9 hG, b9, hG, rowV_blk rrow hN g9 (by decide)⟩
            refine hK.out _ _ PX.out.ls (fun hH => ?_)
            simp only [Act.put]
            refine wpAnyH_take (i := 14) (oi := { dst := some 8, op := Op.assign (Operand.tmp 34), type := 22, pos := "outright.go:212", after := #[{ on := 10, ground := Ground.data }, { on := 13, ground := Ground.chain }, { on := 0, ground := Ground.phase }, { on := 1, ground := Ground.phase }, { on := 2, ground := Ground.phase }, { on := 3, ground := Ground.phase }, { on := 4, ground := Ground.phase }, { on := 5, ground := Ground.phase }, { on := 6, ground := Ground.phase }, { on := 7, ground := Ground.phase }, { on := 8, ground := Ground.phase }, { on := 9, ground := Ground.phase }, { on := 10, ground := Ground.phase }, { on := 11, ground := Ground.textOnly Departure.lateStores }, { on := 12, ground := Ground.phase }, { on := 13, ground := Ground.phase }], guard := none }) (v := .slice ra rn rc) rfl (by kernel_rfl) (by kernel_rfl) (by kernel_rfl) (fun _ _ _ h => h) (Or.inl ⟨by rfl, fun w' h => by go_simp⟩) hH ?_
            try simp only [Act.put, List.setIfInBounds_toArray, List.set_cons_zero, List.set_cons_succ]
            refine wpAnyH_take (i := 15) (oi := { dst := some 9, op := Op.assign (Operand.tmp 35), type := 30, pos := "outright.go:212", after := #[{ on := 11, ground := Ground.data }, { on := 14, ground := Ground.chain }, { on := 0, ground := Ground.phase }, { on := 1, ground := Ground.phase }, { on := 2, ground := Ground.phase }, { on := 3, ground := Ground.phase }, { on := 4, ground := Ground.phase }, { on := 5, ground := Ground.phase }, { on := 6, ground := Ground.phase }, { on := 7, ground := Ground.phase }, { on := 8, ground := Ground.phase }, { on := 9, ground := Ground.phase }, { on := 10, ground := Ground.phase }, { on := 11, ground := Ground.phase }, { on := 12, ground := Ground.phase }, { on := 13, ground := Ground.phase }, { on := 14, ground := Ground.phase }], guard := none }) (v := .int .i64 ans.1) rfl (by kernel_rfl) (by kernel_rfl) (by kernel_rfl) (fun _ _ _ h => h) (Or.inl ⟨by rfl, fun w' h => by go_simp⟩) hH ?_
            try simp only [Act.put, List.setIfInBounds_toArray, List.set_cons_zero, List.set_cons_succ]
            refine wpAnyH_done (by kernel_rfl) ?_ _
            clear hH hK b9 g9 hN
            go_wp2_with fail
            go_meet
            case rel => exact ⟨_, _, _, _, rfl, rfl, rfl, PX⟩
        case rest =>
          obtain ⟨G, ra, rn, rc, rfl, rfl, rfl, SX⟩ := hcut
          clear SR
          obtain ⟨t1, t5, t6, t2, t7, t4, t8, t3, tl⟩ := TT.out
          have CN : Hid (∀ x m, Calls Try.prog 17 #[.slice ra rn rc, .int .i64 x] (wc.drewN m) fun e w'' => e = .returned (.int .i64 (cnt x ans.2.2)) ∧ w'' = wc.drewN m) := fun x m => cnt_at x ans.2.2 _ _ (SX.out.r.rd.drewN m) (by omega)
          have d10 : wc.cell? ⟨G, 10, none⟩ = some (.int .i64 ans.2.1.br) := SX.out.d.cell 10 _ rfl
          have c10 : wc.cell? ⟨CB, 10, none⟩ = some (.int .i64 c.br) := SX.out.ls.cs 10 _ rfl
          have d9 : wc.cell? ⟨G, 9, none⟩ = some (.int .i64 ans.2.1.ke) := SX.out.d.cell 9 _ rfl
          have c9 : wc.cell? ⟨CB, 9, none⟩ = some (.int .i64 c.ke) := SX.out.ls.cs 9 _ rfl
          have d11 : wc.cell? ⟨G, 11, none⟩ = some (.int .i64 ans.2.1.cu) := SX.out.d.cell 11 _ rfl
          have c11 : wc.cell? ⟨CB, 11, none⟩ = some (.int .i64 c.cu) := SX.out.ls.cs 11 _ rfl
          go_upto_region 8 with fail
          go_quiet ((go_at_call 17; exact Calls.quiet_of_same (CN.out _ _)))
          have SY : Hid (SA w l s c CB G ans (.slice ra rn rc) (wc.drewN nq)) := SX.out.drewN nq
          clear CN
          generalize wc.drewN nq = x1 at *
          have CN : Hid (∀ x m, Calls Try.prog 17 #[.slice ra rn rc, .int .i64 x] (x1.drewN m) fun e w'' => e = .returned (.int .i64 (cnt x ans.2.2)) ∧ w'' = x1.drewN m) := fun x m => cnt_at x ans.2.2 _ _ (SY.out.r.rd.drewN m) (by omega)
          have d2a : x1.cell? ⟨G, 2, none⟩ = some (.int .i64 ans.2.1.cy) := SY.out.d.cell 2 _ rfl
          have c2a : x1.cell? ⟨CB, 2, none⟩ = some (.int .i64 c.cy) := SY.out.ls.cs 2 _ rfl
          have d12a : x1.cell? ⟨G, 12, none⟩ = some (.int .i64 ans.2.1.re) := SY.out.d.cell 12 _ rfl
          have c12a : x1.cell? ⟨CB, 12, none⟩ = some (.int .i64 c.re) := SY.out.ls.cs 12 _ rfl
          go_upto_region 10 with fail
          go_quiet ((go_at_call 17; exact Calls.quiet_of_same (CN.out _ _)))
          have SZ1 : Hid (SA w l s c CB G ans (.slice ra rn rc) (x1.drewN nq)) := SY.out.drewN nq
          clear CN
          generalize x1.drewN nq = x2 at *
          have CN : Hid (∀ x m, Calls Try.prog 17 #[.slice ra rn rc, .int .i64 x] (x2.drewN m) fun e w'' => e = .returned (.int .i64 (cnt x ans.2.2)) ∧ w'' = x2.drewN m) := fun x m => cnt_at x ans.2.2 _ _ (SZ1.out.r.rd.drewN m) (by omega)
          have d0b : x2.cell? ⟨G, 0, none⟩ = some (.int .i64 ans.2.1.st) := SZ1.out.d.cell 0 _ rfl
          have c0b : x2.cell? ⟨CB, 0, none⟩ = some (.int .i64 c.st) := SZ1.out.ls.cs 0 _ rfl
          go_upto_region 12 with fail
          go_cut [93] from 24 to 123 (fun v wx => v = .bool false ∧ Hid (SA w l s c CB G ans (.slice ra rn rc) wx))
          case first =>
            by_cases q8 : ans.2.1.st = 8
            · have e8 : (ans.2.1.st == 8) = true := by simpa using q8
              rw [e8, Bool.true_and] at t4
              have HT : Hid (((c.st != 8) != (cnt 4 ans.2.2 == 1)) = false) := t4
              clear q8 t4
              go_quiet ((go_at_call 17; exact Calls.quiet_of_same (CN.out _ _)))
              go_wp2_with fail
              go_meet
              case rel => exact ⟨congrArg Value.bool HT.out, SZ1.out.drewN _⟩
            · have e8 : (ans.2.1.st == 8) = false := by simpa using q8
              rw [e8, Bool.false_and] at t4
              have HT : Hid ((cnt 4 ans.2.2 == 1) = false) := by
                show _ = _
                cases hz : (cnt 4 ans.2.2 == 1)
                · rfl
                · rw [hz] at t4; cases t4
              clear q8 t4
              go_quiet ((go_at_call 17; exact Calls.quiet_of_same (CN.out _ _)))
              go_wp2_with fail
              go_meet
              case rel => exact ⟨congrArg Value.bool HT.out, SZ1.out.drewN _⟩
          case rest =>
            obtain ⟨rfl, SV⟩ := hcut
            clear CN
            have CN : Hid (∀ x m, Calls Try.prog 17 #[.slice ra rn rc, .int .i64 x] (wc.drewN m) fun e w'' => e = .returned (.int .i64 (cnt x ans.2.2)) ∧ w'' = wc.drewN m) := fun x m => cnt_at x ans.2.2 _ _ (SV.out.r.rd.drewN m) (by omega)
            have d0c : wc.cell? ⟨G, 0, none⟩ = some (.int .i64 ans.2.1.st) := SV.out.d.cell 0 _ rfl
            have c0c : wc.cell? ⟨CB, 0, none⟩ = some (.int .i64 c.st) := SV.out.ls.cs 0 _ rfl
            go_upto_region 14 with fail
            go_cut [105] from 24 to 123 (fun v wx => v = .bool false ∧ Hid (SA w l s c CB G ans (.slice ra rn rc) wx))
            case first =>
              by_cases q8 : ans.2.1.st = 9
              · have e8 : (ans.2.1.st == 9) = true := by simpa using q8
                rw [e8, Bool.true_and] at t8
                have HT : Hid (((c.st != 9) != (cnt 8 ans.2.2 == 1)) = false) := t8
                clear q8 t8
                go_quiet ((go_at_call 17; exact Calls.quiet_of_same (CN.out _ _)))
                go_wp2_with fail
                go_meet
                case rel => exact ⟨congrArg Value.bool HT.out, SV.out.drewN _⟩
              · have e8 : (ans.2.1.st == 9) = false := by simpa using q8
                rw [e8, Bool.false_and] at t8
                have HT : Hid ((cnt 8 ans.2.2 == 1) = false) := by
                  show _ = _
                  cases hz : (cnt 8 ans.2.2 == 1)
                  · rfl
                  · rw [hz] at t8; cases t8
                clear q8 t8
                go_quiet ((go_at_call 17; exact Calls.quiet_of_same (CN.out _ _)))
                go_wp2_with fail
                go_meet
                case rel => exact ⟨congrArg Value.bool HT.out, SV.out.drewN _⟩
            case rest =>
              obtain ⟨rfl, SU⟩ := hcut
              clear CN
              have CN : Hid (∀ x, Calls Try.prog 17 #[.slice ra rn rc, .int .i64 x] wc fun e w'' => e = .returned (.int .i64 (cnt x ans.2.2)) ∧ wc = w'') := fun x => (cnt_at x ans.2.2 _ _ SU.out.r.rd (by omega)).mono fun _ _ k => ⟨k.1, k.2.symm⟩
              have d1d : wc.cell? ⟨G, 1, none⟩ = some (.bool ans.2.1.su) := SU.out.d.cell 1 _ rfl
              have c1d : wc.cell? ⟨CB, 1, none⟩ = some (.bool c.su) := SU.out.ls.cs 1 _ rfl
              have rl : rn = ans.2.2.length := by
                obtain ⟨a', c', q, _⟩ := SU.out.r.rd.len
                injection q with _ q _
                rw [q, bkL_len]
              have hrn : ¬ (3 : Int) < (rn : Int) := by omega
              clear rl
              cases us : ans.2.1.su
              · rw [us] at d1d t3
                go_wp2_with (first
                | ((with_reducible refine at_loadT 28 ?_); refine step_load rfl 28 _ rfl G 0 rfl (csL ans.2.1) _ (Blk.all SU.out.d) Try.underlying28 rfl (sizeCsL _) ?_)
                | ((with_reducible refine at_store ?_); refine step_store rfl 28 _ _ rfl CB 0 28 _ (csL ans.2.1) rfl rfl SU.out.ls.c (Nat.le_refl 15) (sizeCsL _) (csL_one _) ?_; intro w8 n8 g8))
                have S8 : Hid (LS w l s ans.2.1 CB w8) := SU.out.ls.put n8 g8
                clear n8 g8
                go_roundw
                case rel => exact ⟨k + 1, ans.2.1, by go_num, by omega, IN, S8⟩
                case measure => simp [intOf]; omega
              · rw [us] at d1d t3
                cases uc : c.su
                · rw [uc] at c1d t3
                  have t3' := t3 rfl
                  clear t3
                  go_wp2_with fail
                  refine (CN.out 3).mono ?_
                  rintro e x9 ⟨rfl, rfl⟩
                  go_wp2_with (first
                  | ((with_reducible refine at_loadT 28 ?_); refine step_load rfl 28 _ rfl G 0 rfl (csL ans.2.1) _ (Blk.all SU.out.d) Try.underlying28 rfl (sizeCsL _) ?_)
                  | ((with_reducible refine at_store ?_); refine step_store rfl 28 _ _ rfl CB 0 28 _ (csL ans.2.1) rfl rfl SU.out.ls.c (Nat.le_refl 15) (sizeCsL _) (csL_one _) ?_; intro w8 n8 g8))
                  have S8 : Hid (LS w l s ans.2.1 CB w8) := SU.out.ls.put n8 g8
                  clear n8 g8
                  go_roundw
                  case rel => exact ⟨k + 1, ans.2.1, by go_num, by omega, IN, S8⟩
                  case measure => simp [intOf]; omega
                · rw [uc] at c1d t3
                  go_wp2_with (first
                  | ((with_reducible refine at_loadT 28 ?_); refine step_load rfl 28 _ rfl G 0 rfl (csL ans.2.1) _ (Blk.all SU.out.d) Try.underlying28 rfl (sizeCsL _) ?_)
                  | ((with_reducible refine at_store ?_); refine step_store rfl 28 _ _ rfl CB 0 28 _ (csL ans.2.1) rfl rfl SU.out.ls.c (Nat.le_refl 15) (sizeCsL _) (csL_one _) ?_; intro w8 n8 g8))
                  have S8 : Hid (LS w l s ans.2.1 CB w8) := SU.out.ls.put n8 g8
                  clear n8 g8
                  go_roundw
                  case rel => exact ⟨k + 1, ans.2.1, by go_num, by omega, IN, S8⟩
                  case measure => simp [intOf]; omega
      · obtain rfl : k = N := by omega
        go_wp2_with fail
        go_ret
        exact ⟨rfl, SR.out.bb⟩
end Go.Proofs.Ytmhjghaipfijdaa
