/-
  Ours: the walk of CollectShape (gen_colaw.py: THE SEAT's OWN NUMBERS).
-/
import Derived.Test.YtmhjghaipfijdaaCoTol
namespace Go.Proofs.Ytmhjghaipfijdaa
open Go.RowKit LedM PolM CoM

namespace CoM
/-- What CollectShape asks of a case. -/
structure SH (c : Cs) : Prop where
  h1 : 1 ≤ c.st ∧ c.st ≤ 9
  h2 : (c.st = 3 ∨ c.st = 4 ∨ c.st = 5) → 1 ≤ c.si ∧ c.si ≤ c.dl
  h3 : ¬ (c.st = 3 ∨ c.st = 4 ∨ c.st = 5) → c.si = 0 ∧ c.dl = 0 ∧ c.su = false
  h4 : c.st = 4 → 1 ≤ c.pd ∧ 1 ≤ c.pa ∧ 0 ≤ c.pg ∧ c.pg < c.pa ∧ 1 ≤ c.pr
  h5 : c.st ≠ 4 → c.pd = 0 ∧ c.pa = 0 ∧ c.pg = 0
  h6 : c.st = 5 → c.su = true
  h7 : c.st = 3 → c.su = false
theorem su_t {b : Bool} (h : sI b = 1) : b = true := by cases b; (simp [sI] at h); rfl
theorem su_f {b : Bool} (h : sI b = 0) : b = false := by cases b; rfl; (simp [sI] at h)
theorem sh_of {q : Pn} {n : Int} {c : Cs} (P : Pol q) (I : Inv q n c) : SH c := by
  obtain ⟨a1, a2, a3, a4, a5, a6, a7, a8, a9, a10, a11, a12, a13⟩ := I
  have b3 := P.co
  refine ⟨a1, fun h => ?_, fun h => ?_, fun h => ?_, a11, fun h => su_t (a12.1 h), fun h => su_f (a12.2 h)⟩
  · have := a8 h; omega
  · have := a9 h; exact ⟨this.1, this.2.1, su_f this.2.2.2.2⟩
  · have := a10 h; omega
theorem sh_fresh : SH fresh := by
  refine ⟨?_, ?_, ?_, ?_, ?_, ?_, ?_⟩ <;> simp [fresh]
theorem sh_next {l hs : List Int} {c : Cs} {e : Ev} {n : Int} (h : SH c) (hI : Inv (pn l) n (stepA l hs c e).2.1 ∨ good l hs = false) : SH (stepA l hs c e).2.1 := by
  cases hg : good l hs
  · rw [step_bad hg]; exact h
  · exact sh_of (pol_of hg) (hI.resolve_right (by rw [hg]; decide))
end CoM
set_option maxRecDepth 20000 in
set_option maxHeartbeats 8000000 in
theorem shape_any (l hs : List Int) (s v : Value) (es : List Ev) (w : World) (hl : l.length = 17) (hr : Rd w s (bkL hs)) (hb : hs.length * 8 ≤ 140737488355328) (er : RdV w v es) (hE : es.length ≤ 4398046511104) (okE : ∀ i, EvOk (eN es i)) :
    Calls Try.prog 4 #[PV l s, v] w fun e w' => e = .returned (.bool true) ∧ Below w.heap.size w w' := by
  show Calls _ _ #[.agg (polL l s).toArray, _] _ _
  have OW : Hid (∀ w', Below w.heap.size w w' → Calls Try.prog 13 #[PV l s] w' (OwnAns l hs w')) := fun w' h => own_at l hs s w' hl (hr.later h) hb
  have FR : Hid (∀ w', Calls Try.prog 11 #[] w' fun e w'' => e = .returned (csV fresh) ∧ Below w'.heap.size w' w'') := fresh_at
  have MY : Hid (∀ w', Below w.heap.size w w' → Calls Try.prog 9 #[PV l s] w' fun e w'' => e = .returned (.bool (good l hs)) ∧ Below w'.heap.size w' w'') := fun w' h => mayc_at l hs s w' hl (hr.later h) (by omega)
  have OP : Hid (good l hs = true → ∀ w', Below w.heap.size w w' → Calls Try.prog 10 #[PV l s] w' fun e w'' => e = .returned (.bool true) ∧ Below w'.heap.size w' w'') := fun hg w' h => opens_at l hs s w' hl (hr.later h) hb hg
  have ST : Hid (∀ c ev s' w', Rd w' s' (bkL hs) → Calls Try.prog 12 #[PV l s', csV c, evV ev] w' (StepAns (stepA l hs c ev) w')) := fun c ev s' w' h => step_at l hs s' c ev w' hl h (by omega)
  have SZ : Hid ((Try.prog.info? 24).map (·.size) = some (polL l s).length) := by show _ = _; rw [polL_len hl]; exact sizeP
  have S0 : Hid (PS w l s (w.alloc (.cells (polL l s).toArray 24))) := ⟨Blk.new _ _ _, below_alloc _ _⟩
  have HL : Hid (l.length = 17) := hl
  have ER : Hid (RdV w v es) := er
  obtain ⟨ao, cap, rfl, hcap, hno, er'⟩ := er
  have EC : Hid (∀ k, k < es.length → ∃ g o, ao = some ⟨g, o, none⟩ ∧ g < w.heap.size ∧ w.rangeAt g (o + k * 4) (evL (eN es k))) := er'
  have OK : Hid (∀ k, EvOk (eN es k)) := okE
  clear hl hr hb er' ER okE hno
  generalize es.length = N at *
  cases hg : good l hs
  · go_enter Try.func4, Try.ntmps4
    go_upto_region 1 with fail
    generalize w.alloc (.cells (polL l s).toArray 24) = w0 at *
    go_wp2_with ((with_reducible refine at_loadT 24 ?_); refine step_load rfl 24 _ rfl w.heap.size 0 rfl (polL l s) _ (Blk.all S0.out.p) Try.underlying24 rfl SZ.out ?_)
    refine (MY.out _ S0.out.bb).mono ?_
    rw [hg]
    rintro e w2 ⟨rfl, bX⟩
    have S2 : Hid (PS w l s w2) := S0.out.later bX
    clear bX
    go_wp2_with fail
    refine (FR.out _).mono ?_
    rintro e w3 ⟨rfl, bX⟩
    have S3 : Hid (PS w l s w3) := S2.out.later bX
    clear bX S2
    have NZ : Hid (Blk w3.heap.size 28 (csL ⟨0, false, 0, 0, 0, 0, 0, 0, 0, 0, 0, 0, 0, 0, 0⟩) (w3.alloc (.cells #[.int .i64 0, .bool false, .int .i64 0, .int .i64 0, .int .i64 0, .int .i64 0, .int .i64 0, .int .i64 0, .int .i64 0, .int .i64 0, .int .i64 0, .int .i64 0, .int .i64 0, .int .i64 0, .int .i64 0] 28))) := Blk.new _ _ _
    go_upto_region 4 with ((with_reducible refine at_store ?_); refine step_store rfl 28 _ _ rfl w3.heap.size 0 28 (csL ⟨0, false, 0, 0, 0, 0, 0, 0, 0, 0, 0, 0, 0, 0, 0⟩) (csL fresh) rfl rfl NZ.out (Nat.le_refl 15) (sizeCsL _) (csL_one _) ?_; intro w4 n4 g4)
    have S4 : Hid (LS w l s fresh w3.heap.size w4) := by
      have x := S3.out.later (below_alloc w3 (.cells #[.int .i64 0, .bool false, .int .i64 0, .int .i64 0, .int .i64 0, .int .i64 0, .int .i64 0, .int .i64 0, .int .i64 0, .int .i64 0, .int .i64 0, .int .i64 0, .int .i64 0, .int .i64 0, .int .i64 0] 28))
      have y := x.grown g4 S3.out.p.lt
      exact ⟨y.p, n4, y.bb, S3.out.p.lt⟩
    clear n4 g4 NZ S3
    obtain ⟨CB, hCB⟩ : ∃ CB, w3.heap.size = CB := ⟨_, rfl⟩
    rw [hCB] at S4
    rw [hCB]
    clear hCB
    go_wp2_with fail
    go_loopw [6, 7, 8, 9, 10, 11] (fun v6 _ _ _ _ _ wr => ∃ (k : Nat) (c : Cs), v6 = .int .i64 (k : Int) ∧ k ≤ N ∧ Hid (SH c) ∧ Hid (Inv (pn l) (k : Int) c ∨ good l hs = false) ∧ Hid (LS w l s c CB wr)) (fun v6 _ _ _ _ _ _ => N - (intOf v6).toNat)
    case atStart => exact ⟨0, fresh, rfl, by omega, sh_fresh, .inr hg, S4⟩
    case round =>
      obtain ⟨k, c, rfl, hk, SS1, IV, SR⟩ := hrel
      by_cases hlt : (k : Int) < (N : Int)
      · obtain ⟨g, o, rfl, lt, rg⟩ := EC.out k (by omega)
        have EV : Hid (∀ w', Below w.heap.size w w' → w'.rangeAt g (o + k * 4) (evL (eN es k))) := fun w' h => range_laterC rg lt h
        have EK : Hid (EvOk (eN es k)) := OK.out k
        clear rg lt EC
        generalize eN es k = ev at *
        have SK : Hid (∀ s' w', Rd w' s' (bkL hs) → Calls Try.prog 12 #[PV l s', csV c, evV ev] w' (StepAns (stepA l hs c ev) w')) := fun s' w' h => ST.out c ev s' w' h
        have SF : Hid ((stepA l hs c ev).1 ≠ 0 → (stepA l hs c ev).2 = (c, [])) := step_no
        have IN : Hid (Inv (pn l) ((k + 1 : Nat) : Int) (stepA l hs c ev).2.1 ∨ good l hs = false) := inv_next IV.out (by omega) EK.out
        have SN : Hid (SH (stepA l hs c ev).2.1) := sh_next SS1.out IN.out

        generalize stepA l hs c ev = ans at *
        go_upto_region 7 with fail
        go_cut [7, 8, 9] from 20 to 151 (fun v7 v8 v9 wx => ∃ G ra rn rc, v7 = .pointer (some ⟨G, 0, none⟩) ∧ v8 = .slice ra rn rc ∧ v9 = .int .i64 ans.1 ∧ Hid (SA w l s c CB G ans (.slice ra rn rc) wx))
        case first =>
          have hu := Try.underlying24
          have hi := SZ.out
          have hu2 := Try.underlying28
          have hi2 := sizeCsL c
          have hu3 := Try.underlying35
          have hi3 := sizeEvL ev
          refine wp_region_held_drew (S := fun w' => LS w l s c CB w') (by kernel_rfl) (SR.out.drew) (fun hH => ?_)
          refine wpAnyH_take (i := 0) (oi := { dst := some 27, op := Op.load 24 (Operand.tmp 2), type := 24, pos := "outright.go:240", after := #[], guard := none }) (v := .agg (polL l s).toArray) rfl (by kernel_rfl) (by kernel_rfl) (by kernel_rfl) (fun _ _ _ h => h) (yieldsIf_load_mid (by rfl) _ _ rfl w.heap.size 0 rfl (polL l s) _ (fun w' h => h.p.all) hu rfl hi) hH ?_
          try simp only [Act.put, List.setIfInBounds_toArray, List.set_cons_zero, List.set_cons_succ]
          refine wpAnyH_take (i := 2) (oi := { dst := some 29, op := Op.load 28 (Operand.tmp 5), type := 28, pos := "outright.go:240", after := #[], guard := none }) (v := .agg (csL c).toArray) rfl (by kernel_rfl) (by kernel_rfl) (by kernel_rfl) (fun _ _ _ h => h) (yieldsIf_load_mid (by rfl) _ _ rfl CB 0 rfl (csL c) _ (fun w' h => h.c.all) hu2 rfl hi2) hH ?_
          try simp only [Act.put, List.setIfInBounds_toArray, List.set_cons_zero, List.set_cons_succ]
          refine wpAnyH_take (i := 3) (oi := { dst := some 30, op := Op.move (Operand.tmp 1), type := 25, pos := "outright.go:240", after := #[], guard := none }) (v := .slice (some ⟨g, o, none⟩) N cap) rfl (by kernel_rfl) (by kernel_rfl) (by kernel_rfl) (fun _ _ _ h => h) (Or.inl ⟨by rfl, fun w' h => by go_simp⟩) hH ?_
          try simp only [Act.put, List.setIfInBounds_toArray, List.set_cons_zero, List.set_cons_succ]
          refine wpAnyH_take (i := 4) (oi := { dst := some 31, op := Op.move (Operand.tmp 6), type := 3, pos := "outright.go:240", after := #[], guard := none }) (v := .int .i64 (k : Int)) rfl (by kernel_rfl) (by kernel_rfl) (by kernel_rfl) (fun _ _ _ h => h) (Or.inl ⟨by rfl, fun w' h => by go_simp⟩) hH ?_
          try simp only [Act.put, List.setIfInBounds_toArray, List.set_cons_zero, List.set_cons_succ]
          refine wpAnyH_take (i := 5) (oi := { dst := some 32, op := Op.indexAddr 25 (Operand.tmp 30) (Operand.tmp 31), type := 0, pos := "outright.go:240", after := #[{ on := 3, ground := Ground.data }, { on := 4, ground := Ground.data }], guard := none }) (v := .pointer (some ⟨g, o + k * 4, none⟩)) rfl (by kernel_rfl) (by kernel_rfl) (by kernel_rfl) (fun _ _ _ h => h) (Or.inl ⟨by rfl, fun w' h => by go_simp⟩) hH ?_
          try simp only [Act.put, List.setIfInBounds_toArray, List.set_cons_zero, List.set_cons_succ]
          refine wpAnyH_take (i := 6) (oi := { dst := some 33, op := Op.load 35 (Operand.tmp 32), type := 35, pos := "outright.go:240", after := #[{ on := 5, ground := Ground.data }], guard := none }) (v := .agg (evL ev).toArray) rfl (by kernel_rfl) (by kernel_rfl) (by kernel_rfl) (fun _ _ _ h => h) (yieldsIf_load_mid (by rfl) _ _ rfl g (o + k * 4) rfl (evL ev) _ (fun w' h => EV.out _ h.bb) hu3 rfl hi3) hH ?_
          try simp only [Act.put, List.setIfInBounds_toArray, List.set_cons_zero, List.set_cons_succ]
          refine wpAnyH_ready (rs := [1, 12]) (by kernel_rfl) (by simp) ?_
          refine AllReadyH.cons (o := { dst := some 28, op := Op.call { callee := Callee.value (Operand.func 13), args := #[Operand.tmp 27], argTypes := #[24] }, type := 24, pos := "outright.go:240", after := #[{ on := 0, ground := Ground.data }], guard := none }) rfl (fun K hK => ?_) (AllReadyH.cons (o := { dst := some 7, op := Op.alloc 28, type := 0, pos := "outright.go:240", after := #[], guard := none }) rfl (fun K hK => ?_) AllReadyH.nil)
          · go_simp
            refine (OW.out _ hH.bb).mono ?_
            rintro e x1 ⟨oa, on, oc, rfl, orow, bX⟩
            refine hK.out _ _ (hH.later bX) (fun hH => ?_)
            refine wpAnyH_ready (rs := [7, 12]) (by kernel_rfl) (by simp) ?_
            refine AllReadyH.cons (o := { dst := some 34, op := Op.call { callee := Callee.value (Operand.func 12), args := #[Operand.tmp 28, Operand.tmp 29, Operand.tmp 33], argTypes := #[24, 28, 35] }, type := 31, pos := "outright.go:240", after := #[{ on := 1, ground := Ground.data }, { on := 2, ground := Ground.data }, { on := 6, ground := Ground.data }, { on := 1, ground := Ground.chain }], guard := none }) rfl (fun K hK => ?_) (AllReadyH.cons (o := { dst := some 7, op := Op.alloc 28, type := 0, pos := "outright.go:240", after := #[], guard := none }) rfl (fun K hK => ?_) AllReadyH.nil)
            · go_simp
              refine (SK.out _ _ orow.rd).mono ?_
              rintro e x2 ⟨ra, rn, rc, rfl, rrow, bX⟩
              have orow := orow.later bX
              have rrow := rrow.mono hH.bb.size
              refine hK.out _ _ (hH.later bX) (fun hH => ?_)
              refine wpAnyH_take (i := 8) (oi := { dst := some 26, op := Op.move (Operand.tmp 34), type := 31, pos := "outright.go:240", after := #[{ on := 7, ground := Ground.data }], guard := none }) (v := .tuple #[csV ans.2.1, .slice ra rn rc, .int .i64 ans.1]) rfl (by kernel_rfl) (by kernel_rfl) (by kernel_rfl) (fun _ _ _ h => h) (Or.inl ⟨by rfl, fun w' h => by go_simp⟩) hH ?_
              try simp only [Act.put, List.setIfInBounds_toArray, List.set_cons_zero, List.set_cons_succ]
              refine wpAnyH_take (i := 9) (oi := { dst := some 35, op := Op.extract (Operand.tmp 26) 0, type := 28, pos := "outright.go:240", after := #[{ on := 8, ground := Ground.data }], guard := none }) (v := csV ans.2.1) rfl (by kernel_rfl) (by kernel_rfl) (by kernel_rfl) (fun _ _ _ h => h) (Or.inl ⟨by rfl, fun w' h => by go_simp⟩) hH ?_
              try simp only [Act.put, List.setIfInBounds_toArray, List.set_cons_zero, List.set_cons_succ]
              refine wpAnyH_take (i := 10) (oi := { dst := some 36, op := Op.extract (Operand.tmp 26) 1, type := 22, pos := "outright.go:240", after := #[{ on := 8, ground := Ground.data }, { on := 13, ground := Ground.gcOnly Departure.lateStores }], guard := none }) (v := .slice ra rn rc) rfl (by kernel_rfl) (by kernel_rfl) (by kernel_rfl) (fun _ _ _ h => h) (Or.inl ⟨by rfl, fun w' h => by go_simp⟩) hH ?_
              try simp only [Act.put, List.setIfInBounds_toArray, List.set_cons_zero, List.set_cons_succ]
              refine wpAnyH_take (i := 11) (oi := { dst := some 37, op := Op.extract (Operand.tmp 26) 2, type := 30, pos := "outright.go:240", after := #[{ on := 8, ground := Ground.data }, { on := 14, ground := Ground.gcOnly Departure.lateStores }], guard := none }) (v := .int .i64 ans.1) rfl (by kernel_rfl) (by kernel_rfl) (by kernel_rfl) (fun _ _ _ h => h) (Or.inl ⟨by rfl, fun w' h => by go_simp⟩) hH ?_
              try simp only [Act.put, List.setIfInBounds_toArray, List.set_cons_zero, List.set_cons_succ]
              refine wpAnyH_ready (rs := [12]) (by kernel_rfl) (by simp) ?_
              refine AllReadyH.cons (o := { dst := some 7, op := Op.alloc 28, type := 0, pos := "outright.go:240", after := #[], guard := none }) rfl (fun K hK => ?_) AllReadyH.nil
              go_simp
              have hN : Blk x2.heap.size 28 (csL ⟨0, false, 0, 0, 0, 0, 0, 0, 0, 0, 0, 0, 0, 0, 0⟩) (x2.alloc (.cells #[.int .i64 0, .bool false, .int .i64 0, .int .i64 0, .int .i64 0, .int .i64 0, .int .i64 0, .int .i64 0, .int .i64 0, .int .i64 0, .int .i64 0, .int .i64 0, .int .i64 0, .int .i64 0, .int .i64 0] 28)) := Blk.new _ _ _
              have hG : CB < x2.heap.size := hH.c.lt
              have orow := orow.later (below_alloc x2 (.cells #[.int .i64 0, .bool false, .int .i64 0, .int .i64 0, .int .i64 0, .int .i64 0, .int .i64 0, .int .i64 0, .int .i64 0, .int .i64 0, .int .i64 0, .int .i64 0, .int .i64 0, .int .i64 0, .int .i64 0] 28))
              have rrow := rrow.later (below_alloc x2 (.cells #[.int .i64 0, .bool false, .int .i64 0, .int .i64 0, .int .i64 0, .int .i64 0, .int .i64 0, .int .i64 0, .int .i64 0, .int .i64 0, .int .i64 0, .int .i64 0, .int .i64 0, .int .i64 0, .int .i64 0] 28))
              refine hK.out _ _ (hH.later (below_alloc _ _)) (fun hH => ?_)
              refine wpAnyH_ready (rs := [13]) (by kernel_rfl) (by simp) ?_
              refine AllReadyH.cons (o := { dst := none, op := Op.store 28 (Operand.tmp 7) (Operand.tmp 35), type := 0, pos := "outright.go:240", after := #[{ on := 12, ground := Ground.data }, { on := 9, ground := Ground.data }, { on := 7, ground := Ground.chain }, { on := 0, ground := Ground.phase }, { on := 1, ground := Ground.phase }, { on := 2, ground := Ground.phase }, { on := 3, ground := Ground.phase }, { on := 4, ground := Ground.phase }, { on := 5, ground := Ground.phase }, { on := 6, ground := Ground.phase }, { on := 7, ground := Ground.phase }, { on := 8, ground := Ground.phase }, { on := 9, ground := Ground.phase }, { on := 10, ground := Ground.textOnly Departure.lateStores }, { on := 11, ground := Ground.textOnly Departure.lateStores }, { on := 12, ground := Ground.phase }], guard := none }) rfl (fun K hK => ?_) AllReadyH.nil
              refine op_putC (zs := csL ⟨0, false, 0, 0, 0, 0, 0, 0, 0, 0, 0, 0, 0, 0, 0⟩) (csL ans.2.1) rfl (sizeCsL _) (csL_one _) rfl _ _ rfl _ rfl rfl hN ?_
              intro w9 b9 g9
              have PX : Hid (SA w l s c CB _ ans (.slice ra rn rc) w9) := ⟨hH.grown g9 hG, b9, hG, rowV_blk rrow hN g9 (by decide)⟩
              refine hK.out _ _ PX.out.ls (fun hH => ?_)
              simp only [Act.put]
              refine wpAnyH_take (i := 14) (oi := { dst := some 8, op := Op.assign (Operand.tmp 36), type := 22, pos := "outright.go:240", after := #[{ on := 10, ground := Ground.data }, { on := 13, ground := Ground.chain }, { on := 0, ground := Ground.phase }, { on := 1, ground := Ground.phase }, { on := 2, ground := Ground.phase }, { on := 3, ground := Ground.phase }, { on := 4, ground := Ground.phase }, { on := 5, ground := Ground.phase }, { on := 6, ground := Ground.phase }, { on := 7, ground := Ground.phase }, { on := 8, ground := Ground.phase }, { on := 9, ground := Ground.phase }, { on := 10, ground := Ground.phase }, { on := 11, ground := Ground.textOnly Departure.lateStores }, { on := 12, ground := Ground.phase }, { on := 13, ground := Ground.phase }], guard := none }) (v := .slice ra rn rc) rfl (by kernel_rfl) (by kernel_rfl) (by kernel_rfl) (fun _ _ _ h => h) (Or.inl ⟨by rfl, fun w' h => by go_simp⟩) hH ?_
              try simp only [Act.put, List.setIfInBounds_toArray, List.set_cons_zero, List.set_cons_succ]
              refine wpAnyH_take (i := 15) (oi := { dst := some 9, op := Op.assign (Operand.tmp 37), type := 30, pos := "outright.go:240", after := #[{ on := 11, ground := Ground.data }, { on := 14, ground := Ground.chain }, { on := 0, ground := Ground.phase }, { on := 1, ground := Ground.phase }, { on := 2, ground := Ground.phase }, { on := 3, ground := Ground.phase }, { on := 4, ground := Ground.phase }, { on := 5, ground := Ground.phase }, { on := 6, ground := Ground.phase }, { on := 7, ground := Ground.phase }, { on := 8, ground := Ground.phase }, { on := 9, ground := Ground.phase }, { on := 10, ground := Ground.phase }, { on := 11, ground := Ground.phase }, { on := 12, ground := Ground.phase }, { on := 13, ground := Ground.phase }, { on := 14, ground := Ground.phase }], guard := none }) (v := .int .i64 ans.1) rfl (by kernel_rfl) (by kernel_rfl) (by kernel_rfl) (fun _ _ _ h => h) (Or.inl ⟨by rfl, fun w' h => by go_simp⟩) hH ?_
              try simp only [Act.put, List.setIfInBounds_toArray, List.set_cons_zero, List.set_cons_succ]
              refine wpAnyH_done (by kernel_rfl) ?_ _
              clear hH hK b9 g9 hN
              go_wp2_with fail
              go_meet
              case rel => exact ⟨_, _, _, _, rfl, rfl, rfl, PX⟩
            · go_simp
              have hN : Blk x1.heap.size 28 (csL ⟨0, false, 0, 0, 0, 0, 0, 0, 0, 0, 0, 0, 0, 0, 0⟩) (x1.alloc (.cells #[.int .i64 0, .bool false, .int .i64 0, .int .i64 0, .int .i64 0, .int .i64 0, .int .i64 0, .int .i64 0, .int .i64 0, .int .i64 0, .int .i64 0, .int .i64 0, .int .i64 0, .int .i64 0, .int .i64 0] 28)) := Blk.new _ _ _
              have hG : CB < x1.heap.size := hH.c.lt
              have orow := orow.later (below_alloc x1 (.cells #[.int .i64 0, .bool false, .int .i64 0, .int .i64 0, .int .i64 0, .int .i64 0, .int .i64 0, .int .i64 0, .int .i64 0, .int .i64 0, .int .i64 0, .int .i64 0, .int .i64 0, .int .i64 0, .int .i64 0] 28))
              refine hK.out _ _ (hH.later (below_alloc _ _)) (fun hH => ?_)
              refine wpAnyH_ready (rs := [7]) (by kernel_rfl) (by simp) ?_
              refine AllReadyH.cons (o := { dst := some 34, op := Op.call { callee := Callee.value (Operand.func 12), args := #[Operand.tmp 28, Operand.tmp 29, Operand.tmp 33], argTypes := #[24, 28, 35] }, type := 31, pos := "outright.go:240", after := #[{ on := 1, ground := Ground.data }, { on := 2, ground := Ground.data }, { on := 6, ground := Ground.data }, { on := 1, ground := Ground.chain }], guard := none }) rfl (fun K hK => ?_) AllReadyH.nil
              go_simp
              refine (SK.out _ _ orow.rd).mono ?_
              rintro e x3 ⟨ra, rn, rc, rfl, rrow, bX⟩
              have orow := orow.later bX
              have hN := hN.below bX
              have rrow := rrow.mono hH.bb.size
              refine hK.out _ _ (hH.later bX) (fun hH => ?_)
              refine wpAnyH_take (i := 8) (oi := { dst := some 26, op := Op.move (Operand.tmp 34), type := 31, pos := "outright.go:240", after := #[{ on := 7, ground := Ground.data }], guard := none }) (v := .tuple #[csV ans.2.1, .slice ra rn rc, .int .i64 ans.1]) rfl (by kernel_rfl) (by kernel_rfl) (by kernel_rfl) (fun _ _ _ h => h) (Or.inl ⟨by rfl, fun w' h => by go_simp⟩) hH ?_
              try simp only [Act.put, List.setIfInBounds_toArray, List.set_cons_zero, List.set_cons_succ]
              refine wpAnyH_take (i := 9) (oi := { dst := some 35, op := Op.extract (Operand.tmp 26) 0, type := 28, pos := "outright.go:240", after := #[{ on := 8, ground := Ground.data }], guard := none }) (v := csV ans.2.1) rfl (by kernel_rfl) (by kernel_rfl) (by kernel_rfl) (fun _ _ _ h => h) (Or.inl ⟨by rfl, fun w' h => by go_simp⟩) hH ?_
              try simp only [Act.put, List.setIfInBounds_toArray, List.set_cons_zero, List.set_cons_succ]
              refine wpAnyH_take (i := 10) (oi := { dst := some 36, op := Op.extract (Operand.tmp 26) 1, type := 22, pos := "outright.go:240", after := #[{ on := 8, ground := Ground.data }, { on := 13, ground := Ground.gcOnly Departure.lateStores }], guard := none }) (v := .slice ra rn rc) rfl (by kernel_rfl) (by kernel_rfl) (by kernel_rfl) (fun _ _ _ h => h) (Or.inl ⟨by rfl, fun w' h => by go_simp⟩) hH ?_
              try simp only [Act.put, List.setIfInBounds_toArray, List.set_cons_zero, List.set_cons_succ]
              refine wpAnyH_take (i := 11) (oi := { dst := some 37, op := Op.extract (Operand.tmp 26) 2, type := 30, pos := "outright.go:240", after := #[{ on := 8, ground := Ground.data }, { on := 14, ground := Ground.gcOnly Departure.lateStores }], guard := none }) (v := .int .i64 ans.1) rfl (by kernel_rfl) (by kernel_rfl) (by kernel_rfl) (fun _ _ _ h => h) (Or.inl ⟨by rfl, fun w' h => by go_simp⟩) hH ?_
              try simp only [Act.put, List.setIfInBounds_toArray, List.set_cons_zero, List.set_cons_succ]
              refine wpAnyH_ready (rs := [13]) (by kernel_rfl) (by simp) ?_
              refine AllReadyH.cons (o := { dst := none, op := Op.store 28 (Operand.tmp 7) (Operand.tmp 35), type := 0, pos := "outright.go:240", after := #[{ on := 12, ground := Ground.data }, { on := 9, ground := Ground.data }, { on := 7, ground := Ground.chain }, { on := 0, ground := Ground.phase }, { on := 1, ground := Ground.phase }, { on := 2, ground := Ground.phase }, { on := 3, ground := Ground.phase }, { on := 4, ground := Ground.phase }, { on := 5, ground := Ground.phase }, { on := 6, ground := Ground.phase }, { on := 7, ground := Ground.phase }, { on := 8, ground := Ground.phase }, { on := 9, ground := Ground.phase }, { on := 10, ground := Ground.textOnly Departure.lateStores }, { on := 11, ground := Ground.textOnly Departure.lateStores }, { on := 12, ground := Ground.phase }], guard := none }) rfl (fun K hK => ?_) AllReadyH.nil
              refine op_putC (zs := csL ⟨0, false, 0, 0, 0, 0, 0, 0, 0, 0, 0, 0, 0, 0, 0⟩) (csL ans.2.1) rfl (sizeCsL _) (csL_one _) rfl _ _ rfl _ rfl rfl hN ?_
              intro w9 b9 g9
              have PX : Hid (SA w l s c CB _ ans (.slice ra rn rc) w9) := ⟨hH.grown g9 hG, b9, hG, rowV_blk rrow hN g9 (by decide)⟩
              refine hK.out _ _ PX.out.ls (fun hH => ?_)
              simp only [Act.put]
              refine wpAnyH_take (i := 14) (oi := { dst := some 8, op := Op.assign (Operand.tmp 36), type := 22, pos := "outright.go:240", after := #[{ on := 10, ground := Ground.data }, { on := 13, ground := Ground.chain }, { on := 0, ground := Ground.phase }, { on := 1, ground := Ground.phase }, { on := 2, ground := Ground.phase }, { on := 3, ground := Ground.phase }, { on := 4, ground := Ground.phase }, { on := 5, ground := Ground.phase }, { on := 6, ground := Ground.phase }, { on := 7, ground := Ground.phase }, { on := 8, ground := Ground.phase }, { on := 9, ground := Ground.phase }, { on := 10, ground := Ground.phase }, { on := 11, ground := Ground.textOnly Departure.lateStores }, { on := 12, ground := Ground.phase }, { on := 13, ground := Ground.phase }], guard := none }) (v := .slice ra rn rc) rfl (by kernel_rfl) (by kernel_rfl) (by kernel_rfl) (fun _ _ _ h => h) (Or.inl ⟨by rfl, fun w' h => by go_simp⟩) hH ?_
              try simp only [Act.put, List.setIfInBounds_toArray, List.set_cons_zero, List.set_cons_succ]
              refine wpAnyH_take (i := 15) (oi := { dst := some 9, op := Op.assign (Operand.tmp 37), type := 30, pos := "outright.go:240", after := #[{ on := 11, ground := Ground.data }, { on := 14, ground := Ground.chain }, { on := 0, ground := Ground.phase }, { on := 1, ground := Ground.phase }, { on := 2, ground := Ground.phase }, { on := 3, ground := Ground.phase }, { on := 4, ground := Ground.phase }, { on := 5, ground := Ground.phase }, { on := 6, ground := Ground.phase }, { on := 7, ground := Ground.phase }, { on := 8, ground := Ground.phase }, { on := 9, ground := Ground.phase }, { on := 10, ground := Ground.phase }, { on := 11, ground := Ground.phase }, { on := 12, ground := Ground.phase }, { on := 13, ground := Ground.phase }, { on := 14, ground := Ground.phase }], guard := none }) (v := .int .i64 ans.1) rfl (by kernel_rfl) (by kernel_rfl) (by kernel_rfl) (fun _ _ _ h => h) (Or.inl ⟨by rfl, fun w' h => by go_simp⟩) hH ?_
              try simp only [Act.put, List.setIfInBounds_toArray, List.set_cons_zero, List.set_cons_succ]
              refine wpAnyH_done (by kernel_rfl) ?_ _
              clear hH hK b9 g9 hN
              go_wp2_with fail
              go_meet
              case rel => exact ⟨_, _, _, _, rfl, rfl, rfl, PX⟩
          · go_simp
            have hN : Blk wr.drew.heap.size 28 (csL ⟨0, false, 0, 0, 0, 0, 0, 0, 0, 0, 0, 0, 0, 0, 0⟩) (wr.drew.alloc (.cells #[.int .i64 0, .bool false, .int .i64 0, .int .i64 0, .int .i64 0, .int .i64 0, .int .i64 0, .int .i64 0, .int .i64 0, .int .i64 0, .int .i64 0, .int .i64 0, .int .i64 0, .int .i64 0, .int .i64 0] 28)) := Blk.new _ _ _
            have hG : CB < wr.drew.heap.size := hH.c.lt
            refine hK.out _ _ (hH.later (below_alloc _ _)) (fun hH => ?_)
            refine wpAnyH_ready (rs := [1]) (by kernel_rfl) (by simp) ?_
            refine AllReadyH.cons (o := { dst := some 28, op := Op.call { callee := Callee.value (Operand.func 13), args := #[Operand.tmp 27], argTypes := #[24] }, type := 24, pos := "outright.go:240", after := #[{ on := 0, ground := Ground.data }], guard := none }) rfl (fun K hK => ?_) AllReadyH.nil
            go_simp
            refine (OW.out _ hH.bb).mono ?_
            rintro e x4 ⟨oa, on, oc, rfl, orow, bX⟩
            have hN := hN.below bX
            refine hK.out _ _ (hH.later bX) (fun hH => ?_)
            refine wpAnyH_ready (rs := [7]) (by kernel_rfl) (by simp) ?_
            refine AllReadyH.cons (o := { dst := some 34, op := Op.call { callee := Callee.value (Operand.func 12), args := #[Operand.tmp 28, Operand.tmp 29, Operand.tmp 33], argTypes := #[24, 28, 35] }, type := 31, pos := "outright.go:240", after := #[{ on := 1, ground := Ground.data }, { on := 2, ground := Ground.data }, { on := 6, ground := Ground.data }, { on := 1, ground := Ground.chain }], guard := none }) rfl (fun K hK => ?_) AllReadyH.nil
            go_simp
            refine (SK.out _ _ orow.rd).mono ?_
            rintro e x5 ⟨ra, rn, rc, rfl, rrow, bX⟩
            have hN := hN.below bX
            have orow := orow.later bX
            have rrow := rrow.mono hH.bb.size
            refine hK.out _ _ (hH.later bX) (fun hH => ?_)
            refine wpAnyH_take (i := 8) (oi := { dst := some 26, op := Op.move (Operand.tmp 34), type := 31, pos := "outright.go:240", after := #[{ on := 7, ground := Ground.data }], guard := none }) (v := .tuple #[csV ans.2.1, .slice ra rn rc, .int .i64 ans.1]) rfl (by kernel_rfl) (by kernel_rfl) (by kernel_rfl) (fun _ _ _ h => h) (Or.inl ⟨by rfl, fun w' h => by go_simp⟩) hH ?_
            try simp only [Act.put, List.setIfInBounds_toArray, List.set_cons_zero, List.set_cons_succ]
            refine wpAnyH_take (i := 9) (oi := { dst := some 35, op := Op.extract (Operand.tmp 26) 0, type := 28, pos := "outright.go:240", after := #[{ on := 8, ground := Ground.data }], guard := none }) (v := csV ans.2.1) rfl (by kernel_rfl) (by kernel_rfl) (by kernel_rfl) (fun _ _ _ h => h) (Or.inl ⟨by rfl, fun w' h => by go_simp⟩) hH ?_
            try simp only [Act.put, List.setIfInBounds_toArray, List.set_cons_zero, List.set_cons_succ]
            refine wpAnyH_take (i := 10) (oi := { dst := some 36, op := Op.extract (Operand.tmp 26) 1, type := 22, pos := "outright.go:240", after := #[{ on := 8, ground := Ground.data }, { on := 13, ground := Ground.gcOnly Departure.lateStores }], guard := none }) (v := .slice ra rn rc) rfl (by kernel_rfl) (by kernel_rfl) (by kernel_rfl) (fun _ _ _ h => h) (Or.inl ⟨by rfl, fun w' h => by go_simp⟩) hH ?_
            try simp only [Act.put, List.setIfInBounds_toArray, List.set_cons_zero, List.set_cons_succ]
            refine wpAnyH_take (i := 11) (oi := { dst := some 37, op := Op.extract (Operand.tmp 26) 2, type := 30, pos := "outright.go:240", after := #[{ on := 8, ground := Ground.data }, { on := 14, ground := Ground.gcOnly Departure.lateStores }], guard := none }) (v := .int .i64 ans.1) rfl (by kernel_rfl) (by kernel_rfl) (by kernel_rfl) (fun _ _ _ h => h) (Or.inl ⟨by rfl, fun w' h => by go_simp⟩) hH ?_
            try simp only [Act.put, List.setIfInBounds_toArray, List.set_cons_zero, List.set_cons_succ]
            refine wpAnyH_ready (rs := [13]) (by kernel_rfl) (by simp) ?_
            refine AllReadyH.cons (o := { dst := none, op := Op.store 28 (Operand.tmp 7) (Operand.tmp 35), type := 0, pos := "outright.go:240", after := #[{ on := 12, ground := Ground.data }, { on := 9, ground := Ground.data }, { on := 7, ground := Ground.chain }, { on := 0, ground := Ground.phase }, { on := 1, ground := Ground.phase }, { on := 2, ground := Ground.phase }, { on := 3, ground := Ground.phase }, { on := 4, ground := Ground.phase }, { on := 5, ground := Ground.phase }, { on := 6, ground := Ground.phase }, { on := 7, ground := Ground.phase }, { on := 8, ground := Ground.phase }, { on := 9, ground := Ground.phase }, { on := 10, ground := Ground.textOnly Departure.lateStores }, { on := 11, ground := Ground.textOnly Departure.lateStores }, { on := 12, ground := Ground.phase }], guard := none }) rfl (fun K hK => ?_) AllReadyH.nil
            refine op_putC (zs := csL ⟨0, false, 0, 0, 0, 0, 0, 0, 0, 0, 0, 0, 0, 0, 0⟩) (csL ans.2.1) rfl (sizeCsL _) (csL_one _) rfl _ _ rfl _ rfl rfl hN ?_
            intro w9 b9 g9
            have PX : Hid (SA w l s c CB _ ans (.slice ra rn rc) w9) := ⟨hH.grown g9 hG, b9, hG, rowV_blk rrow hN g9 (by decide)⟩
            refine hK.out _ _ PX.out.ls (fun hH => ?_)
            simp only [Act.put]
            refine wpAnyH_take (i := 14) (oi := { dst := some 8, op := Op.assign (Operand.tmp 36), type := 22, pos := "outright.go:240", after := #[{ on := 10, ground := Ground.data }, { on := 13, ground := Ground.chain }, { on := 0, ground := Ground.phase }, { on := 1, ground := Ground.phase }, { on := 2, ground := Ground.phase }, { on := 3, ground := Ground.phase }, { on := 4, ground := Ground.phase }, { on := 5, ground := Ground.phase }, { on := 6, ground := Ground.phase }, { on := 7, ground := Ground.phase }, { on := 8, ground := Ground.phase }, { on := 9, ground := Ground.phase }, { on := 10, ground := Ground.phase }, { on := 11, ground := Ground.textOnly Departure.lateStores }, { on := 12, ground := Ground.phase }, { on := 13, ground := Ground.phase }], guard := none }) (v := .slice ra rn rc) rfl (by kernel_rfl) (by kernel_rfl) (by kernel_rfl) (fun _ _ _ h => h) (Or.inl ⟨by rfl, fun w' h => by go_simp⟩) hH ?_
            try simp only [Act.put, List.setIfInBounds_toArray, List.set_cons_zero, List.set_cons_succ]
            refine wpAnyH_take (i := 15) (oi := { dst := some 9, op := Op.assign (Operand.tmp 37), type := 30, pos := "outright.go:240", after := #[{ on := 11, ground := Ground.data }, { on := 14, ground := Ground.chain }, { on := 0, ground := Ground.phase }, { on := 1, ground := Ground.phase }, { on := 2, ground := Ground.phase }, { on := 3, ground := Ground.phase }, { on := 4, ground := Ground.phase }, { on := 5, ground := Ground.phase }, { on := 6, ground := Ground.phase }, { on := 7, ground := Ground.phase }, { on := 8, ground := Ground.phase }, { on := 9, ground := Ground.phase }, { on := 10, ground := Ground.phase }, { on := 11, ground := Ground.phase }, { on := 12, ground := Ground.phase }, { on := 13, ground := Ground.phase }, { on := 14, ground := Ground.phase }], guard := none }) (v := .int .i64 ans.1) rfl (by kernel_rfl) (by kernel_rfl) (by kernel_rfl) (fun _ _ _ h => h) (Or.inl ⟨by rfl, fun w' h => by go_simp⟩) hH ?_
            try simp only [Act.put, List.setIfInBounds_toArray, List.set_cons_zero, List.set_cons_succ]
            refine wpAnyH_done (by kernel_rfl) ?_ _
            clear hH hK b9 g9 hN
            go_wp2_with fail
            go_meet
            case rel => exact ⟨_, _, _, _, rfl, rfl, rfl, PX⟩
        case rest =>
          obtain ⟨G, ra, rn, rc, rfl, rfl, rfl, SX⟩ := hcut
          clear SR
          go_upto_region 9 with (first
          | ((with_reducible refine at_loadT 28 ?_); refine step_load rfl 28 _ rfl G 0 rfl (csL ans.2.1) _ (Blk.all SX.out.d) Try.underlying28 rfl (sizeCsL _) ?_)
          | ((with_reducible refine at_store ?_); refine step_store rfl 28 _ _ rfl CB 0 28 _ (csL ans.2.1) rfl rfl SX.out.ls.c (Nat.le_refl 15) (sizeCsL _) (csL_one _) ?_; intro w8 n8 g8))
          have S8 : Hid (LS w l s ans.2.1 CB w8) := SX.out.ls.put n8 g8
          clear n8 g8 SX
          simp only [Act.put, List.setIfInBounds_toArray, List.set_cons_zero, List.set_cons_succ]
          generalize ans.2.1 = c2 at *
          obtain ⟨h1, h2, h3, h4, h5, h6, h7⟩ := SN.out
          have HO : Hid (∀ w', Calls Try.prog 14 #[csV c2] w' fun e w'' => e = .returned (.bool (opn c2)) ∧ Below w'.heap.size w' w'') := fun w' => open_at _ w'
          by_cases q3 : c2.st = 3
          · have hst : c2.st = 3 := q3
            have hsu : c2.su = false := h7 q3
            have o2 := h2 (by omega)
            have o5 := h5 (by omega)
            clear q3
            have hop : opn c2 = true := by unfold opn; first | exact decide_eq_true (by omega) | exact decide_eq_false (by omega)
            rw [hop] at HO
            have zsi : decide (0 < c2.si) = true := by first | exact decide_eq_true (by omega) | exact decide_eq_false (by omega)
            have zdl : decide (0 < c2.dl) = true := by first | exact decide_eq_true (by omega) | exact decide_eq_false (by omega)
            have zds : decide (c2.dl < c2.si) = false := decide_eq_false (by omega)
            have zpd : decide (0 < c2.pd) = false := by first | exact decide_eq_true (by omega) | exact decide_eq_false (by omega)
            have zpa : decide (0 < c2.pa) = false := by first | exact decide_eq_true (by omega) | exact decide_eq_false (by omega)
            have zpg : decide (c2.pg < 0) = false := decide_eq_false (by omega)
            have zpz : (c2.pg != 0) = false := by simp; omega
            have c0 : w8.cell? ⟨CB, 0, none⟩ = some (.int .i64 3) := by rw [← hst]; exact S8.out.cs 0 _ rfl
            have c1 : w8.cell? ⟨CB, 1, none⟩ = some (.bool false) := by rw [← hsu]; exact S8.out.cs 1 _ rfl
            have c3 : w8.cell? ⟨CB, 3, none⟩ = some (.int .i64 c2.si) := S8.out.cs 3 _ rfl
            have c4 : w8.cell? ⟨CB, 4, none⟩ = some (.int .i64 c2.dl) := S8.out.cs 4 _ rfl
            have c5 : w8.cell? ⟨CB, 5, none⟩ = some (.int .i64 c2.pr) := S8.out.cs 5 _ rfl
            have c6 : w8.cell? ⟨CB, 6, none⟩ = some (.int .i64 c2.pd) := S8.out.cs 6 _ rfl
            have c7 : w8.cell? ⟨CB, 7, none⟩ = some (.int .i64 c2.pa) := S8.out.cs 7 _ rfl
            have c8 : w8.cell? ⟨CB, 8, none⟩ = some (.int .i64 c2.pg) := S8.out.cs 8 _ rfl
            have HST : Hid (SH c2) := SN.out
            clear h1 h2 h3 h4 h5 h6 h7 hop
            go_wp2_with ((with_reducible refine at_loadG 28 ?_); refine step_loadG rfl 28 _ rfl CB 0 rfl (csL c2) _ (Blk.all S8.out.c) Try.underlying28 rfl (sizeCsL _) ?_)
            refine (HO.out _).mono ?_
            rintro e x9 ⟨rfl, bX⟩
            have SB : Hid (LS w l s c2 CB x9) := S8.out.later bX
            clear bX
            have c0x : x9.cell? ⟨CB, 0, none⟩ = some (.int .i64 3) := by rw [← hst]; exact SB.out.cs 0 _ rfl
            have c1x : x9.cell? ⟨CB, 1, none⟩ = some (.bool false) := by rw [← hsu]; exact SB.out.cs 1 _ rfl
            have c3x : x9.cell? ⟨CB, 3, none⟩ = some (.int .i64 c2.si) := SB.out.cs 3 _ rfl
            have c4x : x9.cell? ⟨CB, 4, none⟩ = some (.int .i64 c2.dl) := SB.out.cs 4 _ rfl
            have c5x : x9.cell? ⟨CB, 5, none⟩ = some (.int .i64 c2.pr) := SB.out.cs 5 _ rfl
            have c6x : x9.cell? ⟨CB, 6, none⟩ = some (.int .i64 c2.pd) := SB.out.cs 6 _ rfl
            have c7x : x9.cell? ⟨CB, 7, none⟩ = some (.int .i64 c2.pa) := SB.out.cs 7 _ rfl
            have c8x : x9.cell? ⟨CB, 8, none⟩ = some (.int .i64 c2.pg) := SB.out.cs 8 _ rfl
            clear hst
            clear hsu
            go_wp2_with fail
            go_roundw
            case rel => exact ⟨k + 1, c2, by go_num, by omega, HST, IN, SB⟩
            case measure => simp [intOf]; omega
          · by_cases q4 : c2.st = 4
            · have hst : c2.st = 4 := q4
              have o2 := h2 (by omega)
              have o4 := h4 q4
              clear q3 q4
              cases hsu : c2.su
              · have hop : opn c2 = true := by unfold opn; first | exact decide_eq_true (by omega) | exact decide_eq_false (by omega)
                rw [hop] at HO
                have zsi : decide (0 < c2.si) = true := by first | exact decide_eq_true (by omega) | exact decide_eq_false (by omega)
                have zdl : decide (0 < c2.dl) = true := by first | exact decide_eq_true (by omega) | exact decide_eq_false (by omega)
                have zds : decide (c2.dl < c2.si) = false := decide_eq_false (by omega)
                have zpd : decide (0 < c2.pd) = true := by first | exact decide_eq_true (by omega) | exact decide_eq_false (by omega)
                have zpa : decide (0 < c2.pa) = true := by first | exact decide_eq_true (by omega) | exact decide_eq_false (by omega)
                have zpg : decide (c2.pg < 0) = false := decide_eq_false (by omega)
                have zpp : decide (c2.pa ≤ c2.pg) = false := decide_eq_false (by omega)
                have zpr : decide (c2.pr < 1) = false := decide_eq_false (by omega)
                have c0 : w8.cell? ⟨CB, 0, none⟩ = some (.int .i64 4) := by rw [← hst]; exact S8.out.cs 0 _ rfl
                have c1 : w8.cell? ⟨CB, 1, none⟩ = some (.bool false) := by rw [← hsu]; exact S8.out.cs 1 _ rfl
                have c3 : w8.cell? ⟨CB, 3, none⟩ = some (.int .i64 c2.si) := S8.out.cs 3 _ rfl
                have c4 : w8.cell? ⟨CB, 4, none⟩ = some (.int .i64 c2.dl) := S8.out.cs 4 _ rfl
                have c5 : w8.cell? ⟨CB, 5, none⟩ = some (.int .i64 c2.pr) := S8.out.cs 5 _ rfl
                have c6 : w8.cell? ⟨CB, 6, none⟩ = some (.int .i64 c2.pd) := S8.out.cs 6 _ rfl
                have c7 : w8.cell? ⟨CB, 7, none⟩ = some (.int .i64 c2.pa) := S8.out.cs 7 _ rfl
                have c8 : w8.cell? ⟨CB, 8, none⟩ = some (.int .i64 c2.pg) := S8.out.cs 8 _ rfl
                have HST : Hid (SH c2) := SN.out
                clear h1 h2 h3 h4 h5 h6 h7 hop
                go_wp2_with ((with_reducible refine at_loadG 28 ?_); refine step_loadG rfl 28 _ rfl CB 0 rfl (csL c2) _ (Blk.all S8.out.c) Try.underlying28 rfl (sizeCsL _) ?_)
                refine (HO.out _).mono ?_
                rintro e x9 ⟨rfl, bX⟩
                have SB : Hid (LS w l s c2 CB x9) := S8.out.later bX
                clear bX
                have c0x : x9.cell? ⟨CB, 0, none⟩ = some (.int .i64 4) := by rw [← hst]; exact SB.out.cs 0 _ rfl
                have c1x : x9.cell? ⟨CB, 1, none⟩ = some (.bool false) := by rw [← hsu]; exact SB.out.cs 1 _ rfl
                have c3x : x9.cell? ⟨CB, 3, none⟩ = some (.int .i64 c2.si) := SB.out.cs 3 _ rfl
                have c4x : x9.cell? ⟨CB, 4, none⟩ = some (.int .i64 c2.dl) := SB.out.cs 4 _ rfl
                have c5x : x9.cell? ⟨CB, 5, none⟩ = some (.int .i64 c2.pr) := SB.out.cs 5 _ rfl
                have c6x : x9.cell? ⟨CB, 6, none⟩ = some (.int .i64 c2.pd) := SB.out.cs 6 _ rfl
                have c7x : x9.cell? ⟨CB, 7, none⟩ = some (.int .i64 c2.pa) := SB.out.cs 7 _ rfl
                have c8x : x9.cell? ⟨CB, 8, none⟩ = some (.int .i64 c2.pg) := SB.out.cs 8 _ rfl
                clear hst
                clear hsu
                go_wp2_with fail
                go_roundw
                case rel => exact ⟨k + 1, c2, by go_num, by omega, HST, IN, SB⟩
                case measure => simp [intOf]; omega
              · have hop : opn c2 = true := by unfold opn; first | exact decide_eq_true (by omega) | exact decide_eq_false (by omega)
                rw [hop] at HO
                have zsi : decide (0 < c2.si) = true := by first | exact decide_eq_true (by omega) | exact decide_eq_false (by omega)
                have zdl : decide (0 < c2.dl) = true := by first | exact decide_eq_true (by omega) | exact decide_eq_false (by omega)
                have zds : decide (c2.dl < c2.si) = false := decide_eq_false (by omega)
                have zpd : decide (0 < c2.pd) = true := by first | exact decide_eq_true (by omega) | exact decide_eq_false (by omega)
                have zpa : decide (0 < c2.pa) = true := by first | exact decide_eq_true (by omega) | exact decide_eq_false (by omega)
                have zpg : decide (c2.pg < 0) = false := decide_eq_false (by omega)
                have zpp : decide (c2.pa ≤ c2.pg) = false := decide_eq_false (by omega)
                have zpr : decide (c2.pr < 1) = false := decide_eq_false (by omega)
                have c0 : w8.cell? ⟨CB, 0, none⟩ = some (.int .i64 4) := by rw [← hst]; exact S8.out.cs 0 _ rfl
                have c1 : w8.cell? ⟨CB, 1, none⟩ = some (.bool true) := by rw [← hsu]; exact S8.out.cs 1 _ rfl
                have c3 : w8.cell? ⟨CB, 3, none⟩ = some (.int .i64 c2.si) := S8.out.cs 3 _ rfl
                have c4 : w8.cell? ⟨CB, 4, none⟩ = some (.int .i64 c2.dl) := S8.out.cs 4 _ rfl
                have c5 : w8.cell? ⟨CB, 5, none⟩ = some (.int .i64 c2.pr) := S8.out.cs 5 _ rfl
                have c6 : w8.cell? ⟨CB, 6, none⟩ = some (.int .i64 c2.pd) := S8.out.cs 6 _ rfl
                have c7 : w8.cell? ⟨CB, 7, none⟩ = some (.int .i64 c2.pa) := S8.out.cs 7 _ rfl
                have c8 : w8.cell? ⟨CB, 8, none⟩ = some (.int .i64 c2.pg) := S8.out.cs 8 _ rfl
                have HST : Hid (SH c2) := SN.out
                clear h1 h2 h3 h4 h5 h6 h7 hop
                go_wp2_with ((with_reducible refine at_loadG 28 ?_); refine step_loadG rfl 28 _ rfl CB 0 rfl (csL c2) _ (Blk.all S8.out.c) Try.underlying28 rfl (sizeCsL _) ?_)
                refine (HO.out _).mono ?_
                rintro e x9 ⟨rfl, bX⟩
                have SB : Hid (LS w l s c2 CB x9) := S8.out.later bX
                clear bX
                have c0x : x9.cell? ⟨CB, 0, none⟩ = some (.int .i64 4) := by rw [← hst]; exact SB.out.cs 0 _ rfl
                have c1x : x9.cell? ⟨CB, 1, none⟩ = some (.bool true) := by rw [← hsu]; exact SB.out.cs 1 _ rfl
                have c3x : x9.cell? ⟨CB, 3, none⟩ = some (.int .i64 c2.si) := SB.out.cs 3 _ rfl
                have c4x : x9.cell? ⟨CB, 4, none⟩ = some (.int .i64 c2.dl) := SB.out.cs 4 _ rfl
                have c5x : x9.cell? ⟨CB, 5, none⟩ = some (.int .i64 c2.pr) := SB.out.cs 5 _ rfl
                have c6x : x9.cell? ⟨CB, 6, none⟩ = some (.int .i64 c2.pd) := SB.out.cs 6 _ rfl
                have c7x : x9.cell? ⟨CB, 7, none⟩ = some (.int .i64 c2.pa) := SB.out.cs 7 _ rfl
                have c8x : x9.cell? ⟨CB, 8, none⟩ = some (.int .i64 c2.pg) := SB.out.cs 8 _ rfl
                clear hst
                clear hsu
                go_wp2_with fail
                go_roundw
                case rel => exact ⟨k + 1, c2, by go_num, by omega, HST, IN, SB⟩
                case measure => simp [intOf]; omega
            · by_cases q5 : c2.st = 5
              · have hst : c2.st = 5 := q5
                have hsu : c2.su = true := h6 q5
                have o2 := h2 (by omega)
                have o5 := h5 (by omega)
                clear q3 q4 q5
                have hop : opn c2 = true := by unfold opn; first | exact decide_eq_true (by omega) | exact decide_eq_false (by omega)
                rw [hop] at HO
                have zsi : decide (0 < c2.si) = true := by first | exact decide_eq_true (by omega) | exact decide_eq_false (by omega)
                have zdl : decide (0 < c2.dl) = true := by first | exact decide_eq_true (by omega) | exact decide_eq_false (by omega)
                have zds : decide (c2.dl < c2.si) = false := decide_eq_false (by omega)
                have zpd : decide (0 < c2.pd) = false := by first | exact decide_eq_true (by omega) | exact decide_eq_false (by omega)
                have zpa : decide (0 < c2.pa) = false := by first | exact decide_eq_true (by omega) | exact decide_eq_false (by omega)
                have zpg : decide (c2.pg < 0) = false := decide_eq_false (by omega)
                have zpz : (c2.pg != 0) = false := by simp; omega
                have c0 : w8.cell? ⟨CB, 0, none⟩ = some (.int .i64 5) := by rw [← hst]; exact S8.out.cs 0 _ rfl
                have c1 : w8.cell? ⟨CB, 1, none⟩ = some (.bool true) := by rw [← hsu]; exact S8.out.cs 1 _ rfl
                have c3 : w8.cell? ⟨CB, 3, none⟩ = some (.int .i64 c2.si) := S8.out.cs 3 _ rfl
                have c4 : w8.cell? ⟨CB, 4, none⟩ = some (.int .i64 c2.dl) := S8.out.cs 4 _ rfl
                have c5 : w8.cell? ⟨CB, 5, none⟩ = some (.int .i64 c2.pr) := S8.out.cs 5 _ rfl
                have c6 : w8.cell? ⟨CB, 6, none⟩ = some (.int .i64 c2.pd) := S8.out.cs 6 _ rfl
                have c7 : w8.cell? ⟨CB, 7, none⟩ = some (.int .i64 c2.pa) := S8.out.cs 7 _ rfl
                have c8 : w8.cell? ⟨CB, 8, none⟩ = some (.int .i64 c2.pg) := S8.out.cs 8 _ rfl
                have HST : Hid (SH c2) := SN.out
                clear h1 h2 h3 h4 h5 h6 h7 hop
                go_wp2_with ((with_reducible refine at_loadG 28 ?_); refine step_loadG rfl 28 _ rfl CB 0 rfl (csL c2) _ (Blk.all S8.out.c) Try.underlying28 rfl (sizeCsL _) ?_)
                refine (HO.out _).mono ?_
                rintro e x9 ⟨rfl, bX⟩
                have SB : Hid (LS w l s c2 CB x9) := S8.out.later bX
                clear bX
                have c0x : x9.cell? ⟨CB, 0, none⟩ = some (.int .i64 5) := by rw [← hst]; exact SB.out.cs 0 _ rfl
                have c1x : x9.cell? ⟨CB, 1, none⟩ = some (.bool true) := by rw [← hsu]; exact SB.out.cs 1 _ rfl
                have c3x : x9.cell? ⟨CB, 3, none⟩ = some (.int .i64 c2.si) := SB.out.cs 3 _ rfl
                have c4x : x9.cell? ⟨CB, 4, none⟩ = some (.int .i64 c2.dl) := SB.out.cs 4 _ rfl
                have c5x : x9.cell? ⟨CB, 5, none⟩ = some (.int .i64 c2.pr) := SB.out.cs 5 _ rfl
                have c6x : x9.cell? ⟨CB, 6, none⟩ = some (.int .i64 c2.pd) := SB.out.cs 6 _ rfl
                have c7x : x9.cell? ⟨CB, 7, none⟩ = some (.int .i64 c2.pa) := SB.out.cs 7 _ rfl
                have c8x : x9.cell? ⟨CB, 8, none⟩ = some (.int .i64 c2.pg) := SB.out.cs 8 _ rfl
                clear hst
                clear hsu
                go_wp2_with fail
                go_roundw
                case rel => exact ⟨k + 1, c2, by go_num, by omega, HST, IN, SB⟩
                case measure => simp [intOf]; omega
              · have o3 := h3 (by omega)
                have hsu : c2.su = false := o3.2.2
                have o5 := h5 (by omega)
                have e3 : (c2.st == 3) = false := by simp; omega
                have e4 : (c2.st == 4) = false := by simp; omega
                have e5 : (c2.st == 5) = false := by simp; omega
                have l1 : decide (c2.st < 1) = false := decide_eq_false (by omega)
                have l9 : decide (9 < c2.st) = false := decide_eq_false (by omega)
                have hop : opn c2 = false := by unfold opn; first | exact decide_eq_true (by omega) | exact decide_eq_false (by omega)
                rw [hop] at HO
                have zsi : decide (0 < c2.si) = false := by first | exact decide_eq_true (by omega) | exact decide_eq_false (by omega)
                have zdl : decide (0 < c2.dl) = false := by first | exact decide_eq_true (by omega) | exact decide_eq_false (by omega)
                have zds : decide (c2.dl < c2.si) = false := decide_eq_false (by omega)
                have zpd : decide (0 < c2.pd) = false := by first | exact decide_eq_true (by omega) | exact decide_eq_false (by omega)
                have zpa : decide (0 < c2.pa) = false := by first | exact decide_eq_true (by omega) | exact decide_eq_false (by omega)
                have zpg : decide (c2.pg < 0) = false := decide_eq_false (by omega)
                have zpz : (c2.pg != 0) = false := by simp; omega
                have c0 : w8.cell? ⟨CB, 0, none⟩ = some (.int .i64 c2.st) := S8.out.cs 0 _ rfl
                have c1 : w8.cell? ⟨CB, 1, none⟩ = some (.bool false) := by rw [← hsu]; exact S8.out.cs 1 _ rfl
                have c3 : w8.cell? ⟨CB, 3, none⟩ = some (.int .i64 c2.si) := S8.out.cs 3 _ rfl
                have c4 : w8.cell? ⟨CB, 4, none⟩ = some (.int .i64 c2.dl) := S8.out.cs 4 _ rfl
                have c5 : w8.cell? ⟨CB, 5, none⟩ = some (.int .i64 c2.pr) := S8.out.cs 5 _ rfl
                have c6 : w8.cell? ⟨CB, 6, none⟩ = some (.int .i64 c2.pd) := S8.out.cs 6 _ rfl
                have c7 : w8.cell? ⟨CB, 7, none⟩ = some (.int .i64 c2.pa) := S8.out.cs 7 _ rfl
                have c8 : w8.cell? ⟨CB, 8, none⟩ = some (.int .i64 c2.pg) := S8.out.cs 8 _ rfl
                have HST : Hid (SH c2) := SN.out
                clear h1 h2 h3 h4 h5 h6 h7 hop
                go_wp2_with ((with_reducible refine at_loadG 28 ?_); refine step_loadG rfl 28 _ rfl CB 0 rfl (csL c2) _ (Blk.all S8.out.c) Try.underlying28 rfl (sizeCsL _) ?_)
                refine (HO.out _).mono ?_
                rintro e x9 ⟨rfl, bX⟩
                have SB : Hid (LS w l s c2 CB x9) := S8.out.later bX
                clear bX
                have c0x : x9.cell? ⟨CB, 0, none⟩ = some (.int .i64 c2.st) := SB.out.cs 0 _ rfl
                have c1x : x9.cell? ⟨CB, 1, none⟩ = some (.bool false) := by rw [← hsu]; exact SB.out.cs 1 _ rfl
                have c3x : x9.cell? ⟨CB, 3, none⟩ = some (.int .i64 c2.si) := SB.out.cs 3 _ rfl
                have c4x : x9.cell? ⟨CB, 4, none⟩ = some (.int .i64 c2.dl) := SB.out.cs 4 _ rfl
                have c5x : x9.cell? ⟨CB, 5, none⟩ = some (.int .i64 c2.pr) := SB.out.cs 5 _ rfl
                have c6x : x9.cell? ⟨CB, 6, none⟩ = some (.int .i64 c2.pd) := SB.out.cs 6 _ rfl
                have c7x : x9.cell? ⟨CB, 7, none⟩ = some (.int .i64 c2.pa) := SB.out.cs 7 _ rfl
                have c8x : x9.cell? ⟨CB, 8, none⟩ = some (.int .i64 c2.pg) := SB.out.cs 8 _ rfl
                clear hsu
                go_wp2_with fail
                go_roundw
                case rel => exact ⟨k + 1, c2, by go_num, by omega, HST, IN, SB⟩
                case measure => simp [intOf]; omega
      · obtain rfl : k = N := by omega
        go_wp2_with fail
        go_ret
        exact ⟨rfl, SR.out.bb⟩
  · go_enter Try.func4, Try.ntmps4
    go_upto_region 1 with fail
    generalize w.alloc (.cells (polL l s).toArray 24) = w0 at *
    go_wp2_with ((with_reducible refine at_loadT 24 ?_); refine step_load rfl 24 _ rfl w.heap.size 0 rfl (polL l s) _ (Blk.all S0.out.p) Try.underlying24 rfl SZ.out ?_)
    refine (MY.out _ S0.out.bb).mono ?_
    rw [hg]
    rintro e w1 ⟨rfl, bX⟩
    have S1 : Hid (PS w l s w1) := S0.out.later bX
    clear bX
    go_wp2_with (first
    | ((with_reducible refine at_loadT 24 ?_); refine step_load rfl 24 _ rfl w.heap.size 0 rfl (polL l s) _ (Blk.all S1.out.p) Try.underlying24 rfl SZ.out ?_)
    | ((with_reducible refine at_loadG 24 ?_); refine step_loadG rfl 24 _ rfl w.heap.size 0 rfl (polL l s) _ (Blk.all S1.out.p) Try.underlying24 rfl SZ.out ?_))
    refine (OP.out hg _ S1.out.bb).mono ?_
    rintro e w2 ⟨rfl, bX⟩
    have S2 : Hid (PS w l s w2) := S1.out.later bX
    clear bX
    go_wp2_with fail
    refine (FR.out _).mono ?_
    rintro e w3 ⟨rfl, bX⟩
    have S3 : Hid (PS w l s w3) := S2.out.later bX
    clear bX S2
    have NZ : Hid (Blk w3.heap.size 28 (csL ⟨0, false, 0, 0, 0, 0, 0, 0, 0, 0, 0, 0, 0, 0, 0⟩) (w3.alloc (.cells #[.int .i64 0, .bool false, .int .i64 0, .int .i64 0, .int .i64 0, .int .i64 0, .int .i64 0, .int .i64 0, .int .i64 0, .int .i64 0, .int .i64 0, .int .i64 0, .int .i64 0, .int .i64 0, .int .i64 0] 28))) := Blk.new _ _ _
    go_upto_region 4 with ((with_reducible refine at_store ?_); refine step_store rfl 28 _ _ rfl w3.heap.size 0 28 (csL ⟨0, false, 0, 0, 0, 0, 0, 0, 0, 0, 0, 0, 0, 0, 0⟩) (csL fresh) rfl rfl NZ.out (Nat.le_refl 15) (sizeCsL _) (csL_one _) ?_; intro w4 n4 g4)
    have S4 : Hid (LS w l s fresh w3.heap.size w4) := by
      have x := S3.out.later (below_alloc w3 (.cells #[.int .i64 0, .bool false, .int .i64 0, .int .i64 0, .int .i64 0, .int .i64 0, .int .i64 0, .int .i64 0, .int .i64 0, .int .i64 0, .int .i64 0, .int .i64 0, .int .i64 0, .int .i64 0, .int .i64 0] 28))
      have y := x.grown g4 S3.out.p.lt
      exact ⟨y.p, n4, y.bb, S3.out.p.lt⟩
    clear n4 g4 NZ S3
    obtain ⟨CB, hCB⟩ : ∃ CB, w3.heap.size = CB := ⟨_, rfl⟩
    rw [hCB] at S4
    rw [hCB]
    clear hCB
    go_wp2_with fail
    go_loopw [6, 7, 8, 9, 10, 11] (fun v6 _ _ _ _ _ wr => ∃ (k : Nat) (c : Cs), v6 = .int .i64 (k : Int) ∧ k ≤ N ∧ Hid (SH c) ∧ Hid (Inv (pn l) (k : Int) c ∨ good l hs = false) ∧ Hid (LS w l s c CB wr)) (fun v6 _ _ _ _ _ _ => N - (intOf v6).toNat)
    case atStart => exact ⟨0, fresh, rfl, by omega, sh_fresh, .inl (inv_fresh (pol_of hg)), S4⟩
    case round =>
      obtain ⟨k, c, rfl, hk, SS1, IV, SR⟩ := hrel
      by_cases hlt : (k : Int) < (N : Int)
      · obtain ⟨g, o, rfl, lt, rg⟩ := EC.out k (by omega)
        have EV : Hid (∀ w', Below w.heap.size w w' → w'.rangeAt g (o + k * 4) (evL (eN es k))) := fun w' h => range_laterC rg lt h
        have EK : Hid (EvOk (eN es k)) := OK.out k
        clear rg lt EC
        generalize eN es k = ev at *
        have SK : Hid (∀ s' w', Rd w' s' (bkL hs) → Calls Try.prog 12 #[PV l s', csV c, evV ev] w' (StepAns (stepA l hs c ev) w')) := fun s' w' h => ST.out c ev s' w' h
        have SF : Hid ((stepA l hs c ev).1 ≠ 0 → (stepA l hs c ev).2 = (c, [])) := step_no
        have IN : Hid (Inv (pn l) ((k + 1 : Nat) : Int) (stepA l hs c ev).2.1 ∨ good l hs = false) := inv_next IV.out (by omega) EK.out
        have SN : Hid (SH (stepA l hs c ev).2.1) := sh_next SS1.out IN.out

        generalize stepA l hs c ev = ans at *
        go_upto_region 7 with fail
        go_cut [7, 8, 9] from 20 to 151 (fun v7 v8 v9 wx => ∃ G ra rn rc, v7 = .pointer (some ⟨G, 0, none⟩) ∧ v8 = .slice ra rn rc ∧ v9 = .int .i64 ans.1 ∧ Hid (SA w l s c CB G ans (.slice ra rn rc) wx))
        case first =>
          have hu := Try.underlying24
          have hi := SZ.out
          have hu2 := Try.underlying28
          have hi2 := sizeCsL c
          have hu3 := Try.underlying35
          have hi3 := sizeEvL ev
          refine wp_region_held_drew (S := fun w' => LS w l s c CB w') (by kernel_rfl) (SR.out.drew) (fun hH => ?_)
          refine wpAnyH_take (i := 0) (oi := { dst := some 27, op := Op.load 24 (Operand.tmp 2), type := 24, pos := "outright.go:240", after := #[], guard := none }) (v := .agg (polL l s).toArray) rfl (by kernel_rfl) (by kernel_rfl) (by kernel_rfl) (fun _ _ _ h => h) (yieldsIf_load_mid (by rfl) _ _ rfl w.heap.size 0 rfl (polL l s) _ (fun w' h => h.p.all) hu rfl hi) hH ?_
          try simp only [Act.put, List.setIfInBounds_toArray, List.set_cons_zero, List.set_cons_succ]
          refine wpAnyH_take (i := 2) (oi := { dst := some 29, op := Op.load 28 (Operand.tmp 5), type := 28, pos := "outright.go:240", after := #[], guard := none }) (v := .agg (csL c).toArray) rfl (by kernel_rfl) (by kernel_rfl) (by kernel_rfl) (fun _ _ _ h => h) (yieldsIf_load_mid (by rfl) _ _ rfl CB 0 rfl (csL c) _ (fun w' h => h.c.all) hu2 rfl hi2) hH ?_
          try simp only [Act.put, List.setIfInBounds_toArray, List.set_cons_zero, List.set_cons_succ]
          refine wpAnyH_take (i := 3) (oi := { dst := some 30, op := Op.move (Operand.tmp 1), type := 25, pos := "outright.go:240", after := #[], guard := none }) (v := .slice (some ⟨g, o, none⟩) N cap) rfl (by kernel_rfl) (by kernel_rfl) (by kernel_rfl) (fun _ _ _ h => h) (Or.inl ⟨by rfl, fun w' h => by go_simp⟩) hH ?_
          try simp only [Act.put, List.setIfInBounds_toArray, List.set_cons_zero, List.set_cons_succ]
          refine wpAnyH_take (i := 4) (oi := { dst := some 31, op := Op.move (Operand.tmp 6), type := 3, pos := "outright.go:240", after := #[], guard := none }) (v := .int .i64 (k : Int)) rfl (by kernel_rfl) (by kernel_rfl) (by kernel_rfl) (fun _ _ _ h => h) (Or.inl ⟨by rfl, fun w' h => by go_simp⟩) hH ?_
          try simp only [Act.put, List.setIfInBounds_toArray, List.set_cons_zero, List.set_cons_succ]
          refine wpAnyH_take (i := 5) (oi := { dst := some 32, op := Op.indexAddr 25 (Operand.tmp 30) (Operand.tmp 31), type := 0, pos := "outright.go:240", after := #[{ on := 3, ground := Ground.data }, { on := 4, ground := Ground.data }], guard := none }) (v := .pointer (some ⟨g, o + k * 4, none⟩)) rfl (by kernel_rfl) (by kernel_rfl) (by kernel_rfl) (fun _ _ _ h => h) (Or.inl ⟨by rfl, fun w' h => by go_simp⟩) hH ?_
          try simp only [Act.put, List.setIfInBounds_toArray, List.set_cons_zero, List.set_cons_succ]
          refine wpAnyH_take (i := 6) (oi := { dst := some 33, op := Op.load 35 (Operand.tmp 32), type := 35, pos := "outright.go:240", after := #[{ on := 5, ground := Ground.data }], guard := none }) (v := .agg (evL ev).toArray) rfl (by kernel_rfl) (by kernel_rfl) (by kernel_rfl) (fun _ _ _ h => h) (yieldsIf_load_mid (by rfl) _ _ rfl g (o + k * 4) rfl (evL ev) _ (fun w' h => EV.out _ h.bb) hu3 rfl hi3) hH ?_
          try simp only [Act.put, List.setIfInBounds_toArray, List.set_cons_zero, List.set_cons_succ]
          refine wpAnyH_ready (rs := [1, 12]) (by kernel_rfl) (by simp) ?_
          refine AllReadyH.cons (o := { dst := some 28, op := Op.call { callee := Callee.value (Operand.func 13), args := #[Operand.tmp 27], argTypes := #[24] }, type := 24, pos := "outright.go:240", after := #[{ on := 0, ground := Ground.data }], guard := none }) rfl (fun K hK => ?_) (AllReadyH.cons (o := { dst := some 7, op := Op.alloc 28, type := 0, pos := "outright.go:240", after := #[], guard := none }) rfl (fun K hK => ?_) AllReadyH.nil)
          · go_simp
            refine (OW.out _ hH.bb).mono ?_
            rintro e x1 ⟨oa, on, oc, rfl, orow, bX⟩
            refine hK.out _ _ (hH.later bX) (fun hH => ?_)
            refine wpAnyH_ready (rs := [7, 12]) (by kernel_rfl) (by simp) ?_
            refine AllReadyH.cons (o := { dst := some 34, op := Op.call { callee := Callee.value (Operand.func 12), args := #[Operand.tmp 28, Operand.tmp 29, Operand.tmp 33], argTypes := #[24, 28, 35] }, type := 31, pos := "outright.go:240", after := #[{ on := 1, ground := Ground.data }, { on := 2, ground := Ground.data }, { on := 6, ground := Ground.data }, { on := 1, ground := Ground.chain }], guard := none }) rfl (fun K hK => ?_) (AllReadyH.cons (o := { dst := some 7, op := Op.alloc 28, type := 0, pos := "outright.go:240", after := #[], guard := none }) rfl (fun K hK => ?_) AllReadyH.nil)
            · go_simp
              refine (SK.out _ _ orow.rd).mono ?_
              rintro e x2 ⟨ra, rn, rc, rfl, rrow, bX⟩
              have orow := orow.later bX
              have rrow := rrow.mono hH.bb.size
              refine hK.out _ _ (hH.later bX) (fun hH => ?_)
              refine wpAnyH_take (i := 8) (oi := { dst := some 26, op := Op.move (Operand.tmp 34), type := 31, pos := "outright.go:240", after := #[{ on := 7, ground := Ground.data }], guard := none }) (v := .tuple #[csV ans.2.1, .slice ra rn rc, .int .i64 ans.1]) rfl (by kernel_rfl) (by kernel_rfl) (by kernel_rfl) (fun _ _ _ h => h) (Or.inl ⟨by rfl, fun w' h => by go_simp⟩) hH ?_
              try simp only [Act.put, List.setIfInBounds_toArray, List.set_cons_zero, List.set_cons_succ]
              refine wpAnyH_take (i := 9) (oi := { dst := some 35, op := Op.extract (Operand.tmp 26) 0, type := 28, pos := "outright.go:240", after := #[{ on := 8, ground := Ground.data }], guard := none }) (v := csV ans.2.1) rfl (by kernel_rfl) (by kernel_rfl) (by kernel_rfl) (fun _ _ _ h => h) (Or.inl ⟨by rfl, fun w' h => by go_simp⟩) hH ?_
              try simp only [Act.put, List.setIfInBounds_toArray, List.set_cons_zero, List.set_cons_succ]
              refine wpAnyH_take (i := 10) (oi := { dst := some 36, op := Op.extract (Operand.tmp 26) 1, type := 22, pos := "outright.go:240", after := #[{ on := 8, ground := Ground.data }, { on := 13, ground := Ground.gcOnly Departure.lateStores }], guard := none }) (v := .slice ra rn rc) rfl (by kernel_rfl) (by kernel_rfl) (by kernel_rfl) (fun _ _ _ h => h) (Or.inl ⟨by rfl, fun w' h => by go_simp⟩) hH ?_
              try simp only [Act.put, List.setIfInBounds_toArray, List.set_cons_zero, List.set_cons_succ]
              refine wpAnyH_take (i := 11) (oi := { dst := some 37, op := Op.extract (Operand.tmp 26) 2, type := 30, pos := "outright.go:240", after := #[{ on := 8, ground := Ground.data }, { on := 14, ground := Ground.gcOnly Departure.lateStores }], guard := none }) (v := .int .i64 ans.1) rfl (by kernel_rfl) (by kernel_rfl) (by kernel_rfl) (fun _ _ _ h => h) (Or.inl ⟨by rfl, fun w' h => by go_simp⟩) hH ?_
              try simp only [Act.put, List.setIfInBounds_toArray, List.set_cons_zero, List.set_cons_succ]
              refine wpAnyH_ready (rs := [12]) (by kernel_rfl) (by simp) ?_
              refine AllReadyH.cons (o := { dst := some 7, op := Op.alloc 28, type := 0, pos := "outright.go:240", after := #[], guard := none }) rfl (fun K hK => ?_) AllReadyH.nil
              go_simp
              have hN : Blk x2.heap.size 28 (csL ⟨0, false, 0, 0, 0, 0, 0, 0, 0, 0, 0, 0, 0, 0, 0⟩) (x2.alloc (.cells #[.int .i64 0, .bool false, .int .i64 0, .int .i64 0, .int .i64 0, .int .i64 0, .int .i64 0, .int .i64 0, .int .i64 0, .int .i64 0, .int .i64 0, .int .i64 0, .int .i64 0, .int .i64 0, .int .i64 0] 28)) := Blk.new _ _ _
              have hG : CB < x2.heap.size := hH.c.lt
              have orow := orow.later (below_alloc x2 (.cells #[.int .i64 0, .bool false, .int .i64 0, .int .i64 0, .int .i64 0, .int .i64 0, .int .i64 0, .int .i64 0, .int .i64 0, .int .i64 0, .int .i64 0, .int .i64 0, .int .i64 0, .int .i64 0, .int .i64 0] 28))
              have rrow := rrow.later (below_alloc x2 (.cells #[.int .i64 0, .bool false, .int .i64 0, .int .i64 0, .int .i64 0, .int .i64 0, .int .i64 0, .int .i64 0, .int .i64 0, .int .i64 0, .int .i64 0, .int .i64 0, .int .i64 0, .int .i64 0, .int .i64 0] 28))
              refine hK.out _ _ (hH.later (below_alloc _ _)) (fun hH => ?_)
              refine wpAnyH_ready (rs := [13]) (by kernel_rfl) (by simp) ?_
              refine AllReadyH.cons (o := { dst := none, op := Op.store 28 (Operand.tmp 7) (Operand.tmp 35), type := 0, pos := "outright.go:240", after := #[{ on := 12, ground := Ground.data }, { on := 9, ground := Ground.data }, { on := 7, ground := Ground.chain }, { on := 0, ground := Ground.phase }, { on := 1, ground := Ground.phase }, { on := 2, ground := Ground.phase }, { on := 3, ground := Ground.phase }, { on := 4, ground := Ground.phase }, { on := 5, ground := Ground.phase }, { on := 6, ground := Ground.phase }, { on := 7, ground := Ground.phase }, { on := 8, ground := Ground.phase }, { on := 9, ground := Ground.phase }, { on := 10, ground := Ground.textOnly Departure.lateStores }, { on := 11, ground := Ground.textOnly Departure.lateStores }, { on := 12, ground := Ground.phase }], guard := none }) rfl (fun K hK => ?_) AllReadyH.nil
              refine op_putC (zs := csL ⟨0, false, 0, 0, 0, 0, 0, 0, 0, 0, 0, 0, 0, 0, 0⟩) (csL ans.2.1) rfl (sizeCsL _) (csL_one _) rfl _ _ rfl _ rfl rfl hN ?_
              intro w9 b9 g9
              have PX : Hid (SA w l s c CB _ ans (.slice ra rn rc) w9) := ⟨hH.grown g9 hG, b9, hG, rowV_blk rrow hN g9 (by decide)⟩
              refine hK.out _ _ PX.out.ls (fun hH => ?_)
              simp only [Act.put]
              refine wpAnyH_take (i := 14) (oi := { dst := some 8, op := Op.assign (Operand.tmp 36), type := 22, pos := "outright.go:240", after := #[{ on := 10, ground := Ground.data }, { on := 13, ground := Ground.chain }, { on := 0, ground := Ground.phase }, { on := 1, ground := Ground.phase }, { on := 2, ground := Ground.phase }, { on := 3, ground := Ground.phase }, { on := 4, ground := Ground.phase }, { on := 5, ground := Ground.phase }, { on := 6, ground := Ground.phase }, { on := 7, ground := Ground.phase }, { on := 8, ground := Ground.phase }, { on := 9, ground := Ground.phase }, { on := 10, ground := Ground.phase }, { on := 11, ground := Ground.textOnly Departure.lateStores }, { on := 12, ground := Ground.phase }, { on := 13, ground := Ground.phase }], guard := none }) (v := .slice ra rn rc) rfl (by kernel_rfl) (by kernel_rfl) (by kernel_rfl) (fun _ _ _ h => h) (Or.inl ⟨by rfl, fun w' h => by go_simp⟩) hH ?_
              try simp only [Act.put, List.setIfInBounds_toArray, List.set_cons_zero, List.set_cons_succ]
              refine wpAnyH_take (i := 15) (oi := { dst := some 9, op := Op.assign (Operand.tmp 37), type := 30, pos := "outright.go:240", after := #[{ on := 11, ground := Ground.data }, { on := 14, ground := Ground.chain }, { on := 0, ground := Ground.phase }, { on := 1, ground := Ground.phase }, { on := 2, ground := Ground.phase }, { on := 3, ground := Ground.phase }, { on := 4, ground := Ground.phase }, { on := 5, ground := Ground.phase }, { on := 6, ground := Ground.phase }, { on := 7, ground := Ground.phase }, { on := 8, ground := Ground.phase }, { on := 9, ground := Ground.phase }, { on := 10, ground := Ground.phase }, { on := 11, ground := Ground.phase }, { on := 12, ground := Ground.phase }, { on := 13, ground := Ground.phase }, { on := 14, ground := Ground.phase }], guard := none }) (v := .int .i64 ans.1) rfl (by kernel_rfl) (by kernel_rfl) (by kernel_rfl) (fun _ _ _ h => h) (Or.inl ⟨by rfl, fun w' h => by go_simp⟩) hH ?_
              try simp only [Act.put, List.setIfInBounds_toArray, List.set_cons_zero, List.set_cons_succ]
              refine wpAnyH_done (by kernel_rfl) ?_ _
              clear hH hK b9 g9 hN
              go_wp2_with fail
              go_meet
              case rel => exact ⟨_, _, _, _, rfl, rfl, rfl, PX⟩
            · go_simp
              have hN : Blk x1.heap.size 28 (csL ⟨0, false, 0, 0, 0, 0, 0, 0, 0, 0, 0, 0, 0, 0, 0⟩) (x1.alloc (.cells #[.int .i64 0, .bool false, .int .i64 0, .int .i64 0, .int .i64 0, .int .i64 0, .int .i64 0, .int .i64 0, .int .i64 0, .int .i64 0, .int .i64 0, .int .i64 0, .int .i64 0, .int .i64 0, .int .i64 0] 28)) := Blk.new _ _ _
              have hG : CB < x1.heap.size := hH.c.lt
              have orow := orow.later (below_alloc x1 (.cells #[.int .i64 0, .bool false, .int .i64 0, .int .i64 0, .int .i64 0, .int .i64 0, .int .i64 0, .int .i64 0, .int .i64 0, .int .i64 0, .int .i64 0, .int .i64 0, .int .i64 0, .int .i64 0, .int .i64 0] 28))
              refine hK.out _ _ (hH.later (below_alloc _ _)) (fun hH => ?_)
              refine wpAnyH_ready (rs := [7]) (by kernel_rfl) (by simp) ?_
              refine AllReadyH.cons (o := { dst := some 34, op := Op.call { callee := Callee.value (Operand.func 12), args := #[Operand.tmp 28, Operand.tmp 29, Operand.tmp 33], argTypes := #[24, 28, 35] }, type := 31, pos := "outright.go:240", after := #[{ on := 1, ground := Ground.data }, { on := 2, ground := Ground.data }, { on := 6, ground := Ground.data }, { on := 1, ground := Ground.chain }], guard := none }) rfl (fun K hK => ?_) AllReadyH.nil
              go_simp
              refine (SK.out _ _ orow.rd).mono ?_
              rintro e x3 ⟨ra, rn, rc, rfl, rrow, bX⟩
              have orow := orow.later bX
              have hN := hN.below bX
              have rrow := rrow.mono hH.bb.size
              refine hK.out _ _ (hH.later bX) (fun hH => ?_)
              refine wpAnyH_take (i := 8) (oi := { dst := some 26, op := Op.move (Operand.tmp 34), type := 31, pos := "outright.go:240", after := #[{ on := 7, ground := Ground.data }], guard := none }) (v := .tuple #[csV ans.2.1, .slice ra rn rc, .int .i64 ans.1]) rfl (by kernel_rfl) (by kernel_rfl) (by kernel_rfl) (fun _ _ _ h => h) (Or.inl ⟨by rfl, fun w' h => by go_simp⟩) hH ?_
              try simp only [Act.put, List.setIfInBounds_toArray, List.set_cons_zero, List.set_cons_succ]
              refine wpAnyH_take (i := 9) (oi := { dst := some 35, op := Op.extract (Operand.tmp 26) 0, type := 28, pos := "outright.go:240", after := #[{ on := 8, ground := Ground.data }], guard := none }) (v := csV ans.2.1) rfl (by kernel_rfl) (by kernel_rfl) (by kernel_rfl) (fun _ _ _ h => h) (Or.inl ⟨by rfl, fun w' h => by go_simp⟩) hH ?_
              try simp only [Act.put, List.setIfInBounds_toArray, List.set_cons_zero, List.set_cons_succ]
              refine wpAnyH_take (i := 10) (oi := { dst := some 36, op := Op.extract (Operand.tmp 26) 1, type := 22, pos := "outright.go:240", after := #[{ on := 8, ground := Ground.data }, { on := 13, ground := Ground.gcOnly Departure.lateStores }], guard := none }) (v := .slice ra rn rc) rfl (by kernel_rfl) (by kernel_rfl) (by kernel_rfl) (fun _ _ _ h => h) (Or.inl ⟨by rfl, fun w' h => by go_simp⟩) hH ?_
              try simp only [Act.put, List.setIfInBounds_toArray, List.set_cons_zero, List.set_cons_succ]
              refine wpAnyH_take (i := 11) (oi := { dst := some 37, op := Op.extract (Operand.tmp 26) 2, type := 30, pos := "outright.go:240", after := #[{ on := 8, ground := Ground.data }, { on := 14, ground := Ground.gcOnly Departure.lateStores }], guard := none }) (v := .int .i64 ans.1) rfl (by kernel_rfl) (by kernel_rfl) (by kernel_rfl) (fun _ _ _ h => h) (Or.inl ⟨by rfl, fun w' h => by go_simp⟩) hH ?_
              try simp only [Act.put, List.setIfInBounds_toArray, List.set_cons_zero, List.set_cons_succ]
              refine wpAnyH_ready (rs := [13]) (by kernel_rfl) (by simp) ?_
              refine AllReadyH.cons (o := { dst := none, op := Op.store 28 (Operand.tmp 7) (Operand.tmp 35), type := 0, pos := "outright.go:240", after := #[{ on := 12, ground := Ground.data }, { on := 9, ground := Ground.data }, { on := 7, ground := Ground.chain }, { on := 0, ground := Ground.phase }, { on := 1, ground := Ground.phase }, { on := 2, ground := Ground.phase }, { on := 3, ground := Ground.phase }, { on := 4, ground := Ground.phase }, { on := 5, ground := Ground.phase }, { on := 6, ground := Ground.phase }, { on := 7, ground := Ground.phase }, { on := 8, ground := Ground.phase }, { on := 9, ground := Ground.phase }, { on := 10, ground := Ground.textOnly Departure.lateStores }, { on := 11, ground := Ground.textOnly Departure.lateStores }, { on := 12, ground := Ground.phase }], guard := none }) rfl (fun K hK => ?_) AllReadyH.nil
              refine op_putC (zs := csL ⟨0, false, 0, 0, 0, 0, 0, 0, 0, 0, 0, 0, 0, 0, 0⟩) (csL ans.2.1) rfl (sizeCsL _) (csL_one _) rfl _ _ rfl _ rfl rfl hN ?_
              intro w9 b9 g9
              have PX : Hid (SA w l s c CB _ ans (.slice ra rn rc) w9) := ⟨hH.grown g9 hG, b9, hG, rowV_blk rrow hN g9 (by decide)⟩
              refine hK.out _ _ PX.out.ls (fun hH => ?_)
              simp only [Act.put]
              refine wpAnyH_take (i := 14) (oi := { dst := some 8, op := Op.assign (Operand.tmp 36), type := 22, pos := "outright.go:240", after := #[{ on := 10, ground := Ground.data }, { on := 13, ground := Ground.chain }, { on := 0, ground := Ground.phase }, { on := 1, ground := Ground.phase }, { on := 2, ground := Ground.phase }, { on := 3, ground := Ground.phase }, { on := 4, ground := Ground.phase }, { on := 5, ground := Ground.phase }, { on := 6, ground := Ground.phase }, { on := 7, ground := Ground.phase }, { on := 8, ground := Ground.phase }, { on := 9, ground := Ground.phase }, { on := 10, ground := Ground.phase }, { on := 11, ground := Ground.textOnly Departure.lateStores }, { on := 12, ground := Ground.phase }, { on := 13, ground := Ground.phase }], guard := none }) (v := .slice ra rn rc) rfl (by kernel_rfl) (by kernel_rfl) (by kernel_rfl) (fun _ _ _ h => h) (Or.inl ⟨by rfl, fun w' h => by go_simp⟩) hH ?_
              try simp only [Act.put, List.setIfInBounds_toArray, List.set_cons_zero, List.set_cons_succ]
              refine wpAnyH_take (i := 15) (oi := { dst := some 9, op := Op.assign (Operand.tmp 37), type := 30, pos := "outright.go:240", after := #[{ on := 11, ground := Ground.data }, { on := 14, ground := Ground.chain }, { on := 0, ground := Ground.phase }, { on := 1, ground := Ground.phase }, { on := 2, ground := Ground.phase }, { on := 3, ground := Ground.phase }, { on := 4, ground := Ground.phase }, { on := 5, ground := Ground.phase }, { on := 6, ground := Ground.phase }, { on := 7, ground := Ground.phase }, { on := 8, ground := Ground.phase }, { on := 9, ground := Ground.phase }, { on := 10, ground := Ground.phase }, { on := 11, ground := Ground.phase }, { on := 12, ground := Ground.phase }, { on := 13, ground := Ground.phase }, { on := 14, ground := Ground.phase }], guard := none }) (v := .int .i64 ans.1) rfl (by kernel_rfl) (by kernel_rfl) (by kernel_rfl) (fun _ _ _ h => h) (Or.inl ⟨by rfl, fun w' h => by go_simp⟩) hH ?_
              try simp only [Act.put, List.setIfInBounds_toArray, List.set_cons_zero, List.set_cons_succ]
              refine wpAnyH_done (by kernel_rfl) ?_ _
              clear hH hK b9 g9 hN
              go_wp2_with fail
              go_meet
              case rel => exact ⟨_, _, _, _, rfl, rfl, rfl, PX⟩
          · go_simp
            have hN : Blk wr.drew.heap.size 28 (csL ⟨0, false, 0, 0, 0, 0, 0, 0, 0, 0, 0, 0, 0, 0, 0⟩) (wr.drew.alloc (.cells #[.int .i64 0, .bool false, .int .i64 0, .int .i64 0, .int .i64 0, .int .i64 0, .int .i64 0, .int .i64 0, .int .i64 0, .int .i64 0, .int .i64 0, .int .i64 0, .int .i64 0, .int .i64 0, .int .i64 0] 28)) := Blk.new _ _ _
            have hG : CB < wr.drew.heap.size := hH.c.lt
            refine hK.out _ _ (hH.later (below_alloc _ _)) (fun hH => ?_)
            refine wpAnyH_ready (rs := [1]) (by kernel_rfl) (by simp) ?_
            refine AllReadyH.cons (o := { dst := some 28, op := Op.call { callee := Callee.value (Operand.func 13), args := #[Operand.tmp 27], argTypes := #[24] }, type := 24, pos := "outright.go:240", after := #[{ on := 0, ground := Ground.data }], guard := none }) rfl (fun K hK => ?_) AllReadyH.nil
            go_simp
            refine (OW.out _ hH.bb).mono ?_
            rintro e x4 ⟨oa, on, oc, rfl, orow, bX⟩
            have hN := hN.below bX
            refine hK.out _ _ (hH.later bX) (fun hH => ?_)
            refine wpAnyH_ready (rs := [7]) (by kernel_rfl) (by simp) ?_
            refine AllReadyH.cons (o := { dst := some 34, op := Op.call { callee := Callee.value (Operand.func 12), args := #[Operand.tmp 28, Operand.tmp 29, Operand.tmp 33], argTypes := #[24, 28, 35] }, type := 31, pos := "outright.go:240", after := #[{ on := 1, ground := Ground.data }, { on := 2, ground := Ground.data }, { on := 6, ground := Ground.data }, { on := 1, ground := Ground.chain }], guard := none }) rfl (fun K hK => ?_) AllReadyH.nil
            go_simp
            refine (SK.out _ _ orow.rd).mono ?_
            rintro e x5 ⟨ra, rn, rc, rfl, rrow, bX⟩
            have hN := hN.below bX
            have orow := orow.later bX
            have rrow := rrow.mono hH.bb.size
            refine hK.out _ _ (hH.later bX) (fun hH => ?_)
            refine wpAnyH_take (i := 8) (oi := { dst := some 26, op := Op.move (Operand.tmp 34), type := 31, pos := "outright.go:240", after := #[{ on := 7, ground := Ground.data }], guard := none }) (v := .tuple #[csV ans.2.1, .slice ra rn rc, .int .i64 ans.1]) rfl (by kernel_rfl) (by kernel_rfl) (by kernel_rfl) (fun _ _ _ h => h) (Or.inl ⟨by rfl, fun w' h => by go_simp⟩) hH ?_
            try simp only [Act.put, List.setIfInBounds_toArray, List.set_cons_zero, List.set_cons_succ]
            refine wpAnyH_take (i := 9) (oi := { dst := some 35, op := Op.extract (Operand.tmp 26) 0, type := 28, pos := "outright.go:240", after := #[{ on := 8, ground := Ground.data }], guard := none }) (v := csV ans.2.1) rfl (by kernel_rfl) (by kernel_rfl) (by kernel_rfl) (fun _ _ _ h => h) (Or.inl ⟨by rfl, fun w' h => by go_simp⟩) hH ?_
            try simp only [Act.put, List.setIfInBounds_toArray, List.set_cons_zero, List.set_cons_succ]
            refine wpAnyH_take (i := 10) (oi := { dst := some 36, op := Op.extract (Operand.tmp 26) 1, type := 22, pos := "outright.go:240", after := #[{ on := 8, ground := Ground.data }, { on := 13, ground := Ground.gcOnly Departure.lateStores }], guard := none }) (v := .slice ra rn rc) rfl (by kernel_rfl) (by kernel_rfl) (by kernel_rfl) (fun _ _ _ h => h) (Or.inl ⟨by rfl, fun w' h => by go_simp⟩) hH ?_
            try simp only [Act.put, List.setIfInBounds_toArray, List.set_cons_zero, List.set_cons_succ]
            refine wpAnyH_take (i := 11) (oi := { dst := some 37, op := Op.extract (Operand.tmp 26) 2, type := 30, pos := "outright.go:240", after := #[{ on := 8, ground := Ground.data }, { on := 14, ground := Ground.gcOnly Departure.lateStores }], guard := none }) (v := .int .i64 ans.1) rfl (by kernel_rfl) (by kernel_rfl) (by kernel_rfl) (fun _ _ _ h => h) (Or.inl ⟨by rfl, fun w' h => by go_simp⟩) hH ?_
            try simp only [Act.put, List.setIfInBounds_toArray, List.set_cons_zero, List.set_cons_succ]
            refine wpAnyH_ready (rs := [13]) (by kernel_rfl) (by simp) ?_
            refine AllReadyH.cons (o := { dst := none, op := Op.store 28 (Operand.tmp 7) (Operand.tmp 35), type := 0, pos := "outright.go:240", after := #[{ on := 12, ground := Ground.data }, { on := 9, ground := Ground.data }, { on := 7, ground := Ground.chain }, { on := 0, ground := Ground.phase }, { on := 1, ground := Ground.phase }, { on := 2, ground := Ground.phase }, { on := 3, ground := Ground.phase }, { on := 4, ground := Ground.phase }, { on := 5, ground := Ground.phase }, { on := 6, ground := Ground.phase }, { on := 7, ground := Ground.phase }, { on := 8, ground := Ground.phase }, { on := 9, ground := Ground.phase }, { on := 10, ground := Ground.textOnly Departure.lateStores }, { on := 11, ground := Ground.textOnly Departure.lateStores }, { on := 12, ground := Ground.phase }], guard := none }) rfl (fun K hK => ?_) AllReadyH.nil
            refine op_putC (zs := csL ⟨0, false, 0, 0, 0, 0, 0, 0, 0, 0, 0, 0, 0, 0, 0⟩) (csL ans.2.1) rfl (sizeCsL _) (csL_one _) rfl _ _ rfl _ rfl rfl hN ?_
            intro w9 b9 g9
            have PX : Hid (SA w l s c CB _ ans (.slice ra rn rc) w9) := ⟨hH.grown g9 hG, b9, hG, rowV_blk rrow hN g9 (by decide)⟩
            refine hK.out _ _ PX.out.ls (fun hH => ?_)
            simp only [Act.put]
            refine wpAnyH_take (i := 14) (oi := { dst := some 8, op := Op.assign (Operand.tmp 36), type := 22, pos := "outright.go:240", after := #[{ on := 10, ground := Ground.data }, { on := 13, ground := Ground.chain }, { on := 0, ground := Ground.phase }, { on := 1, ground := Ground.phase }, { on := 2, ground := Ground.phase }, { on := 3, ground := Ground.phase }, { on := 4, ground := Ground.phase }, { on := 5, ground := Ground.phase }, { on := 6, ground := Ground.phase }, { on := 7, ground := Ground.phase }, { on := 8, ground := Ground.phase }, { on := 9, ground := Ground.phase }, { on := 10, ground := Ground.phase }, { on := 11, ground := Ground.textOnly Departure.lateStores }, { on := 12, ground := Ground.phase }, { on := 13, ground := Ground.phase }], guard := none }) (v := .slice ra rn rc) rfl (by kernel_rfl) (by kernel_rfl) (by kernel_rfl) (fun _ _ _ h => h) (Or.inl ⟨by rfl, fun w' h => by go_simp⟩) hH ?_
            try simp only [Act.put, List.setIfInBounds_toArray, List.set_cons_zero, List.set_cons_succ]
            refine wpAnyH_take (i := 15) (oi := { dst := some 9, op := Op.assign (Operand.tmp 37), type := 30, pos := "outright.go:240", after := #[{ on := 11, ground := Ground.data }, { on := 14, ground := Ground.chain }, { on := 0, ground := Ground.phase }, { on := 1, ground := Ground.phase }, { on := 2, ground := Ground.phase }, { on := 3, ground := Ground.phase }, { on := 4, ground := Ground.phase }, { on := 5, ground := Ground.phase }, { on := 6, ground := Ground.phase }, { on := 7, ground := Ground.phase }, { on := 8, ground := Ground.phase }, { on := 9, ground := Ground.phase }, { on := 10, ground := Ground.phase }, { on := 11, ground := Ground.phase }, { on := 12, ground := Ground.phase }, { on := 13, ground := Ground.phase }, { on := 14, ground := Ground.phase }], guard := none }) (v := .int .i64 ans.1) rfl (by kernel_rfl) (by kernel_rfl) (by kernel_rfl) (fun _ _ _ h => h) (Or.inl ⟨by rfl, fun w' h => by go_simp⟩) hH ?_
            try simp only [Act.put, List.setIfInBounds_toArray, List.set_cons_zero, List.set_cons_succ]
            refine wpAnyH_done (by kernel_rfl) ?_ _
            clear hH hK b9 g9 hN
            go_wp2_with fail
            go_meet
            case rel => exact ⟨_, _, _, _, rfl, rfl, rfl, PX⟩
        case rest =>
          obtain ⟨G, ra, rn, rc, rfl, rfl, rfl, SX⟩ := hcut
          clear SR
          go_upto_region 9 with (first
          | ((with_reducible refine at_loadT 28 ?_); refine step_load rfl 28 _ rfl G 0 rfl (csL ans.2.1) _ (Blk.all SX.out.d) Try.underlying28 rfl (sizeCsL _) ?_)
          | ((with_reducible refine at_store ?_); refine step_store rfl 28 _ _ rfl CB 0 28 _ (csL ans.2.1) rfl rfl SX.out.ls.c (Nat.le_refl 15) (sizeCsL _) (csL_one _) ?_; intro w8 n8 g8))
          have S8 : Hid (LS w l s ans.2.1 CB w8) := SX.out.ls.put n8 g8
          clear n8 g8 SX
          simp only [Act.put, List.setIfInBounds_toArray, List.set_cons_zero, List.set_cons_succ]
          generalize ans.2.1 = c2 at *
          obtain ⟨h1, h2, h3, h4, h5, h6, h7⟩ := SN.out
          have HO : Hid (∀ w', Calls Try.prog 14 #[csV c2] w' fun e w'' => e = .returned (.bool (opn c2)) ∧ Below w'.heap.size w' w'') := fun w' => open_at _ w'
          by_cases q3 : c2.st = 3
          · have hst : c2.st = 3 := q3
            have hsu : c2.su = false := h7 q3
            have o2 := h2 (by omega)
            have o5 := h5 (by omega)
            clear q3
            have hop : opn c2 = true := by unfold opn; first | exact decide_eq_true (by omega) | exact decide_eq_false (by omega)
            rw [hop] at HO
            have zsi : decide (0 < c2.si) = true := by first | exact decide_eq_true (by omega) | exact decide_eq_false (by omega)
            have zdl : decide (0 < c2.dl) = true := by first | exact decide_eq_true (by omega) | exact decide_eq_false (by omega)
            have zds : decide (c2.dl < c2.si) = false := decide_eq_false (by omega)
            have zpd : decide (0 < c2.pd) = false := by first | exact decide_eq_true (by omega) | exact decide_eq_false (by omega)
            have zpa : decide (0 < c2.pa) = false := by first | exact decide_eq_true (by omega) | exact decide_eq_false (by omega)
            have zpg : decide (c2.pg < 0) = false := decide_eq_false (by omega)
            have zpz : (c2.pg != 0) = false := by simp; omega
            have c0 : w8.cell? ⟨CB, 0, none⟩ = some (.int .i64 3) := by rw [← hst]; exact S8.out.cs 0 _ rfl
            have c1 : w8.cell? ⟨CB, 1, none⟩ = some (.bool false) := by rw [← hsu]; exact S8.out.cs 1 _ rfl
            have c3 : w8.cell? ⟨CB, 3, none⟩ = some (.int .i64 c2.si) := S8.out.cs 3 _ rfl
            have c4 : w8.cell? ⟨CB, 4, none⟩ = some (.int .i64 c2.dl) := S8.out.cs 4 _ rfl
            have c5 : w8.cell? ⟨CB, 5, none⟩ = some (.int .i64 c2.pr) := S8.out.cs 5 _ rfl
            have c6 : w8.cell? ⟨CB, 6, none⟩ = some (.int .i64 c2.pd) := S8.out.cs 6 _ rfl
            have c7 : w8.cell? ⟨CB, 7, none⟩ = some (.int .i64 c2.pa) := S8.out.cs 7 _ rfl
            have c8 : w8.cell? ⟨CB, 8, none⟩ = some (.int .i64 c2.pg) := S8.out.cs 8 _ rfl
            have HST : Hid (SH c2) := SN.out
            clear h1 h2 h3 h4 h5 h6 h7 hop
            go_wp2_with ((with_reducible refine at_loadG 28 ?_); refine step_loadG rfl 28 _ rfl CB 0 rfl (csL c2) _ (Blk.all S8.out.c) Try.underlying28 rfl (sizeCsL _) ?_)
            refine (HO.out _).mono ?_
            rintro e x9 ⟨rfl, bX⟩
            have SB : Hid (LS w l s c2 CB x9) := S8.out.later bX
            clear bX
            have c0x : x9.cell? ⟨CB, 0, none⟩ = some (.int .i64 3) := by rw [← hst]; exact SB.out.cs 0 _ rfl
            have c1x : x9.cell? ⟨CB, 1, none⟩ = some (.bool false) := by rw [← hsu]; exact SB.out.cs 1 _ rfl
            have c3x : x9.cell? ⟨CB, 3, none⟩ = some (.int .i64 c2.si) := SB.out.cs 3 _ rfl
            have c4x : x9.cell? ⟨CB, 4, none⟩ = some (.int .i64 c2.dl) := SB.out.cs 4 _ rfl
            have c5x : x9.cell? ⟨CB, 5, none⟩ = some (.int .i64 c2.pr) := SB.out.cs 5 _ rfl
            have c6x : x9.cell? ⟨CB, 6, none⟩ = some (.int .i64 c2.pd) := SB.out.cs 6 _ rfl
            have c7x : x9.cell? ⟨CB, 7, none⟩ = some (.int .i64 c2.pa) := SB.out.cs 7 _ rfl
            have c8x : x9.cell? ⟨CB, 8, none⟩ = some (.int .i64 c2.pg) := SB.out.cs 8 _ rfl
            clear hst
            clear hsu
            go_wp2_with fail
            go_roundw
            case rel => exact ⟨k + 1, c2, by go_num, by omega, HST, IN, SB⟩
            case measure => simp [intOf]; omega
          · by_cases q4 : c2.st = 4
            · have hst : c2.st = 4 := q4
              have o2 := h2 (by omega)
              have o4 := h4 q4
              clear q3 q4
              cases hsu : c2.su
              · have hop : opn c2 = true := by unfold opn; first | exact decide_eq_true (by omega) | exact decide_eq_false (by omega)
                rw [hop] at HO
                have zsi : decide (0 < c2.si) = true := by first | exact decide_eq_true (by omega) | exact decide_eq_false (by omega)
                have zdl : decide (0 < c2.dl) = true := by first | exact decide_eq_true (by omega) | exact decide_eq_false (by omega)
                have zds : decide (c2.dl < c2.si) = false := decide_eq_false (by omega)
                have zpd : decide (0 < c2.pd) = true := by first | exact decide_eq_true (by omega) | exact decide_eq_false (by omega)
                have zpa : decide (0 < c2.pa) = true := by first | exact decide_eq_true (by omega) | exact decide_eq_false (by omega)
                have zpg : decide (c2.pg < 0) = false := decide_eq_false (by omega)
                have zpp : decide (c2.pa ≤ c2.pg) = false := decide_eq_false (by omega)
                have zpr : decide (c2.pr < 1) = false := decide_eq_false (by omega)
                have c0 : w8.cell? ⟨CB, 0, none⟩ = some (.int .i64 4) := by rw [← hst]; exact S8.out.cs 0 _ rfl
                have c1 : w8.cell? ⟨CB, 1, none⟩ = some (.bool false) := by rw [← hsu]; exact S8.out.cs 1 _ rfl
                have c3 : w8.cell? ⟨CB, 3, none⟩ = some (.int .i64 c2.si) := S8.out.cs 3 _ rfl
                have c4 : w8.cell? ⟨CB, 4, none⟩ = some (.int .i64 c2.dl) := S8.out.cs 4 _ rfl
                have c5 : w8.cell? ⟨CB, 5, none⟩ = some (.int .i64 c2.pr) := S8.out.cs 5 _ rfl
                have c6 : w8.cell? ⟨CB, 6, none⟩ = some (.int .i64 c2.pd) := S8.out.cs 6 _ rfl
                have c7 : w8.cell? ⟨CB, 7, none⟩ = some (.int .i64 c2.pa) := S8.out.cs 7 _ rfl
                have c8 : w8.cell? ⟨CB, 8, none⟩ = some (.int .i64 c2.pg) := S8.out.cs 8 _ rfl
                have HST : Hid (SH c2) := SN.out
                clear h1 h2 h3 h4 h5 h6 h7 hop
                go_wp2_with ((with_reducible refine at_loadG 28 ?_); refine step_loadG rfl 28 _ rfl CB 0 rfl (csL c2) _ (Blk.all S8.out.c) Try.underlying28 rfl (sizeCsL _) ?_)
                refine (HO.out _).mono ?_
                rintro e x9 ⟨rfl, bX⟩
                have SB : Hid (LS w l s c2 CB x9) := S8.out.later bX
                clear bX
                have c0x : x9.cell? ⟨CB, 0, none⟩ = some (.int .i64 4) := by rw [← hst]; exact SB.out.cs 0 _ rfl
                have c1x : x9.cell? ⟨CB, 1, none⟩ = some (.bool false) := by rw [← hsu]; exact SB.out.cs 1 _ rfl
                have c3x : x9.cell? ⟨CB, 3, none⟩ = some (.int .i64 c2.si) := SB.out.cs 3 _ rfl
                have c4x : x9.cell? ⟨CB, 4, none⟩ = some (.int .i64 c2.dl) := SB.out.cs 4 _ rfl
                have c5x : x9.cell? ⟨CB, 5, none⟩ = some (.int .i64 c2.pr) := SB.out.cs 5 _ rfl
                have c6x : x9.cell? ⟨CB, 6, none⟩ = some (.int .i64 c2.pd) := SB.out.cs 6 _ rfl
                have c7x : x9.cell? ⟨CB, 7, none⟩ = some (.int .i64 c2.pa) := SB.out.cs 7 _ rfl
                have c8x : x9.cell? ⟨CB, 8, none⟩ = some (.int .i64 c2.pg) := SB.out.cs 8 _ rfl
                clear hst
                clear hsu
                go_wp2_with fail
                go_roundw
                case rel => exact ⟨k + 1, c2, by go_num, by omega, HST, IN, SB⟩
                case measure => simp [intOf]; omega
              · have hop : opn c2 = true := by unfold opn; first | exact decide_eq_true (by omega) | exact decide_eq_false (by omega)
                rw [hop] at HO
                have zsi : decide (0 < c2.si) = true := by first | exact decide_eq_true (by omega) | exact decide_eq_false (by omega)
                have zdl : decide (0 < c2.dl) = true := by first | exact decide_eq_true (by omega) | exact decide_eq_false (by omega)
                have zds : decide (c2.dl < c2.si) = false := decide_eq_false (by omega)
                have zpd : decide (0 < c2.pd) = true := by first | exact decide_eq_true (by omega) | exact decide_eq_false (by omega)
                have zpa : decide (0 < c2.pa) = true := by first | exact decide_eq_true (by omega) | exact decide_eq_false (by omega)
                have zpg : decide (c2.pg < 0) = false := decide_eq_false (by omega)
                have zpp : decide (c2.pa ≤ c2.pg) = false := decide_eq_false (by omega)
                have zpr : decide (c2.pr < 1) = false := decide_eq_false (by omega)
                have c0 : w8.cell? ⟨CB, 0, none⟩ = some (.int .i64 4) := by rw [← hst]; exact S8.out.cs 0 _ rfl
                have c1 : w8.cell? ⟨CB, 1, none⟩ = some (.bool true) := by rw [← hsu]; exact S8.out.cs 1 _ rfl
                have c3 : w8.cell? ⟨CB, 3, none⟩ = some (.int .i64 c2.si) := S8.out.cs 3 _ rfl
                have c4 : w8.cell? ⟨CB, 4, none⟩ = some (.int .i64 c2.dl) := S8.out.cs 4 _ rfl
                have c5 : w8.cell? ⟨CB, 5, none⟩ = some (.int .i64 c2.pr) := S8.out.cs 5 _ rfl
                have c6 : w8.cell? ⟨CB, 6, none⟩ = some (.int .i64 c2.pd) := S8.out.cs 6 _ rfl
                have c7 : w8.cell? ⟨CB, 7, none⟩ = some (.int .i64 c2.pa) := S8.out.cs 7 _ rfl
                have c8 : w8.cell? ⟨CB, 8, none⟩ = some (.int .i64 c2.pg) := S8.out.cs 8 _ rfl
                have HST : Hid (SH c2) := SN.out
                clear h1 h2 h3 h4 h5 h6 h7 hop
                go_wp2_with ((with_reducible refine at_loadG 28 ?_); refine step_loadG rfl 28 _ rfl CB 0 rfl (csL c2) _ (Blk.all S8.out.c) Try.underlying28 rfl (sizeCsL _) ?_)
                refine (HO.out _).mono ?_
                rintro e x9 ⟨rfl, bX⟩
                have SB : Hid (LS w l s c2 CB x9) := S8.out.later bX
                clear bX
                have c0x : x9.cell? ⟨CB, 0, none⟩ = some (.int .i64 4) := by rw [← hst]; exact SB.out.cs 0 _ rfl
                have c1x : x9.cell? ⟨CB, 1, none⟩ = some (.bool true) := by rw [← hsu]; exact SB.out.cs 1 _ rfl
                have c3x : x9.cell? ⟨CB, 3, none⟩ = some (.int .i64 c2.si) := SB.out.cs 3 _ rfl
                have c4x : x9.cell? ⟨CB, 4, none⟩ = some (.int .i64 c2.dl) := SB.out.cs 4 _ rfl
                have c5x : x9.cell? ⟨CB, 5, none⟩ = some (.int .i64 c2.pr) := SB.out.cs 5 _ rfl
                have c6x : x9.cell? ⟨CB, 6, none⟩ = some (.int .i64 c2.pd) := SB.out.cs 6 _ rfl
                have c7x : x9.cell? ⟨CB, 7, none⟩ = some (.int .i64 c2.pa) := SB.out.cs 7 _ rfl
                have c8x : x9.cell? ⟨CB, 8, none⟩ = some (.int .i64 c2.pg) := SB.out.cs 8 _ rfl
                clear hst
                clear hsu
                go_wp2_with fail
                go_roundw
                case rel => exact ⟨k + 1, c2, by go_num, by omega, HST, IN, SB⟩
                case measure => simp [intOf]; omega
            · by_cases q5 : c2.st = 5
              · have hst : c2.st = 5 := q5
                have hsu : c2.su = true := h6 q5
                have o2 := h2 (by omega)
                have o5 := h5 (by omega)
                clear q3 q4 q5
                have hop : opn c2 = true := by unfold opn; first | exact decide_eq_true (by omega) | exact decide_eq_false (by omega)
                rw [hop] at HO
                have zsi : decide (0 < c2.si) = true := by first | exact decide_eq_true (by omega) | exact decide_eq_false (by omega)
                have zdl : decide (0 < c2.dl) = true := by first | exact decide_eq_true (by omega) | exact decide_eq_false (by omega)
                have zds : decide (c2.dl < c2.si) = false := decide_eq_false (by omega)
                have zpd : decide (0 < c2.pd) = false := by first | exact decide_eq_true (by omega) | exact decide_eq_false (by omega)
                have zpa : decide (0 < c2.pa) = false := by first | exact decide_eq_true (by omega) | exact decide_eq_false (by omega)
                have zpg : decide (c2.pg < 0) = false := decide_eq_false (by omega)
                have zpz : (c2.pg != 0) = false := by simp; omega
                have c0 : w8.cell? ⟨CB, 0, none⟩ = some (.int .i64 5) := by rw [← hst]; exact S8.out.cs 0 _ rfl
                have c1 : w8.cell? ⟨CB, 1, none⟩ = some (.bool true) := by rw [← hsu]; exact S8.out.cs 1 _ rfl
                have c3 : w8.cell? ⟨CB, 3, none⟩ = some (.int .i64 c2.si) := S8.out.cs 3 _ rfl
                have c4 : w8.cell? ⟨CB, 4, none⟩ = some (.int .i64 c2.dl) := S8.out.cs 4 _ rfl
                have c5 : w8.cell? ⟨CB, 5, none⟩ = some (.int .i64 c2.pr) := S8.out.cs 5 _ rfl
                have c6 : w8.cell? ⟨CB, 6, none⟩ = some (.int .i64 c2.pd) := S8.out.cs 6 _ rfl
                have c7 : w8.cell? ⟨CB, 7, none⟩ = some (.int .i64 c2.pa) := S8.out.cs 7 _ rfl
                have c8 : w8.cell? ⟨CB, 8, none⟩ = some (.int .i64 c2.pg) := S8.out.cs 8 _ rfl
                have HST : Hid (SH c2) := SN.out
                clear h1 h2 h3 h4 h5 h6 h7 hop
                go_wp2_with ((with_reducible refine at_loadG 28 ?_); refine step_loadG rfl 28 _ rfl CB 0 rfl (csL c2) _ (Blk.all S8.out.c) Try.underlying28 rfl (sizeCsL _) ?_)
                refine (HO.out _).mono ?_
                rintro e x9 ⟨rfl, bX⟩
                have SB : Hid (LS w l s c2 CB x9) := S8.out.later bX
                clear bX
                have c0x : x9.cell? ⟨CB, 0, none⟩ = some (.int .i64 5) := by rw [← hst]; exact SB.out.cs 0 _ rfl
                have c1x : x9.cell? ⟨CB, 1, none⟩ = some (.bool true) := by rw [← hsu]; exact SB.out.cs 1 _ rfl
                have c3x : x9.cell? ⟨CB, 3, none⟩ = some (.int .i64 c2.si) := SB.out.cs 3 _ rfl
                have c4x : x9.cell? ⟨CB, 4, none⟩ = some (.int .i64 c2.dl) := SB.out.cs 4 _ rfl
                have c5x : x9.cell? ⟨CB, 5, none⟩ = some (.int .i64 c2.pr) := SB.out.cs 5 _ rfl
                have c6x : x9.cell? ⟨CB, 6, none⟩ = some (.int .i64 c2.pd) := SB.out.cs 6 _ rfl
                have c7x : x9.cell? ⟨CB, 7, none⟩ = some (.int .i64 c2.pa) := SB.out.cs 7 _ rfl
                have c8x : x9.cell? ⟨CB, 8, none⟩ = some (.int .i64 c2.pg) := SB.out.cs 8 _ rfl
                clear hst
                clear hsu
                go_wp2_with fail
                go_roundw
                case rel => exact ⟨k + 1, c2, by go_num, by omega, HST, IN, SB⟩
                case measure => simp [intOf]; omega
              · have o3 := h3 (by omega)
                have hsu : c2.su = false := o3.2.2
                have o5 := h5 (by omega)
                have e3 : (c2.st == 3) = false := by simp; omega
                have e4 : (c2.st == 4) = false := by simp; omega
                have e5 : (c2.st == 5) = false := by simp; omega
                have l1 : decide (c2.st < 1) = false := decide_eq_false (by omega)
                have l9 : decide (9 < c2.st) = false := decide_eq_false (by omega)
                have hop : opn c2 = false := by unfold opn; first | exact decide_eq_true (by omega) | exact decide_eq_false (by omega)
                rw [hop] at HO
                have zsi : decide (0 < c2.si) = false := by first | exact decide_eq_true (by omega) | exact decide_eq_false (by omega)
                have zdl : decide (0 < c2.dl) = false := by first | exact decide_eq_true (by omega) | exact decide_eq_false (by omega)
                have zds : decide (c2.dl < c2.si) = false := decide_eq_false (by omega)
                have zpd : decide (0 < c2.pd) = false := by first | exact decide_eq_true (by omega) | exact decide_eq_false (by omega)
                have zpa : decide (0 < c2.pa) = false := by first | exact decide_eq_true (by omega) | exact decide_eq_false (by omega)
                have zpg : decide (c2.pg < 0) = false := decide_eq_false (by omega)
                have zpz : (c2.pg != 0) = false := by simp; omega
                have c0 : w8.cell? ⟨CB, 0, none⟩ = some (.int .i64 c2.st) := S8.out.cs 0 _ rfl
                have c1 : w8.cell? ⟨CB, 1, none⟩ = some (.bool false) := by rw [← hsu]; exact S8.out.cs 1 _ rfl
                have c3 : w8.cell? ⟨CB, 3, none⟩ = some (.int .i64 c2.si) := S8.out.cs 3 _ rfl
                have c4 : w8.cell? ⟨CB, 4, none⟩ = some (.int .i64 c2.dl) := S8.out.cs 4 _ rfl
                have c5 : w8.cell? ⟨CB, 5, none⟩ = some (.int .i64 c2.pr) := S8.out.cs 5 _ rfl
                have c6 : w8.cell? ⟨CB, 6, none⟩ = some (.int .i64 c2.pd) := S8.out.cs 6 _ rfl
                have c7 : w8.cell? ⟨CB, 7, none⟩ = some (.int .i64 c2.pa) := S8.out.cs 7 _ rfl
                have c8 : w8.cell? ⟨CB, 8, none⟩ = some (.int .i64 c2.pg) := S8.out.cs 8 _ rfl
                have HST : Hid (SH c2) := SN.out
                clear h1 h2 h3 h4 h5 h6 h7 hop
                go_wp2_with ((with_reducible refine at_loadG 28 ?_); refine step_loadG rfl 28 _ rfl CB 0 rfl (csL c2) _ (Blk.all S8.out.c) Try.underlying28 rfl (sizeCsL _) ?_)
                refine (HO.out _).mono ?_
                rintro e x9 ⟨rfl, bX⟩
                have SB : Hid (LS w l s c2 CB x9) := S8.out.later bX
                clear bX
                have c0x : x9.cell? ⟨CB, 0, none⟩ = some (.int .i64 c2.st) := SB.out.cs 0 _ rfl
                have c1x : x9.cell? ⟨CB, 1, none⟩ = some (.bool false) := by rw [← hsu]; exact SB.out.cs 1 _ rfl
                have c3x : x9.cell? ⟨CB, 3, none⟩ = some (.int .i64 c2.si) := SB.out.cs 3 _ rfl
                have c4x : x9.cell? ⟨CB, 4, none⟩ = some (.int .i64 c2.dl) := SB.out.cs 4 _ rfl
                have c5x : x9.cell? ⟨CB, 5, none⟩ = some (.int .i64 c2.pr) := SB.out.cs 5 _ rfl
                have c6x : x9.cell? ⟨CB, 6, none⟩ = some (.int .i64 c2.pd) := SB.out.cs 6 _ rfl
                have c7x : x9.cell? ⟨CB, 7, none⟩ = some (.int .i64 c2.pa) := SB.out.cs 7 _ rfl
                have c8x : x9.cell? ⟨CB, 8, none⟩ = some (.int .i64 c2.pg) := SB.out.cs 8 _ rfl
                clear hsu
                go_wp2_with fail
                go_roundw
                case rel => exact ⟨k + 1, c2, by go_num, by omega, HST, IN, SB⟩
                case measure => simp [intOf]; omega
      · obtain rfl : k = N := by omega
        go_wp2_with fail
        go_ret
        exact ⟨rfl, SR.out.bb⟩
end Go.Proofs.Ytmhjghaipfijdaa
