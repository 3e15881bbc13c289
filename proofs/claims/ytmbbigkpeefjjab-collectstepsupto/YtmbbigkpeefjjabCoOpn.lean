/-
  Ours: the statements' opens (gen_coopn.py: THE SEAT's OWN NUMBERS).
-/
import Derived.Test.YtmbbigkpeefjjabCoEq
import Derived.Deep.RegionHeld3
import Derived.Deep.RegionHeld
namespace Go.Proofs.Ytmbbigkpeefjjab
open Go.RowKit LedM PolM CoM

theorem wrapC (x : Int) : IntKind.i64.wrap x = wrap64 x := by rw [IntKind.wrap_i64, wrap64]
namespace CoM
theorem open_step {l hs : List Int} (hg : good l hs = true) : ∃ c' r, stepA l hs fresh ⟨1, 5, wrap64 (l.getD 1 0 + 1), 0⟩ = (0, (c', 2 :: r)) ∧ c'.cy = 1 ∧ c'.si = 5 ∧ c'.dl = wrap64 (5 + l.getD 3 0) ∧ opn c' = true ∧ (r = [] ∨ r = [3]) := by
  have P := pol_of hg
  obtain ⟨b1, b2, b3, -, -, -, -, -⟩ := P
  simp only [pn] at b1 b2 b3
  have hw : wrap64 (l.getD 1 0 + 1) = l.getD 1 0 + 1 := wr (by omega) (by omega)
  have hdl : wrap64 (5 + l.getD 3 0) = 5 + l.getD 3 0 := wr (by omega) (by omega)
  have hy : wrap64 (0 + 1) = 1 := by simp [wrap64]
  have E1 : age1 ⟨1, 5, l.getD 1 0 + 1, 0⟩ (fresh, []) = (fresh, []) := if_neg (by simp [fresh])
  have E3 : age3 (l.getD 1 0) (l.getD 3 0) ⟨1, 5, l.getD 1 0 + 1, 0⟩ (fresh, []) = (opC (l.getD 3 0) 5 fresh, [2]) := by
    unfold age3 lok; rw [if_neg (by simp [opn, fresh])]; dsimp only; rw [if_pos (by omega)]; rfl
  have hO : opn (opC (l.getD 3 0) 5 fresh) = true := by simp [opn, opC]
  have EM : ageM l ⟨1, 5, l.getD 1 0 + 1, 0⟩ (fresh, []) = age5 ⟨1, 5, l.getD 1 0 + 1, 0⟩ (age4 (l.getD 2 0) ⟨1, 5, l.getD 1 0 + 1, 0⟩ (opC (l.getD 3 0) 5 fresh, [2])) := by
    unfold ageM; rw [E1, if_neg (by simp [opn, fresh]), E3]
  have ES : stepA l hs fresh ⟨1, 5, wrap64 (l.getD 1 0 + 1), 0⟩ = (0, ageM l ⟨1, 5, l.getD 1 0 + 1, 0⟩ (fresh, [])) := by
    rw [hw]
    have : stepM l hs fresh ⟨1, 5, l.getD 1 0 + 1, 0⟩ = (0, ageM l ⟨1, 5, l.getD 1 0 + 1, 0⟩ (fresh, [])) := by
      unfold stepM ruleR ageR; rw [hg, if_pos rfl, if_pos rfl]; dsimp only; rw [if_neg (fun x => by rcases x with x | x; (simp [isD] at x); omega), if_neg (by simp [ovr, fresh])]
    unfold stepA; rw [this]; rfl
  rw [ES, EM]
  by_cases h4 : l.getD 2 0 ≤ l.getD 1 0 + 1
  · have E4 : age4 (l.getD 2 0) ⟨1, 5, l.getD 1 0 + 1, 0⟩ (opC (l.getD 3 0) 5 fresh, [2]) = (susp (opC (l.getD 3 0) 5 fresh), [2, 3]) := if_pos ⟨hO, rfl, h4⟩
    have E5 : age5 ⟨1, 5, l.getD 1 0 + 1, 0⟩ (susp (opC (l.getD 3 0) 5 fresh), [2, 3]) = (susp (opC (l.getD 3 0) 5 fresh), [2, 3]) := if_neg (fun x => by
      have x2 : wrap64 (5 + l.getD 3 0) ≤ 5 := x.2
      rw [hdl] at x2; omega)
    rw [E4, E5]
    exact ⟨_, _, rfl, hy, rfl, rfl, by simp [opn, susp, opC], .inr rfl⟩
  · have E4 : age4 (l.getD 2 0) ⟨1, 5, l.getD 1 0 + 1, 0⟩ (opC (l.getD 3 0) 5 fresh, [2]) = (opC (l.getD 3 0) 5 fresh, [2]) := if_neg (fun x => h4 x.2.2)
    have E5 : age5 ⟨1, 5, l.getD 1 0 + 1, 0⟩ (opC (l.getD 3 0) 5 fresh, [2]) = (opC (l.getD 3 0) 5 fresh, [2]) := if_neg (fun x => by
      have x2 : wrap64 (5 + l.getD 3 0) ≤ 5 := x.2
      rw [hdl] at x2; omega)
    rw [E4, E5]
    exact ⟨_, _, rfl, hy, rfl, rfl, hO, .inl rfl⟩
end CoM
/-- A policy's box, and all that was there. -/
structure PS (w : World) (l : List Int) (s : Value) (w' : World) : Prop where
  p : Blk w.heap.size 24 (polL l s) w'
  bb : Below w.heap.size w w'
theorem PS.later {w w1 w2 : World} {l : List Int} {s : Value} (h : PS w l s w1) (hb : Below w1.heap.size w1 w2) : PS w l s w2 := ⟨h.p.below hb, below_trans h.bb hb⟩
theorem PS.drew {w w1 : World} {l : List Int} {s : Value} (h : PS w l s w1) : PS w l s w1.drew := ⟨h.p, Below.drew h.bb⟩
theorem PS.grown {w w1 w2 : World} {l : List Int} {s : Value} {G : Nat} (h : PS w l s w1) (g : w1.grownBy w2 (some G)) (hG : w.heap.size < G) : PS w l s w2 := ⟨h.p.grown g (fun e => by injection e with e; omega), below_row h.bb g (by omega)⟩
/-- Behind a step whose case lies in a new block. -/
structure PA (w : World) (l : List Int) (s : Value) (G : Nat) (a : An) (v : Value) (w' : World) : Prop where
  ps : PS w l s w'
  d : Blk G 29 (csL a.2.1) w'
  lt : w.heap.size < G
  r : RowV 3 w.heap.size w' v (bkL a.2.2)
theorem slice_some {e : TypeId} {base n cap : Nat} {w : World} {ao : Option Addr} {vs : List Value} (h : RowV e base w (.slice ao n cap) vs) (h0 : 0 < vs.length) : ∃ g, ao = some ⟨g, 0, none⟩ ∧ n = vs.length ∧ base ≤ g ∧ ∀ k u, vs[k]? = some u → w.cell? ⟨g, k, none⟩ = some u := by
  have hc := fun g hg => World.ownsRow.cells h (g := g) hg
  rcases h.2 with ⟨_, hn⟩ | ⟨g, cap', cur, hv, hb, _⟩
  · omega
  · injection hv with h1 h2 h3
    subst h1
    refine ⟨g, rfl, h2, hb, fun k u hu => ?_⟩
    have := hc g rfl k u hu
    have hadd : (⟨g, 0, none⟩ : Addr).add k = ⟨g, k, none⟩ := by unfold Addr.add; split <;> simp_all
    rw [hadd] at this; exact this

set_option maxRecDepth 20000 in
set_option maxHeartbeats 4000000 in
theorem opens_at (l hs : List Int) (s : Value) (w : World) (hl : l.length = 17) (hr : Rd w s (bkL hs)) (hb : hs.length * 8 ≤ 140737488355328) (hg : good l hs = true) :
    Calls Try.prog 8 #[PV l s] w fun e w' => e = .returned (.bool true) ∧ Below w.heap.size w w' := by
  show Calls _ _ #[.agg (polL l s).toArray] _ _
  have OW : Hid (∀ w', Below w.heap.size w w' → Calls Try.prog 12 #[PV l s] w' (OwnAns l hs w')) := fun w' h => own_at l hs s w' hl (hr.later h) hb
  have FR : Hid (∀ w', Calls Try.prog 10 #[] w' fun e w'' => e = .returned (csV fresh) ∧ Below w'.heap.size w' w'') := fresh_at
  have LT : Hid (∀ w', Calls Try.prog 22 #[.int .i64 5, .int .i64 (wrap64 (l.getD 1 0 + 1))] w' fun e w'' => e = .returned (evV ⟨1, 5, wrap64 (l.getD 1 0 + 1), 0⟩) ∧ Below w'.heap.size w' w'') := fun w' => late_at _ _ w'
  have OP : Hid (∀ c w', Calls Try.prog 13 #[csV c] w' fun e w'' => e = .returned (.bool (opn c)) ∧ Below w'.heap.size w' w'') := open_at
  obtain ⟨c1, r, es, cy, si, dl, op, hr3⟩ := open_step hg
  have ST : Hid (∀ s' w', Rd w' s' (bkL hs) → Calls Try.prog 11 #[PV l s', csV fresh, evV ⟨1, 5, wrap64 (l.getD 1 0 + 1), 0⟩] w' (StepAns (0, (c1, 2 :: r)) w')) := fun s' w' h => by rw [← es]; exact step_at l hs s' fresh _ w' hl h (by omega)
  have SZ : Hid ((Try.prog.info? 24).map (·.size) = some (polL l s).length) := by show _ = _; rw [polL_len hl]; exact sizeP
  have S0 : Hid (PS w l s (w.alloc (.cells (polL l s).toArray 24))) := ⟨Blk.new _ _ _, below_alloc _ _⟩
  have HL : Hid (l.length = 17) := hl
  have OF : Hid (opn fresh = false) := rfl
  have PC : Hid (∀ w', PS w l s w' → w'.cell? ⟨w.heap.size, 1, none⟩ = some (.int .i64 (l.getD 1 0))) := fun w' h => h.p.cell 1 _ (polL_at HL.out 1 (by decide))
  have P3 : Hid (∀ w', PS w l s w' → w'.cell? ⟨w.heap.size, 3, none⟩ = some (.int .i64 (l.getD 3 0))) := fun w' h => h.p.cell 3 _ (polL_at HL.out 3 (by decide))
  clear hl hr hg es
  generalize l.getD 1 0 = GR at *
  generalize hCO : l.getD 3 0 = CO at *
  go_enter Try.func8, Try.ntmps8
  go_upto_region 1 with fail
  generalize w.alloc (.cells (polL l s).toArray 24) = w0 at *
  go_cut [3, 4, 5] from 6 to 55 (fun v3 v4 v5 wx => ∃ G ra rn rc, v3 = .pointer (some ⟨G, 0, none⟩) ∧ v4 = .slice ra rn rc ∧ v5 = .int .i64 0 ∧ Hid (PA w l s G (0, (c1, 2 :: r)) (.slice ra rn rc) wx))
  case first =>
    have hu := Try.underlying24
    have hi := SZ.out
    refine wp_region_held_drew (S := fun w' => PS w l s w') (by kernel_rfl) (S0.out.drew) (fun hH => ?_)
    refine wpAnyH_take (i := 0) (oi := { dst := some 7, op := Op.load 24 (Operand.tmp 1), type := 24, pos := "outright.go:24", after := #[], guard := none }) (v := .agg (polL l s).toArray) rfl (by kernel_rfl) (by kernel_rfl) (by kernel_rfl) (fun _ _ _ h => h) (yieldsIf_load_mid (by rfl) _ _ rfl w.heap.size 0 rfl (polL l s) _ (fun w' h => h.p.all) hu rfl hi) hH ?_
    try simp only [Act.put, List.setIfInBounds_toArray, List.set_cons_zero, List.set_cons_succ]
    refine wpAnyH_take (i := 3) (oi := { dst := some 10, op := Op.fieldAddr 24 (Operand.tmp 1) 1, type := 0, pos := "outright.go:24", after := #[], guard := none }) (v := .pointer (some ⟨w.heap.size, 1, none⟩)) rfl (by kernel_rfl) (by kernel_rfl) (by kernel_rfl) (fun _ _ _ h => h) (Or.inl ⟨by rfl, fun w' h => by go_simp⟩) hH ?_
    try simp only [Act.put, List.setIfInBounds_toArray, List.set_cons_zero, List.set_cons_succ]
    refine wpAnyH_take (i := 4) (oi := { dst := some 11, op := Op.load 3 (Operand.tmp 10), type := 3, pos := "outright.go:24", after := #[{ on := 3, ground := Ground.data }], guard := none }) (v := .int .i64 GR) rfl (by kernel_rfl) (by kernel_rfl) (by kernel_rfl) (fun _ _ _ h => h) (Or.inl ⟨by rfl, fun w' h => by have q := PC.out _ h; go_simp⟩) hH ?_
    try simp only [Act.put, List.setIfInBounds_toArray, List.set_cons_zero, List.set_cons_succ]
    refine wpAnyH_take (i := 5) (oi := { dst := some 12, op := Op.binOp BinOp.add 3 (Operand.tmp 11) (Operand.const (Value.int IntKind.i64 1)) 3, type := 3, pos := "outright.go:24", after := #[{ on := 4, ground := Ground.data }], guard := none }) (v := .int .i64 (wrap64 (GR + 1))) rfl (by kernel_rfl) (by kernel_rfl) (by kernel_rfl) (fun _ _ _ h => h) (Or.inl ⟨by rfl, fun w' h => by have e64 := wrapC (GR + 1); go_simp⟩) hH ?_
    try simp only [Act.put, List.setIfInBounds_toArray, List.set_cons_zero, List.set_cons_succ]
    refine wpAnyH_ready (rs := [1, 12]) (by kernel_rfl) (by simp) ?_
    refine AllReadyH.cons (o := { dst := some 8, op := Op.call { callee := Callee.value (Operand.func 12), args := #[Operand.tmp 7], argTypes := #[24] }, type := 24, pos := "outright.go:24", after := #[{ on := 0, ground := Ground.data }], guard := none }) rfl (fun K hK => ?_) (AllReadyH.cons (o := { dst := some 3, op := Op.alloc 29, type := 0, pos := "outright.go:24", after := #[], guard := none }) rfl (fun K hK => ?_) AllReadyH.nil)
    · go_simp
      refine (OW.out _ hH.bb).mono ?_
      rintro e x1 ⟨oa, on, oc, rfl, orow, bX⟩
      refine hK.out _ _ (hH.later bX) (fun hH => ?_)
      refine wpAnyH_ready (rs := [2, 12]) (by kernel_rfl) (by simp) ?_
      refine AllReadyH.cons (o := { dst := some 9, op := Op.call { callee := Callee.value (Operand.func 10), args := #[], argTypes := #[] }, type := 29, pos := "outright.go:24", after := #[{ on := 1, ground := Ground.chain }], guard := none }) rfl (fun K hK => ?_) (AllReadyH.cons (o := { dst := some 3, op := Op.alloc 29, type := 0, pos := "outright.go:24", after := #[], guard := none }) rfl (fun K hK => ?_) AllReadyH.nil)
      · go_simp
        refine (FR.out _).mono ?_
        rintro e x2 ⟨rfl, bX⟩
        have orow := orow.later bX
        refine hK.out _ _ (hH.later bX) (fun hH => ?_)
        refine wpAnyH_ready (rs := [6, 12]) (by kernel_rfl) (by simp) ?_
        refine AllReadyH.cons (o := { dst := some 13, op := Op.call { callee := Callee.value (Operand.func 22), args := #[Operand.const (Value.int IntKind.i64 5), Operand.tmp 12], argTypes := #[3, 3] }, type := 36, pos := "outright.go:24", after := #[{ on := 5, ground := Ground.data }, { on := 2, ground := Ground.chain }], guard := none }) rfl (fun K hK => ?_) (AllReadyH.cons (o := { dst := some 3, op := Op.alloc 29, type := 0, pos := "outright.go:24", after := #[], guard := none }) rfl (fun K hK => ?_) AllReadyH.nil)
        · go_simp
          refine (LT.out _).mono ?_
          rintro e x3 ⟨rfl, bX⟩
          have orow := orow.later bX
          refine hK.out _ _ (hH.later bX) (fun hH => ?_)
          refine wpAnyH_ready (rs := [7, 12]) (by kernel_rfl) (by simp) ?_
          refine AllReadyH.cons (o := { dst := some 14, op := Op.call { callee := Callee.value (Operand.func 11), args := #[Operand.tmp 8, Operand.tmp 9, Operand.tmp 13], argTypes := #[24, 29, 36] }, type := 32, pos := "outright.go:24", after := #[{ on := 1, ground := Ground.data }, { on := 2, ground := Ground.data }, { on := 6, ground := Ground.data }, { on := 6, ground := Ground.chain }], guard := none }) rfl (fun K hK => ?_) (AllReadyH.cons (o := { dst := some 3, op := Op.alloc 29, type := 0, pos := "outright.go:24", after := #[], guard := none }) rfl (fun K hK => ?_) AllReadyH.nil)
          · go_simp
            refine (ST.out _ _ orow.rd).mono ?_
            rintro e x4 ⟨ra, rn, rc, rfl, rrow, bX⟩
            have orow := orow.later bX
            have rrow := rrow.mono hH.bb.size
            refine hK.out _ _ (hH.later bX) (fun hH => ?_)
            refine wpAnyH_take (i := 8) (oi := { dst := some 6, op := Op.move (Operand.tmp 14), type := 32, pos := "outright.go:24", after := #[{ on := 7, ground := Ground.data }], guard := none }) (v := .tuple #[csV c1, .slice ra rn rc, .int .i64 0]) rfl (by kernel_rfl) (by kernel_rfl) (by kernel_rfl) (fun _ _ _ h => h) (Or.inl ⟨by rfl, fun w' h => by go_simp⟩) hH ?_
            try simp only [Act.put, List.setIfInBounds_toArray, List.set_cons_zero, List.set_cons_succ]
            refine wpAnyH_take (i := 9) (oi := { dst := some 15, op := Op.extract (Operand.tmp 6) 0, type := 29, pos := "outright.go:24", after := #[{ on := 8, ground := Ground.data }], guard := none }) (v := csV c1) rfl (by kernel_rfl) (by kernel_rfl) (by kernel_rfl) (fun _ _ _ h => h) (Or.inl ⟨by rfl, fun w' h => by go_simp⟩) hH ?_
            try simp only [Act.put, List.setIfInBounds_toArray, List.set_cons_zero, List.set_cons_succ]
            refine wpAnyH_take (i := 10) (oi := { dst := some 16, op := Op.extract (Operand.tmp 6) 1, type := 22, pos := "outright.go:24", after := #[{ on := 8, ground := Ground.data }, { on := 13, ground := Ground.gcOnly Departure.lateStores }], guard := none }) (v := .slice ra rn rc) rfl (by kernel_rfl) (by kernel_rfl) (by kernel_rfl) (fun _ _ _ h => h) (Or.inl ⟨by rfl, fun w' h => by go_simp⟩) hH ?_
            try simp only [Act.put, List.setIfInBounds_toArray, List.set_cons_zero, List.set_cons_succ]
            refine wpAnyH_take (i := 11) (oi := { dst := some 17, op := Op.extract (Operand.tmp 6) 2, type := 31, pos := "outright.go:24", after := #[{ on := 8, ground := Ground.data }, { on := 14, ground := Ground.gcOnly Departure.lateStores }], guard := none }) (v := .int .i64 0) rfl (by kernel_rfl) (by kernel_rfl) (by kernel_rfl) (fun _ _ _ h => h) (Or.inl ⟨by rfl, fun w' h => by go_simp⟩) hH ?_
            try simp only [Act.put, List.setIfInBounds_toArray, List.set_cons_zero, List.set_cons_succ]
            refine wpAnyH_ready (rs := [12]) (by kernel_rfl) (by simp) ?_
            refine AllReadyH.cons (o := { dst := some 3, op := Op.alloc 29, type := 0, pos := "outright.go:24", after := #[], guard := none }) rfl (fun K hK => ?_) AllReadyH.nil
            go_simp
            have hN : Blk x4.heap.size 29 (csL ⟨0, false, 0, 0, 0, 0, 0, 0, 0, 0, 0, 0, 0, 0, 0⟩) (x4.alloc (.cells #[.int .i64 0, .bool false, .int .i64 0, .int .i64 0, .int .i64 0, .int .i64 0, .int .i64 0, .int .i64 0, .int .i64 0, .int .i64 0, .int .i64 0, .int .i64 0, .int .i64 0, .int .i64 0, .int .i64 0] 29)) := Blk.new _ _ _
            have hG : w.heap.size < x4.heap.size := hH.p.lt
            have orow := orow.later (below_alloc x4 (.cells #[.int .i64 0, .bool false, .int .i64 0, .int .i64 0, .int .i64 0, .int .i64 0, .int .i64 0, .int .i64 0, .int .i64 0, .int .i64 0, .int .i64 0, .int .i64 0, .int .i64 0, .int .i64 0, .int .i64 0] 29))
            have rrow := rrow.later (below_alloc x4 (.cells #[.int .i64 0, .bool false, .int .i64 0, .int .i64 0, .int .i64 0, .int .i64 0, .int .i64 0, .int .i64 0, .int .i64 0, .int .i64 0, .int .i64 0, .int .i64 0, .int .i64 0, .int .i64 0, .int .i64 0] 29))
            refine hK.out _ _ (hH.later (below_alloc _ _)) (fun hH => ?_)
            refine wpAnyH_ready (rs := [13]) (by kernel_rfl) (by simp) ?_
            refine AllReadyH.cons (o := { dst := none, op := Op.store 29 (Operand.tmp 3) (Operand.tmp 15), type := 0, pos := "outright.go:24", after := #[{ on := 12, ground := Ground.data }, { on := 9, ground := Ground.data }, { on := 7, ground := Ground.chain }, { on := 0, ground := Ground.phase }, { on := 1, ground := Ground.phase }, { on := 2, ground := Ground.phase }, { on := 3, ground := Ground.phase }, { on := 4, ground := Ground.phase }, { on := 5, ground := Ground.phase }, { on := 6, ground := Ground.phase }, { on := 7, ground := Ground.phase }, { on := 8, ground := Ground.phase }, { on := 9, ground := Ground.phase }, { on := 10, ground := Ground.textOnly Departure.lateStores }, { on := 11, ground := Ground.textOnly Departure.lateStores }, { on := 12, ground := Ground.phase }], guard := none }) rfl (fun K hK => ?_) AllReadyH.nil
            refine op_putC (zs := csL ⟨0, false, 0, 0, 0, 0, 0, 0, 0, 0, 0, 0, 0, 0, 0⟩) (csL c1) rfl (sizeCsL c1) (csL_one c1) rfl _ _ rfl _ rfl rfl hN ?_
            intro w9 b9 g9
            have PX : Hid (PA w l s _ (0, (c1, 2 :: r)) (.slice ra rn rc) w9) := ⟨hH.grown g9 hG, b9, hG, rowV_blk rrow hN g9 (by decide)⟩
            refine hK.out _ _ PX.out.ps (fun hH => ?_)
            simp only [Act.put]
            refine wpAnyH_take (i := 14) (oi := { dst := some 4, op := Op.assign (Operand.tmp 16), type := 22, pos := "outright.go:24", after := #[{ on := 10, ground := Ground.data }, { on := 13, ground := Ground.chain }, { on := 0, ground := Ground.phase }, { on := 1, ground := Ground.phase }, { on := 2, ground := Ground.phase }, { on := 3, ground := Ground.phase }, { on := 4, ground := Ground.phase }, { on := 5, ground := Ground.phase }, { on := 6, ground := Ground.phase }, { on := 7, ground := Ground.phase }, { on := 8, ground := Ground.phase }, { on := 9, ground := Ground.phase }, { on := 10, ground := Ground.phase }, { on := 11, ground := Ground.textOnly Departure.lateStores }, { on := 12, ground := Ground.phase }, { on := 13, ground := Ground.phase }], guard := none }) (v := .slice ra rn rc) rfl (by kernel_rfl) (by kernel_rfl) (by kernel_rfl) (fun _ _ _ h => h) (Or.inl ⟨by rfl, fun w' h => by go_simp⟩) hH ?_
            try simp only [Act.put, List.setIfInBounds_toArray, List.set_cons_zero, List.set_cons_succ]
            refine wpAnyH_take (i := 15) (oi := { dst := some 5, op := Op.assign (Operand.tmp 17), type := 31, pos := "outright.go:24", after := #[{ on := 11, ground := Ground.data }, { on := 14, ground := Ground.chain }, { on := 0, ground := Ground.phase }, { on := 1, ground := Ground.phase }, { on := 2, ground := Ground.phase }, { on := 3, ground := Ground.phase }, { on := 4, ground := Ground.phase }, { on := 5, ground := Ground.phase }, { on := 6, ground := Ground.phase }, { on := 7, ground := Ground.phase }, { on := 8, ground := Ground.phase }, { on := 9, ground := Ground.phase }, { on := 10, ground := Ground.phase }, { on := 11, ground := Ground.phase }, { on := 12, ground := Ground.phase }, { on := 13, ground := Ground.phase }, { on := 14, ground := Ground.phase }], guard := none }) (v := .int .i64 0) rfl (by kernel_rfl) (by kernel_rfl) (by kernel_rfl) (fun _ _ _ h => h) (Or.inl ⟨by rfl, fun w' h => by go_simp⟩) hH ?_
            try simp only [Act.put, List.setIfInBounds_toArray, List.set_cons_zero, List.set_cons_succ]
            refine wpAnyH_done (by kernel_rfl) ?_ _
            clear hH hK b9 g9 hN
            go_wp2_with fail
            go_meet
            case rel => exact ⟨_, _, _, _, rfl, rfl, rfl, PX⟩
          · go_simp
            have hN : Blk x3.heap.size 29 (csL ⟨0, false, 0, 0, 0, 0, 0, 0, 0, 0, 0, 0, 0, 0, 0⟩) (x3.alloc (.cells #[.int .i64 0, .bool false, .int .i64 0, .int .i64 0, .int .i64 0, .int .i64 0, .int .i64 0, .int .i64 0, .int .i64 0, .int .i64 0, .int .i64 0, .int .i64 0, .int .i64 0, .int .i64 0, .int .i64 0] 29)) := Blk.new _ _ _
            have hG : w.heap.size < x3.heap.size := hH.p.lt
            have orow := orow.later (below_alloc x3 (.cells #[.int .i64 0, .bool false, .int .i64 0, .int .i64 0, .int .i64 0, .int .i64 0, .int .i64 0, .int .i64 0, .int .i64 0, .int .i64 0, .int .i64 0, .int .i64 0, .int .i64 0, .int .i64 0, .int .i64 0] 29))
            refine hK.out _ _ (hH.later (below_alloc _ _)) (fun hH => ?_)
            refine wpAnyH_ready (rs := [7]) (by kernel_rfl) (by simp) ?_
            refine AllReadyH.cons (o := { dst := some 14, op := Op.call { callee := Callee.value (Operand.func 11), args := #[Operand.tmp 8, Operand.tmp 9, Operand.tmp 13], argTypes := #[24, 29, 36] }, type := 32, pos := "outright.go:24", after := #[{ on := 1, ground := Ground.data }, { on := 2, ground := Ground.data }, { on := 6, ground := Ground.data }, { on := 6, ground := Ground.chain }], guard := none }) rfl (fun K hK => ?_) AllReadyH.nil
            go_simp
            refine (ST.out _ _ orow.rd).mono ?_
            rintro e x5 ⟨ra, rn, rc, rfl, rrow, bX⟩
            have orow := orow.later bX
            have hN := hN.below bX
            have rrow := rrow.mono hH.bb.size
            refine hK.out _ _ (hH.later bX) (fun hH => ?_)
            refine wpAnyH_take (i := 8) (oi := { dst := some 6, op := Op.move (Operand.tmp 14), type := 32, pos := "outright.go:24", after := #[{ on := 7, ground := Ground.data }], guard := none }) (v := .tuple #[csV c1, .slice ra rn rc, .int .i64 0]) rfl (by kernel_rfl) (by kernel_rfl) (by kernel_rfl) (fun _ _ _ h => h) (Or.inl ⟨by rfl, fun w' h => by go_simp⟩) hH ?_
            try simp only [Act.put, List.setIfInBounds_toArray, List.set_cons_zero, List.set_cons_succ]
            refine wpAnyH_take (i := 9) (oi := { dst := some 15, op := Op.extract (Operand.tmp 6) 0, type := 29, pos := "outright.go:24", after := #[{ on := 8, ground := Ground.data }], guard := none }) (v := csV c1) rfl (by kernel_rfl) (by kernel_rfl) (by kernel_rfl) (fun _ _ _ h => h) (Or.inl ⟨by rfl, fun w' h => by go_simp⟩) hH ?_
            try simp only [Act.put, List.setIfInBounds_toArray, List.set_cons_zero, List.set_cons_succ]
            refine wpAnyH_take (i := 10) (oi := { dst := some 16, op := Op.extract (Operand.tmp 6) 1, type := 22, pos := "outright.go:24", after := #[{ on := 8, ground := Ground.data }, { on := 13, ground := Ground.gcOnly Departure.lateStores }], guard := none }) (v := .slice ra rn rc) rfl (by kernel_rfl) (by kernel_rfl) (by kernel_rfl) (fun _ _ _ h => h) (Or.inl ⟨by rfl, fun w' h => by go_simp⟩) hH ?_
            try simp only [Act.put, List.setIfInBounds_toArray, List.set_cons_zero, List.set_cons_succ]
            refine wpAnyH_take (i := 11) (oi := { dst := some 17, op := Op.extract (Operand.tmp 6) 2, type := 31, pos := "outright.go:24", after := #[{ on := 8, ground := Ground.data }, { on := 14, ground := Ground.gcOnly Departure.lateStores }], guard := none }) (v := .int .i64 0) rfl (by kernel_rfl) (by kernel_rfl) (by kernel_rfl) (fun _ _ _ h => h) (Or.inl ⟨by rfl, fun w' h => by go_simp⟩) hH ?_
            try simp only [Act.put, List.setIfInBounds_toArray, List.set_cons_zero, List.set_cons_succ]
            refine wpAnyH_ready (rs := [13]) (by kernel_rfl) (by simp) ?_
            refine AllReadyH.cons (o := { dst := none, op := Op.store 29 (Operand.tmp 3) (Operand.tmp 15), type := 0, pos := "outright.go:24", after := #[{ on := 12, ground := Ground.data }, { on := 9, ground := Ground.data }, { on := 7, ground := Ground.chain }, { on := 0, ground := Ground.phase }, { on := 1, ground := Ground.phase }, { on := 2, ground := Ground.phase }, { on := 3, ground := Ground.phase }, { on := 4, ground := Ground.phase }, { on := 5, ground := Ground.phase }, { on := 6, ground := Ground.phase }, { on := 7, ground := Ground.phase }, { on := 8, ground := Ground.phase }, { on := 9, ground := Ground.phase }, { on := 10, ground := Ground.textOnly Departure.lateStores }, { on := 11, ground := Ground.textOnly Departure.lateStores }, { on := 12, ground := Ground.phase }], guard := none }) rfl (fun K hK => ?_) AllReadyH.nil
            refine op_putC (zs := csL ⟨0, false, 0, 0, 0, 0, 0, 0, 0, 0, 0, 0, 0, 0, 0⟩) (csL c1) rfl (sizeCsL c1) (csL_one c1) rfl _ _ rfl _ rfl rfl hN ?_
            intro w9 b9 g9
            have PX : Hid (PA w l s _ (0, (c1, 2 :: r)) (.slice ra rn rc) w9) := ⟨hH.grown g9 hG, b9, hG, rowV_blk rrow hN g9 (by decide)⟩
            refine hK.out _ _ PX.out.ps (fun hH => ?_)
            simp only [Act.put]
            refine wpAnyH_take (i := 14) (oi := { dst := some 4, op := Op.assign (Operand.tmp 16), type := 22, pos := "outright.go:24", after := #[{ on := 10, ground := Ground.data }, { on := 13, ground := Ground.chain }, { on := 0, ground := Ground.phase }, { on := 1, ground := Ground.phase }, { on := 2, ground := Ground.phase }, { on := 3, ground := Ground.phase }, { on := 4, ground := Ground.phase }, { on := 5, ground := Ground.phase }, { on := 6, ground := Ground.phase }, { on := 7, ground := Ground.phase }, { on := 8, ground := Ground.phase }, { on := 9, ground := Ground.phase }, { on := 10, ground := Ground.phase }, { on := 11, ground := Ground.textOnly Departure.lateStores }, { on := 12, ground := Ground.phase }, { on := 13, ground := Ground.phase }], guard := none }) (v := .slice ra rn rc) rfl (by kernel_rfl) (by kernel_rfl) (by kernel_rfl) (fun _ _ _ h => h) (Or.inl ⟨by rfl, fun w' h => by go_simp⟩) hH ?_
            try simp only [Act.put, List.setIfInBounds_toArray, List.set_cons_zero, List.set_cons_succ]
            refine wpAnyH_take (i := 15) (oi := { dst := some 5, op := Op.assign (Operand.tmp 17), type := 31, pos := "outright.go:24", after := #[{ on := 11, ground := Ground.data }, { on := 14, ground := Ground.chain }, { on := 0, ground := Ground.phase }, { on := 1, ground := Ground.phase }, { on := 2, ground := Ground.phase }, { on := 3, ground := Ground.phase }, { on := 4, ground := Ground.phase }, { on := 5, ground := Ground.phase }, { on := 6, ground := Ground.phase }, { on := 7, ground := Ground.phase }, { on := 8, ground := Ground.phase }, { on := 9, ground := Ground.phase }, { on := 10, ground := Ground.phase }, { on := 11, ground := Ground.phase }, { on := 12, ground := Ground.phase }, { on := 13, ground := Ground.phase }, { on := 14, ground := Ground.phase }], guard := none }) (v := .int .i64 0) rfl (by kernel_rfl) (by kernel_rfl) (by kernel_rfl) (fun _ _ _ h => h) (Or.inl ⟨by rfl, fun w' h => by go_simp⟩) hH ?_
            try simp only [Act.put, List.setIfInBounds_toArray, List.set_cons_zero, List.set_cons_succ]
            refine wpAnyH_done (by kernel_rfl) ?_ _
            clear hH hK b9 g9 hN
            go_wp2_with fail
            go_meet
            case rel => exact ⟨_, _, _, _, rfl, rfl, rfl, PX⟩
        · go_simp
          have hN : Blk x2.heap.size 29 (csL ⟨0, false, 0, 0, 0, 0, 0, 0, 0, 0, 0, 0, 0, 0, 0⟩) (x2.alloc (.cells #[.int .i64 0, .bool false, .int .i64 0, .int .i64 0, .int .i64 0, .int .i64 0, .int .i64 0, .int .i64 0, .int .i64 0, .int .i64 0, .int .i64 0, .int .i64 0, .int .i64 0, .int .i64 0, .int .i64 0] 29)) := Blk.new _ _ _
          have hG : w.heap.size < x2.heap.size := hH.p.lt
          have orow := orow.later (below_alloc x2 (.cells #[.int .i64 0, .bool false, .int .i64 0, .int .i64 0, .int .i64 0, .int .i64 0, .int .i64 0, .int .i64 0, .int .i64 0, .int .i64 0, .int .i64 0, .int .i64 0, .int .i64 0, .int .i64 0, .int .i64 0] 29))
          refine hK.out _ _ (hH.later (below_alloc _ _)) (fun hH => ?_)
          refine wpAnyH_ready (rs := [6]) (by kernel_rfl) (by simp) ?_
          refine AllReadyH.cons (o := { dst := some 13, op := Op.call { callee := Callee.value (Operand.func 22), args := #[Operand.const (Value.int IntKind.i64 5), Operand.tmp 12], argTypes := #[3, 3] }, type := 36, pos := "outright.go:24", after := #[{ on := 5, ground := Ground.data }, { on := 2, ground := Ground.chain }], guard := none }) rfl (fun K hK => ?_) AllReadyH.nil
          go_simp
          refine (LT.out _).mono ?_
          rintro e x6 ⟨rfl, bX⟩
          have orow := orow.later bX
          have hN := hN.below bX
          refine hK.out _ _ (hH.later bX) (fun hH => ?_)
          refine wpAnyH_ready (rs := [7]) (by kernel_rfl) (by simp) ?_
          refine AllReadyH.cons (o := { dst := some 14, op := Op.call { callee := Callee.value (Operand.func 11), args := #[Operand.tmp 8, Operand.tmp 9, Operand.tmp 13], argTypes := #[24, 29, 36] }, type := 32, pos := "outright.go:24", after := #[{ on := 1, ground := Ground.data }, { on := 2, ground := Ground.data }, { on := 6, ground := Ground.data }, { on := 6, ground := Ground.chain }], guard := none }) rfl (fun K hK => ?_) AllReadyH.nil
          go_simp
          refine (ST.out _ _ orow.rd).mono ?_
          rintro e x7 ⟨ra, rn, rc, rfl, rrow, bX⟩
          have orow := orow.later bX
          have hN := hN.below bX
          have rrow := rrow.mono hH.bb.size
          refine hK.out _ _ (hH.later bX) (fun hH => ?_)
          refine wpAnyH_take (i := 8) (oi := { dst := some 6, op := Op.move (Operand.tmp 14), type := 32, pos := "outright.go:24", after := #[{ on := 7, ground := Ground.data }], guard := none }) (v := .tuple #[csV c1, .slice ra rn rc, .int .i64 0]) rfl (by kernel_rfl) (by kernel_rfl) (by kernel_rfl) (fun _ _ _ h => h) (Or.inl ⟨by rfl, fun w' h => by go_simp⟩) hH ?_
          try simp only [Act.put, List.setIfInBounds_toArray, List.set_cons_zero, List.set_cons_succ]
          refine wpAnyH_take (i := 9) (oi := { dst := some 15, op := Op.extract (Operand.tmp 6) 0, type := 29, pos := "outright.go:24", after := #[{ on := 8, ground := Ground.data }], guard := none }) (v := csV c1) rfl (by kernel_rfl) (by kernel_rfl) (by kernel_rfl) (fun _ _ _ h => h) (Or.inl ⟨by rfl, fun w' h => by go_simp⟩) hH ?_
          try simp only [Act.put, List.setIfInBounds_toArray, List.set_cons_zero, List.set_cons_succ]
          refine wpAnyH_take (i := 10) (oi := { dst := some 16, op := Op.extract (Operand.tmp 6) 1, type := 22, pos := "outright.go:24", after := #[{ on := 8, ground := Ground.data }, { on := 13, ground := Ground.gcOnly Departure.lateStores }], guard := none }) (v := .slice ra rn rc) rfl (by kernel_rfl) (by kernel_rfl) (by kernel_rfl) (fun _ _ _ h => h) (Or.inl ⟨by rfl, fun w' h => by go_simp⟩) hH ?_
          try simp only [Act.put, List.setIfInBounds_toArray, List.set_cons_zero, List.set_cons_succ]
          refine wpAnyH_take (i := 11) (oi := { dst := some 17, op := Op.extract (Operand.tmp 6) 2, type := 31, pos := "outright.go:24", after := #[{ on := 8, ground := Ground.data }, { on := 14, ground := Ground.gcOnly Departure.lateStores }], guard := none }) (v := .int .i64 0) rfl (by kernel_rfl) (by kernel_rfl) (by kernel_rfl) (fun _ _ _ h => h) (Or.inl ⟨by rfl, fun w' h => by go_simp⟩) hH ?_
          try simp only [Act.put, List.setIfInBounds_toArray, List.set_cons_zero, List.set_cons_succ]
          refine wpAnyH_ready (rs := [13]) (by kernel_rfl) (by simp) ?_
          refine AllReadyH.cons (o := { dst := none, op := Op.store 29 (Operand.tmp 3) (Operand.tmp 15), type := 0, pos := "outright.go:24", after := #[{ on := 12, ground := Ground.data }, { on := 9, ground := Ground.data }, { on := 7, ground := Ground.chain }, { on := 0, ground := Ground.phase }, { on := 1, ground := Ground.phase }, { on := 2, ground := Ground.phase }, { on := 3, ground := Ground.phase }, { on := 4, ground := Ground.phase }, { on := 5, ground := Ground.phase }, { on := 6, ground := Ground.phase }, { on := 7, ground := Ground.phase }, { on := 8, ground := Ground.phase }, { on := 9, ground := Ground.phase }, { on := 10, ground := Ground.textOnly Departure.lateStores }, { on := 11, ground := Ground.textOnly Departure.lateStores }, { on := 12, ground := Ground.phase }], guard := none }) rfl (fun K hK => ?_) AllReadyH.nil
          refine op_putC (zs := csL ⟨0, false, 0, 0, 0, 0, 0, 0, 0, 0, 0, 0, 0, 0, 0⟩) (csL c1) rfl (sizeCsL c1) (csL_one c1) rfl _ _ rfl _ rfl rfl hN ?_
          intro w9 b9 g9
          have PX : Hid (PA w l s _ (0, (c1, 2 :: r)) (.slice ra rn rc) w9) := ⟨hH.grown g9 hG, b9, hG, rowV_blk rrow hN g9 (by decide)⟩
          refine hK.out _ _ PX.out.ps (fun hH => ?_)
          simp only [Act.put]
          refine wpAnyH_take (i := 14) (oi := { dst := some 4, op := Op.assign (Operand.tmp 16), type := 22, pos := "outright.go:24", after := #[{ on := 10, ground := Ground.data }, { on := 13, ground := Ground.chain }, { on := 0, ground := Ground.phase }, { on := 1, ground := Ground.phase }, { on := 2, ground := Ground.phase }, { on := 3, ground := Ground.phase }, { on := 4, ground := Ground.phase }, { on := 5, ground := Ground.phase }, { on := 6, ground := Ground.phase }, { on := 7, ground := Ground.phase }, { on := 8, ground := Ground.phase }, { on := 9, ground := Ground.phase }, { on := 10, ground := Ground.phase }, { on := 11, ground := Ground.textOnly Departure.lateStores }, { on := 12, ground := Ground.phase }, { on := 13, ground := Ground.phase }], guard := none }) (v := .slice ra rn rc) rfl (by kernel_rfl) (by kernel_rfl) (by kernel_rfl) (fun _ _ _ h => h) (Or.inl ⟨by rfl, fun w' h => by go_simp⟩) hH ?_
          try simp only [Act.put, List.setIfInBounds_toArray, List.set_cons_zero, List.set_cons_succ]
          refine wpAnyH_take (i := 15) (oi := { dst := some 5, op := Op.assign (Operand.tmp 17), type := 31, pos := "outright.go:24", after := #[{ on := 11, ground := Ground.data }, { on := 14, ground := Ground.chain }, { on := 0, ground := Ground.phase }, { on := 1, ground := Ground.phase }, { on := 2, ground := Ground.phase }, { on := 3, ground := Ground.phase }, { on := 4, ground := Ground.phase }, { on := 5, ground := Ground.phase }, { on := 6, ground := Ground.phase }, { on := 7, ground := Ground.phase }, { on := 8, ground := Ground.phase }, { on := 9, ground := Ground.phase }, { on := 10, ground := Ground.phase }, { on := 11, ground := Ground.phase }, { on := 12, ground := Ground.phase }, { on := 13, ground := Ground.phase }, { on := 14, ground := Ground.phase }], guard := none }) (v := .int .i64 0) rfl (by kernel_rfl) (by kernel_rfl) (by kernel_rfl) (fun _ _ _ h => h) (Or.inl ⟨by rfl, fun w' h => by go_simp⟩) hH ?_
          try simp only [Act.put, List.setIfInBounds_toArray, List.set_cons_zero, List.set_cons_succ]
          refine wpAnyH_done (by kernel_rfl) ?_ _
          clear hH hK b9 g9 hN
          go_wp2_with fail
          go_meet
          case rel => exact ⟨_, _, _, _, rfl, rfl, rfl, PX⟩
      · go_simp
        have hN : Blk x1.heap.size 29 (csL ⟨0, false, 0, 0, 0, 0, 0, 0, 0, 0, 0, 0, 0, 0, 0⟩) (x1.alloc (.cells #[.int .i64 0, .bool false, .int .i64 0, .int .i64 0, .int .i64 0, .int .i64 0, .int .i64 0, .int .i64 0, .int .i64 0, .int .i64 0, .int .i64 0, .int .i64 0, .int .i64 0, .int .i64 0, .int .i64 0] 29)) := Blk.new _ _ _
        have hG : w.heap.size < x1.heap.size := hH.p.lt
        have orow := orow.later (below_alloc x1 (.cells #[.int .i64 0, .bool false, .int .i64 0, .int .i64 0, .int .i64 0, .int .i64 0, .int .i64 0, .int .i64 0, .int .i64 0, .int .i64 0, .int .i64 0, .int .i64 0, .int .i64 0, .int .i64 0, .int .i64 0] 29))
        refine hK.out _ _ (hH.later (below_alloc _ _)) (fun hH => ?_)
        refine wpAnyH_ready (rs := [2]) (by kernel_rfl) (by simp) ?_
        refine AllReadyH.cons (o := { dst := some 9, op := Op.call { callee := Callee.value (Operand.func 10), args := #[], argTypes := #[] }, type := 29, pos := "outright.go:24", after := #[{ on := 1, ground := Ground.chain }], guard := none }) rfl (fun K hK => ?_) AllReadyH.nil
        go_simp
        refine (FR.out _).mono ?_
        rintro e x8 ⟨rfl, bX⟩
        have orow := orow.later bX
        have hN := hN.below bX
        refine hK.out _ _ (hH.later bX) (fun hH => ?_)
        refine wpAnyH_ready (rs := [6]) (by kernel_rfl) (by simp) ?_
        refine AllReadyH.cons (o := { dst := some 13, op := Op.call { callee := Callee.value (Operand.func 22), args := #[Operand.const (Value.int IntKind.i64 5), Operand.tmp 12], argTypes := #[3, 3] }, type := 36, pos := "outright.go:24", after := #[{ on := 5, ground := Ground.data }, { on := 2, ground := Ground.chain }], guard := none }) rfl (fun K hK => ?_) AllReadyH.nil
        go_simp
        refine (LT.out _).mono ?_
        rintro e x9 ⟨rfl, bX⟩
        have orow := orow.later bX
        have hN := hN.below bX
        refine hK.out _ _ (hH.later bX) (fun hH => ?_)
        refine wpAnyH_ready (rs := [7]) (by kernel_rfl) (by simp) ?_
        refine AllReadyH.cons (o := { dst := some 14, op := Op.call { callee := Callee.value (Operand.func 11), args := #[Operand.tmp 8, Operand.tmp 9, Operand.tmp 13], argTypes := #[24, 29, 36] }, type := 32, pos := "outright.go:24", after := #[{ on := 1, ground := Ground.data }, { on := 2, ground := Ground.data }, { on := 6, ground := Ground.data }, { on := 6, ground := Ground.chain }], guard := none }) rfl (fun K hK => ?_) AllReadyH.nil
        go_simp
        refine (ST.out _ _ orow.rd).mono ?_
        rintro e x10 ⟨ra, rn, rc, rfl, rrow, bX⟩
        have orow := orow.later bX
        have hN := hN.below bX
        have rrow := rrow.mono hH.bb.size
        refine hK.out _ _ (hH.later bX) (fun hH => ?_)
        refine wpAnyH_take (i := 8) (oi := { dst := some 6, op := Op.move (Operand.tmp 14), type := 32, pos := "outright.go:24", after := #[{ on := 7, ground := Ground.data }], guard := none }) (v := .tuple #[csV c1, .slice ra rn rc, .int .i64 0]) rfl (by kernel_rfl) (by kernel_rfl) (by kernel_rfl) (fun _ _ _ h => h) (Or.inl ⟨by rfl, fun w' h => by go_simp⟩) hH ?_
        try simp only [Act.put, List.setIfInBounds_toArray, List.set_cons_zero, List.set_cons_succ]
        refine wpAnyH_take (i := 9) (oi := { dst := some 15, op := Op.extract (Operand.tmp 6) 0, type := 29, pos := "outright.go:24", after := #[{ on := 8, ground := Ground.data }], guard := none }) (v := csV c1) rfl (by kernel_rfl) (by kernel_rfl) (by kernel_rfl) (fun _ _ _ h => h) (Or.inl ⟨by rfl, fun w' h => by go_simp⟩) hH ?_
        try simp only [Act.put, List.setIfInBounds_toArray, List.set_cons_zero, List.set_cons_succ]
        refine wpAnyH_take (i := 10) (oi := { dst := some 16, op := Op.extract (Operand.tmp 6) 1, type := 22, pos := "outright.go:24", after := #[{ on := 8, ground := Ground.data }, { on := 13, ground := Ground.gcOnly Departure.lateStores }], guard := none }) (v := .slice ra rn rc) rfl (by kernel_rfl) (by kernel_rfl) (by kernel_rfl) (fun _ _ _ h => h) (Or.inl ⟨by rfl, fun w' h => by go_simp⟩) hH ?_
        try simp only [Act.put, List.setIfInBounds_toArray, List.set_cons_zero, List.set_cons_succ]
        refine wpAnyH_take (i := 11) (oi := { dst := some 17, op := Op.extract (Operand.tmp 6) 2, type := 31, pos := "outright.go:24", after := #[{ on := 8, ground := Ground.data }, { on := 14, ground := Ground.gcOnly Departure.lateStores }], guard := none }) (v := .int .i64 0) rfl (by kernel_rfl) (by kernel_rfl) (by kernel_rfl) (fun _ _ _ h => h) (Or.inl ⟨by rfl, fun w' h => by go_simp⟩) hH ?_
        try simp only [Act.put, List.setIfInBounds_toArray, List.set_cons_zero, List.set_cons_succ]
        refine wpAnyH_ready (rs := [13]) (by kernel_rfl) (by simp) ?_
        refine AllReadyH.cons (o := { dst := none, op := Op.store 29 (Operand.tmp 3) (Operand.tmp 15), type := 0, pos := "outright.go:24", after := #[{ on := 12, ground := Ground.data }, { on := 9, ground := Ground.data }, { on := 7, ground := Ground.chain }, { on := 0, ground := Ground.phase }, { on := 1, ground := Ground.phase }, { on := 2, ground := Ground.phase }, { on := 3, ground := Ground.phase }, { on := 4, ground := Ground.phase }, { on := 5, ground := Ground.phase }, { on := 6, ground := Ground.phase }, { on := 7, ground := Ground.phase }, { on := 8, ground := Ground.phase }, { on := 9, ground := Ground.phase }, { on := 10, ground := Ground.textOnly Departure.lateStores }, { on := 11, ground := Ground.textOnly Departure.lateStores }, { on := 12, ground := Ground.phase }], guard := none }) rfl (fun K hK => ?_) AllReadyH.nil
        refine op_putC (zs := csL ⟨0, false, 0, 0, 0, 0, 0, 0, 0, 0, 0, 0, 0, 0, 0⟩) (csL c1) rfl (sizeCsL c1) (csL_one c1) rfl _ _ rfl _ rfl rfl hN ?_
        intro w9 b9 g9
        have PX : Hid (PA w l s _ (0, (c1, 2 :: r)) (.slice ra rn rc) w9) := ⟨hH.grown g9 hG, b9, hG, rowV_blk rrow hN g9 (by decide)⟩
        refine hK.out _ _ PX.out.ps (fun hH => ?_)
        simp only [Act.put]
        refine wpAnyH_take (i := 14) (oi := { dst := some 4, op := Op.assign (Operand.tmp 16), type := 22, pos := "outright.go:24", after := #[{ on := 10, ground := Ground.data }, { on := 13, ground := Ground.chain }, { on := 0, ground := Ground.phase }, { on := 1, ground := Ground.phase }, { on := 2, ground := Ground.phase }, { on := 3, ground := Ground.phase }, { on := 4, ground := Ground.phase }, { on := 5, ground := Ground.phase }, { on := 6, ground := Ground.phase }, { on := 7, ground := Ground.phase }, { on := 8, ground := Ground.phase }, { on := 9, ground := Ground.phase }, { on := 10, ground := Ground.phase }, { on := 11, ground := Ground.textOnly Departure.lateStores }, { on := 12, ground := Ground.phase }, { on := 13, ground := Ground.phase }], guard := none }) (v := .slice ra rn rc) rfl (by kernel_rfl) (by kernel_rfl) (by kernel_rfl) (fun _ _ _ h => h) (Or.inl ⟨by rfl, fun w' h => by go_simp⟩) hH ?_
        try simp only [Act.put, List.setIfInBounds_toArray, List.set_cons_zero, List.set_cons_succ]
        refine wpAnyH_take (i := 15) (oi := { dst := some 5, op := Op.assign (Operand.tmp 17), type := 31, pos := "outright.go:24", after := #[{ on := 11, ground := Ground.data }, { on := 14, ground := Ground.chain }, { on := 0, ground := Ground.phase }, { on := 1, ground := Ground.phase }, { on := 2, ground := Ground.phase }, { on := 3, ground := Ground.phase }, { on := 4, ground := Ground.phase }, { on := 5, ground := Ground.phase }, { on := 6, ground := Ground.phase }, { on := 7, ground := Ground.phase }, { on := 8, ground := Ground.phase }, { on := 9, ground := Ground.phase }, { on := 10, ground := Ground.phase }, { on := 11, ground := Ground.phase }, { on := 12, ground := Ground.phase }, { on := 13, ground := Ground.phase }, { on := 14, ground := Ground.phase }], guard := none }) (v := .int .i64 0) rfl (by kernel_rfl) (by kernel_rfl) (by kernel_rfl) (fun _ _ _ h => h) (Or.inl ⟨by rfl, fun w' h => by go_simp⟩) hH ?_
        try simp only [Act.put, List.setIfInBounds_toArray, List.set_cons_zero, List.set_cons_succ]
        refine wpAnyH_done (by kernel_rfl) ?_ _
        clear hH hK b9 g9 hN
        go_wp2_with fail
        go_meet
        case rel => exact ⟨_, _, _, _, rfl, rfl, rfl, PX⟩
    · go_simp
      have hN : Blk w0.drew.heap.size 29 (csL ⟨0, false, 0, 0, 0, 0, 0, 0, 0, 0, 0, 0, 0, 0, 0⟩) (w0.drew.alloc (.cells #[.int .i64 0, .bool false, .int .i64 0, .int .i64 0, .int .i64 0, .int .i64 0, .int .i64 0, .int .i64 0, .int .i64 0, .int .i64 0, .int .i64 0, .int .i64 0, .int .i64 0, .int .i64 0, .int .i64 0] 29)) := Blk.new _ _ _
      have hG : w.heap.size < w0.drew.heap.size := hH.p.lt
      refine hK.out _ _ (hH.later (below_alloc _ _)) (fun hH => ?_)
      refine wpAnyH_ready (rs := [1]) (by kernel_rfl) (by simp) ?_
      refine AllReadyH.cons (o := { dst := some 8, op := Op.call { callee := Callee.value (Operand.func 12), args := #[Operand.tmp 7], argTypes := #[24] }, type := 24, pos := "outright.go:24", after := #[{ on := 0, ground := Ground.data }], guard := none }) rfl (fun K hK => ?_) AllReadyH.nil
      go_simp
      refine (OW.out _ hH.bb).mono ?_
      rintro e x11 ⟨oa, on, oc, rfl, orow, bX⟩
      have hN := hN.below bX
      refine hK.out _ _ (hH.later bX) (fun hH => ?_)
      refine wpAnyH_ready (rs := [2]) (by kernel_rfl) (by simp) ?_
      refine AllReadyH.cons (o := { dst := some 9, op := Op.call { callee := Callee.value (Operand.func 10), args := #[], argTypes := #[] }, type := 29, pos := "outright.go:24", after := #[{ on := 1, ground := Ground.chain }], guard := none }) rfl (fun K hK => ?_) AllReadyH.nil
      go_simp
      refine (FR.out _).mono ?_
      rintro e x12 ⟨rfl, bX⟩
      have hN := hN.below bX
      have orow := orow.later bX
      refine hK.out _ _ (hH.later bX) (fun hH => ?_)
      refine wpAnyH_ready (rs := [6]) (by kernel_rfl) (by simp) ?_
      refine AllReadyH.cons (o := { dst := some 13, op := Op.call { callee := Callee.value (Operand.func 22), args := #[Operand.const (Value.int IntKind.i64 5), Operand.tmp 12], argTypes := #[3, 3] }, type := 36, pos := "outright.go:24", after := #[{ on := 5, ground := Ground.data }, { on := 2, ground := Ground.chain }], guard := none }) rfl (fun K hK => ?_) AllReadyH.nil
      go_simp
      refine (LT.out _).mono ?_
      rintro e x13 ⟨rfl, bX⟩
      have hN := hN.below bX
      have orow := orow.later bX
      refine hK.out _ _ (hH.later bX) (fun hH => ?_)
      refine wpAnyH_ready (rs := [7]) (by kernel_rfl) (by simp) ?_
      refine AllReadyH.cons (o := { dst := some 14, op := Op.call { callee := Callee.value (Operand.func 11), args := #[Operand.tmp 8, Operand.tmp 9, Operand.tmp 13], argTypes := #[24, 29, 36] }, type := 32, pos := "outright.go:24", after := #[{ on := 1, ground := Ground.data }, { on := 2, ground := Ground.data }, { on := 6, ground := Ground.data }, { on := 6, ground := Ground.chain }], guard := none }) rfl (fun K hK => ?_) AllReadyH.nil
      go_simp
      refine (ST.out _ _ orow.rd).mono ?_
      rintro e x14 ⟨ra, rn, rc, rfl, rrow, bX⟩
      have hN := hN.below bX
      have orow := orow.later bX
      have rrow := rrow.mono hH.bb.size
      refine hK.out _ _ (hH.later bX) (fun hH => ?_)
      refine wpAnyH_take (i := 8) (oi := { dst := some 6, op := Op.move (Operand.tmp 14), type := 32, pos := "outright.go:24", after := #[{ on := 7, ground := Ground.data }], guard := none }) (v := .tuple #[csV c1, .slice ra rn rc, .int .i64 0]) rfl (by kernel_rfl) (by kernel_rfl) (by kernel_rfl) (fun _ _ _ h => h) (Or.inl ⟨by rfl, fun w' h => by go_simp⟩) hH ?_
      try simp only [Act.put, List.setIfInBounds_toArray, List.set_cons_zero, List.set_cons_succ]
      refine wpAnyH_take (i := 9) (oi := { dst := some 15, op := Op.extract (Operand.tmp 6) 0, type := 29, pos := "outright.go:24", after := #[{ on := 8, ground := Ground.data }], guard := none }) (v := csV c1) rfl (by kernel_rfl) (by kernel_rfl) (by kernel_rfl) (fun _ _ _ h => h) (Or.inl ⟨by rfl, fun w' h => by go_simp⟩) hH ?_
      try simp only [Act.put, List.setIfInBounds_toArray, List.set_cons_zero, List.set_cons_succ]
      refine wpAnyH_take (i := 10) (oi := { dst := some 16, op := Op.extract (Operand.tmp 6) 1, type := 22, pos := "outright.go:24", after := #[{ on := 8, ground := Ground.data }, { on := 13, ground := Ground.gcOnly Departure.lateStores }], guard := none }) (v := .slice ra rn rc) rfl (by kernel_rfl) (by kernel_rfl) (by kernel_rfl) (fun _ _ _ h => h) (Or.inl ⟨by rfl, fun w' h => by go_simp⟩) hH ?_
      try simp only [Act.put, List.setIfInBounds_toArray, List.set_cons_zero, List.set_cons_succ]
      refine wpAnyH_take (i := 11) (oi := { dst := some 17, op := Op.extract (Operand.tmp 6) 2, type := 31, pos := "outright.go:24", after := #[{ on := 8, ground := Ground.data }, { on := 14, ground := Ground.gcOnly Departure.lateStores }], guard := none }) (v := .int .i64 0) rfl (by kernel_rfl) (by kernel_rfl) (by kernel_rfl) (fun _ _ _ h => h) (Or.inl ⟨by rfl, fun w' h => by go_simp⟩) hH ?_
      try simp only [Act.put, List.setIfInBounds_toArray, List.set_cons_zero, List.set_cons_succ]
      refine wpAnyH_ready (rs := [13]) (by kernel_rfl) (by simp) ?_
      refine AllReadyH.cons (o := { dst := none, op := Op.store 29 (Operand.tmp 3) (Operand.tmp 15), type := 0, pos := "outright.go:24", after := #[{ on := 12, ground := Ground.data }, { on := 9, ground := Ground.data }, { on := 7, ground := Ground.chain }, { on := 0, ground := Ground.phase }, { on := 1, ground := Ground.phase }, { on := 2, ground := Ground.phase }, { on := 3, ground := Ground.phase }, { on := 4, ground := Ground.phase }, { on := 5, ground := Ground.phase }, { on := 6, ground := Ground.phase }, { on := 7, ground := Ground.phase }, { on := 8, ground := Ground.phase }, { on := 9, ground := Ground.phase }, { on := 10, ground := Ground.textOnly Departure.lateStores }, { on := 11, ground := Ground.textOnly Departure.lateStores }, { on := 12, ground := Ground.phase }], guard := none }) rfl (fun K hK => ?_) AllReadyH.nil
      refine op_putC (zs := csL ⟨0, false, 0, 0, 0, 0, 0, 0, 0, 0, 0, 0, 0, 0, 0⟩) (csL c1) rfl (sizeCsL c1) (csL_one c1) rfl _ _ rfl _ rfl rfl hN ?_
      intro w9 b9 g9
      have PX : Hid (PA w l s _ (0, (c1, 2 :: r)) (.slice ra rn rc) w9) := ⟨hH.grown g9 hG, b9, hG, rowV_blk rrow hN g9 (by decide)⟩
      refine hK.out _ _ PX.out.ps (fun hH => ?_)
      simp only [Act.put]
      refine wpAnyH_take (i := 14) (oi := { dst := some 4, op := Op.assign (Operand.tmp 16), type := 22, pos := "outright.go:24", after := #[{ on := 10, ground := Ground.data }, { on := 13, ground := Ground.chain }, { on := 0, ground := Ground.phase }, { on := 1, ground := Ground.phase }, { on := 2, ground := Ground.phase }, { on := 3, ground := Ground.phase }, { on := 4, ground := Ground.phase }, { on := 5, ground := Ground.phase }, { on := 6, ground := Ground.phase }, { on := 7, ground := Ground.phase }, { on := 8, ground := Ground.phase }, { on := 9, ground := Ground.phase }, { on := 10, ground := Ground.phase }, { on := 11, ground := Ground.textOnly Departure.lateStores }, { on := 12, ground := Ground.phase }, { on := 13, ground := Ground.phase }], guard := none }) (v := .slice ra rn rc) rfl (by kernel_rfl) (by kernel_rfl) (by kernel_rfl) (fun _ _ _ h => h) (Or.inl ⟨by rfl, fun w' h => by go_simp⟩) hH ?_
      try simp only [Act.put, List.setIfInBounds_toArray, List.set_cons_zero, List.set_cons_succ]
      refine wpAnyH_take (i := 15) (oi := { dst := some 5, op := Op.assign (Operand.tmp 17), type := 31, pos := "outright.go:24", after := #[{ on := 11, ground := Ground.data }, { on := 14, ground := Ground.chain }, { on := 0, ground := Ground.phase }, { on := 1, ground := Ground.phase }, { on := 2, ground := Ground.phase }, { on := 3, ground := Ground.phase }, { on := 4, ground := Ground.phase }, { on := 5, ground := Ground.phase }, { on := 6, ground := Ground.phase }, { on := 7, ground := Ground.phase }, { on := 8, ground := Ground.phase }, { on := 9, ground := Ground.phase }, { on := 10, ground := Ground.phase }, { on := 11, ground := Ground.phase }, { on := 12, ground := Ground.phase }, { on := 13, ground := Ground.phase }, { on := 14, ground := Ground.phase }], guard := none }) (v := .int .i64 0) rfl (by kernel_rfl) (by kernel_rfl) (by kernel_rfl) (fun _ _ _ h => h) (Or.inl ⟨by rfl, fun w' h => by go_simp⟩) hH ?_
      try simp only [Act.put, List.setIfInBounds_toArray, List.set_cons_zero, List.set_cons_succ]
      refine wpAnyH_done (by kernel_rfl) ?_ _
      clear hH hK b9 g9 hN
      go_wp2_with fail
      go_meet
      case rel => exact ⟨_, _, _, _, rfl, rfl, rfl, PX⟩
  case rest =>
    obtain ⟨G, ra, rn, rc, rfl, rfl, rfl, SX⟩ := hcut
    have rX := SX.out.r
    obtain ⟨g, rfl, hn, -, hcell⟩ := slice_some rX (by simp [bkL])
    have k0 : wc.cell? ⟨g, 0, none⟩ = some (.int .i64 2) := hcell 0 _ rfl
    have k2 : wc.cell? ⟨G, 2, none⟩ = some (.int .i64 1) := by rw [← cy]; exact SX.out.d.cell 2 _ rfl
    have k3 : wc.cell? ⟨G, 3, none⟩ = some (.int .i64 5) := by rw [← si]; exact SX.out.d.cell 3 _ rfl
    have k4 : wc.cell? ⟨G, 4, none⟩ = some (.int .i64 (wrap64 (5 + CO))) := by rw [← dl]; exact SX.out.d.cell 4 _ rfl
    have p3 : wc.cell? ⟨w.heap.size, 3, none⟩ = some (.int .i64 CO) := P3.out _ SX.out.ps
    have n0 : ((rn : Int) == 0) = false := by
      have e1 : rn = r.length + 1 := by rw [hn]; simp [bkL]
      rw [e1]; simp; omega
    have n1 : (0 : Int) < (rn : Int) := by
      have e1 : rn = r.length + 1 := by rw [hn]; simp [bkL]
      omega
    have n2 : 0 < rn := by omega
    clear hcell hn hr3 cy si dl rX S0
    go_wp2_with (refine step_load rfl 29 _ rfl G 0 rfl (csL c1) _ (Blk.all SX.out.d) Try.underlying29 rfl (sizeCsL c1) ?_)
    refine (OP.out c1 _).mono ?_
    rw [op]
    rintro e w5 ⟨rfl, b5⟩
    have B5 : Hid (Below w.heap.size w w5) := below_trans SX.out.ps.bb b5
    clear b5
    go_wp2_with fail
    refine (FR.out _).mono ?_
    rintro e w6 ⟨rfl, b6⟩
    have B6 : Hid (Below w.heap.size w w6) := below_trans B5.out b6
    clear b6
    go_wp2_with fail
    refine (OP.out fresh _).mono ?_
    rw [OF.out]
    rintro e w7 ⟨rfl, b7⟩
    have B7 : Hid (Below w.heap.size w w7) := below_trans B6.out b7
    clear b7
    go_wp2_with fail
    go_ret
    exact ⟨rfl, B7.out⟩
end Go.Proofs.Ytmbbigkpeefjjab
