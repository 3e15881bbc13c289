/-
  Ours: (*draft).open.
-/
import Derived.Test.YtgdmkcbbomfmdaaGreatDoorLoBk
import Derived.Test.YtgdmkcbbomfmdaaGreatDoorLoTm
import Derived.Deep.CutRange
import Derived.Deep.Cut
import Derived.Deep.RegionWith
import Derived.Deep.RegionHeld
namespace Go.Proofs.YtgdmkcbbomfmdaaGreatDoor
open Go.RowKit LedM CoM LoM
set_option linter.unusedSimpArgs false
theorem opFresh_at (w : World) : Calls Tryz.prog 30 #[] w fun e w' => e = .returned (.agg (csL fresh).toArray) ∧ Below w.heap.size w w' := by
  go_enter Tryz.func30, Tryz.ntmps30
  go_wp2_with fail
  refine ret_blk rfl rfl w.heap.size 33 (csL fresh) _ rfl (Blk.new _ _ _) Tryz.underlying33 rfl (by show _ = some 15; kernel_rfl) ?_
  exact ⟨rfl, below_alloc _ _⟩
theorem op_putM {ops : Array Oper} {op : Oper} {a : Act} {wr : World} {K : Act → World → Prop} {Q : Exit → Act → World → Prop} {E : Prop} {T TB : TypeId} {zs : List Value} (vs : List Value) (G o : Nat) (hf : o + vs.length ≤ zs.length) (hi : (Tryz.prog.info? T).map (·.size) = some vs.length) (h1 : ∀ v ∈ vs, v.oneCell' = true) (hgd : op.guard = Option.none) (x y : Operand) (ho : op.op = .store T x y)
    (hx : a.eval x = .pointer (some ⟨G, o, Option.none⟩)) (hy : a.eval y = .agg vs.toArray) (hb : Blk G TB zs wr)
    (h : ∀ w', Blk G TB (zs.take o ++ vs ++ zs.drop (o + vs.length)) w' → wr.grownBy w' (some G) → K (a.put op.dst undef) w') : if Region.wanted op (yielded ops a.tmps) = true then Oper.wp Tryz.prog op a wr K Q else E := by
  have hwd : Region.wanted op (yielded ops a.tmps) = true := by simp [Region.wanted, hgd]
  rw [if_pos hwd]
  unfold Oper.wp execOp
  simp only [ho, hx, hy, Instr.storeAt, Instr.sureAddr, Sem.run_bind, Sem.run_pure, Result.andThen_ok, run_storeVar_blk wr G o TB T zs vs hb hf hi h1]
  exact h _ (setRow_heap wr G _ (zs.take o ++ vs ++ zs.drop (o + vs.length)).toArray TB _ hb) (setRow_grown wr G (zs.take o ++ vs ++ zs.drop (o + vs.length)).toArray)
theorem dr_put {X : List Value} (hX : X.length = 18) (L L' : Lo) (pa : List Int) (nt : Value) : (drL X L pa nt).take 18 ++ lnL L' ++ (drL X L pa nt).drop (18 + (lnL L').length) = drL X L' pa nt := by
  rw [dr_app, dr_app, show 18 + (lnL L').length = X.length + 46 from by rw [hX]; rfl, List.drop_length_add_append, show 18 = X.length + 0 from by rw [hX], List.take_length_add_append, List.take_zero, List.append_nil, List.append_assoc]
  rfl
theorem yieldsIf_build5 {P : Program} {ops : Array Oper} {S : World → Prop} {op : Oper} {a : Act} (hw : Region.wanted op (yielded ops a.tmps) = true) (ty : TypeId) (i j k l m : Nat) (x1 x2 x3 x4 x5 : Operand) (ho : op.op = .build ty #[(i, x1), (j, x2), (k, x3), (l, x4), (m, x5)]) (u1 u2 u3 u4 u5 v : Value) (h1 : a.eval x1 = u1) (h2 : a.eval x2 = u2) (h3 : a.eval x3 = u3) (h4 : a.eval x4 = u4) (h5 : a.eval x5 = u5)
    (hr : ∀ w, (Instr.build ty #[(i, u1), (j, u2), (k, u3), (l, u4), (m, u5)]).run P w = .ok v w) : YieldsIf P ops S op v a := .inl ⟨hw, fun w _ => by
  unfold execOp
  simp only [ho, h1, h2, h3, h4, h5, List.map_toArray, List.map_cons, List.map_nil, Sem.run_bind, Sem.run_pure, Result.andThen_ok, hr]⟩
theorem built_lit (id k P r n s u : Int) (a : Option Addr) (vn vc : Nat) : Tryz.prog.built 37 [(0, .int .i64 id), (1, .agg ([.int .i64 k, .int .i64 P, .int .i64 r, .int .i64 n, .int .i64 s, .int .i64 u] : List Value).toArray), (2, .slice a vn vc), (4, .agg (csL fresh).toArray), (5, .int .i64 s)] = some (lnL (newL id [k, P, r, n, s, u] (.slice a vn vc) fresh s)).toArray := by kernel_rfl
theorem build_lit (id k P r n s u : Int) (a : Option Addr) (vn vc : Nat) (w : World) : (Instr.build 37 #[(0, .int .i64 id), (1, .agg ([.int .i64 k, .int .i64 P, .int .i64 r, .int .i64 n, .int .i64 s, .int .i64 u] : List Value).toArray), (2, .slice a vn vc), (4, .agg (csL fresh).toArray), (5, .int .i64 s)]).run Tryz.prog w = .ok (.agg (lnL (newL id [k, P, r, n, s, u] (.slice a vn vc) fresh s)).toArray) w := run_build w _ _ _ (built_lit id k P r n s u a vn vc)
theorem grown_b {w w1 : World} {G : Nat} (h : Below w.heap.size w w1) : w.grownBy w1 (some G) := ⟨h.os, h.tape, h.output, h.size, fun k hk _ => h.block k hk⟩
def opK (i t o : Bool) : Int := if i then (if t then (if o then 0 else 141) else 140) else 2
set_option maxRecDepth 20000 in
set_option maxHeartbeats 1000000 in
/-- open, whatever planOf answers: o tells whether there is a plan, RI what is known of it. -/
theorem open_any {X : List Value} (hX : X.length = 18) (DB : Nat) (L0 : Lo) (pa : List Int) (nt : Value) (id k P r n s u : Int) (o : Bool) (RI : World → Value → Prop) (w : World) (hP : i64 P) (hpo : tmOk k P r n s u = true → postE [0, 0, 0, 0, 0, 0, 0, 0, 0, 0, 0, 0] (nzE [⟨1, 6, P⟩]) = 0) (hG : ¬ DB = 0) (hT : TabD w) (hD : Blk DB 73 (drL X L0 pa nt) w)
    (hR : Hid (∀ w1 w2 v, w.grownBy w1 (some DB) → RI w1 v → (Below w1.heap.size w1 w2 ∨ w1.grownBy w2 (some DB)) → RI w2 v))
    (PO : Hid (∀ w', Below w.heap.size w w' → Calls Tryz.prog 29 #[.pointer (some ⟨DB, 0, none⟩), .agg #[.int .i64 k, .int .i64 P, .int .i64 r, .int .i64 n, .int .i64 s, .int .i64 u]] w' fun e w2 => Below w'.heap.size w' w2 ∧
      ((∃ vo vn vc, o = true ∧ e = .returned (.slice vo vn vc) ∧ RI w2 (.slice vo vn vc)) ∨ (o = false ∧ e = gaveUp 141)))) :
    Calls Tryz.prog 11 #[.pointer (some ⟨DB, 0, none⟩), .int .i64 id, .agg #[.int .i64 k, .int .i64 P, .int .i64 r, .int .i64 n, .int .i64 s, .int .i64 u]] w fun e w' =>
      (opK (decide (1 ≤ id) && decide (id ≤ 999999)) (tmOk k P r n s u) o = 0 ∧ ∃ vo vn vc, e = .returned (.tuple #[]) ∧ RI w' (.slice vo vn vc) ∧
        Blk DB 73 (drL X { newL id [k, P, r, n, s, u] (.slice vo vn vc) fresh s with bk := postB [0, 0, 0, 0, 0, 0, 0, 0, 0, 0, 0, 0] (nzE [⟨1, 6, P⟩]) } pa nt) w' ∧ w.grownBy w' (some DB)) ∨
      (∃ K, opK (decide (1 ≤ id) && decide (id ≤ 999999)) (tmOk k P r n s u) o = K ∧ ¬ K = 0 ∧ e = gaveUp K ∧ Below w.heap.size w w') := by
  have W0 : Hid (∀ w, Calls Tryz.prog 27 #[.int .i64 id, .int .i64 1, .int .i64 999999] w fun e w' => e = .returned (.bool (decide (1 ≤ id) && decide (id ≤ 999999))) ∧ w' = w) := fun w => within_at _ _ _ w
  have T0 : Hid (∀ w, Calls Tryz.prog 28 #[.agg #[.int .i64 k, .int .i64 P, .int .i64 r, .int .i64 n, .int .i64 s, .int .i64 u]] w fun e w' => e = .returned (.bool (tmOk k P r n s u)) ∧ Below w.heap.size w w') := fun w => termsMay_at k P r n s u w
  have RN : Hid (∀ j w', Calls Tryz.prog 26 #[.bool false, .int .i64 j] w' fun e w2 => e = .returned (.tuple #[]) ∧ w2 = w') := fun j w' => refuse_no j w'
  have RY : Hid (∀ j w', Calls Tryz.prog 26 #[.bool true, .int .i64 j] w' fun e w2 => e = gaveUp j ∧ w2 = w') := fun j w' => refuse_yes j w'
  have FR : Hid (∀ w', Calls Tryz.prog 30 #[] w' fun e w2 => e = .returned (.agg (csL fresh).toArray) ∧ Below w'.heap.size w' w2) := opFresh_at
  have HDB : Hid (DB < w.heap.size) := hD.lt
  have HD : Hid (∀ w', Below w.heap.size w w' → Blk DB 73 (drL X L0 pa nt) w') := fun w' b => hD.below b
  have HT : Hid (∀ w', Below w.heap.size w w' → TabD w') := fun w' b => hT.later b
  clear hD hT
  have HPO : Hid ((tmOk k P r n s u = true → postE [0, 0, 0, 0, 0, 0, 0, 0, 0, 0, 0, 0] (nzE [⟨1, 6, P⟩]) = 0) ∧ i64 P ∧ ¬ DB = 0) := ⟨hpo, hP, hG⟩
  clear hpo hP hG
  generalize tmOk k P r n s u = tb at *
  generalize (decide (1 ≤ id) && decide (id ≤ 999999)) = ib at *
  have S1 : Hid (KD w [(w.heap.size, 26, [.int .i64 k, .int .i64 P, .int .i64 r, .int .i64 n, .int .i64 s, .int .i64 u])] (w.alloc (.cells #[.int .i64 k, .int .i64 P, .int .i64 r, .int .i64 n, .int .i64 s, .int .i64 u] 26))) := KD.one w _ _
  have TB := S1.out.at 0 rfl
  have c0 := TB.cell 0 _ rfl
  have c1 := TB.cell 1 _ rfl
  have c2 := TB.cell 2 _ rfl
  have c3 := TB.cell 3 _ rfl
  have c4 := TB.cell 4 _ rfl
  have c5 := TB.cell 5 _ rfl
  clear TB
  go_enter Tryz.func11, Tryz.ntmps11
  go_upto_region 1 with fail
  generalize w.alloc (.cells #[.int .i64 k, .int .i64 P, .int .i64 r, .int .i64 n, .int .i64 s, .int .i64 u] 26) = w1 at *
  go_wp2_with fail
  refine (W0.out _).mono ?_
  rintro e w2 ⟨rfl, hw⟩
  subst hw
  cases ib
  · go_wp2_with fail
    refine (RY.out _ _).mono ?_
    rintro e w3 ⟨rfl, hw⟩
    subst hw
    go_wp2_with fail
    exact ⟨rfl, .inr ⟨2, rfl, by decide, rfl, S1.out.bb⟩⟩
  · go_wp2_with fail
    refine (RN.out _ _).mono ?_
    rintro e w3 ⟨rfl, hw⟩
    subst hw
    go_wp2_with fail
    refine (T0.out _).mono ?_
    rintro e w3 ⟨rfl, bT⟩
    have S3 : Hid (KD w [(w.heap.size, 26, [.int .i64 k, .int .i64 P, .int .i64 r, .int .i64 n, .int .i64 s, .int .i64 u])] w3) := S1.out.call bT
    clear bT S1 c0 c1 c2 c3 c4 c5
    cases tb
    · go_wp2_with fail
      refine (RY.out _ _).mono ?_
      rintro e w4 ⟨rfl, hw⟩
      subst hw
      go_wp2_with fail
      exact ⟨rfl, .inr ⟨140, rfl, by decide, rfl, S3.out.bb⟩⟩
    · go_wp2_with fail
      refine (RN.out _ _).mono ?_
      rintro e w4 ⟨rfl, hw⟩
      subst hw
      go_upto_region 3 with fail
      have TB := S3.out.at 0 rfl
      have c0 := TB.cell 0 _ rfl
      have c1 := TB.cell 1 _ rfl
      have c2 := TB.cell 2 _ rfl
      have c3 := TB.cell 3 _ rfl
      have c4 := TB.cell 4 _ rfl
      have c5 := TB.cell 5 _ rfl
      clear TB
      cases o
      · have PN : Hid (∀ w', Below w.heap.size w w' → Calls Tryz.prog 29 #[.pointer (some ⟨DB, 0, none⟩), .agg #[.int .i64 k, .int .i64 P, .int .i64 r, .int .i64 n, .int .i64 s, .int .i64 u]] w' fun e w2 => e = gaveUp 141 ∧ Below w'.heap.size w' w2) := fun w' b => (PO.out w' b).mono fun e w2 => by
          rintro ⟨B, (⟨_, _, _, hn, _⟩ | ⟨_, rfl⟩)⟩
          · cases hn
          · exact ⟨rfl, B⟩
        clear PO c0 c1 c2 c3 c4 c5
        have hu := Tryz.underlying26
        have hi : (Tryz.prog.info? 26).map (·.size) = some ([.int .i64 k, .int .i64 P, .int .i64 r, .int .i64 n, .int .i64 s, .int .i64 u] : List Value).length := by show _ = some 6; kernel_rfl
        refine wp_region_held_drew (S := fun w' => Blk w.heap.size 26 [.int .i64 k, .int .i64 P, .int .i64 r, .int .i64 n, .int .i64 s, .int .i64 u] w') (by kernel_rfl) ((S3.out.drew).at 0 rfl) (fun hH => ?_)
        refine wpAnyH_take (i := 0) (v := .pointer (some ⟨DB, 0, none⟩)) rfl (by kernel_rfl) (by kernel_rfl) (by kernel_rfl) (fun _ _ _ h => h) (Or.inl ⟨by rfl, fun w' h => by go_simp⟩) hH ?_
        try simp only [Act.put, List.setIfInBounds_toArray, List.set_cons_zero, List.set_cons_succ]
        refine wpAnyH_take (i := 1) (v := .int .i64 id) rfl (by kernel_rfl) (by kernel_rfl) (by kernel_rfl) (fun _ _ _ h => h) (Or.inl ⟨by rfl, fun w' h => by go_simp⟩) hH ?_
        try simp only [Act.put, List.setIfInBounds_toArray, List.set_cons_zero, List.set_cons_succ]
        refine wpAnyH_take (i := 2) (v := .agg ([.int .i64 k, .int .i64 P, .int .i64 r, .int .i64 n, .int .i64 s, .int .i64 u] : List Value).toArray) rfl (by kernel_rfl) (by kernel_rfl) (by kernel_rfl) (fun _ _ _ h => h) (yieldsIf_load_mid (by rfl) _ _ rfl w.heap.size 0 rfl [.int .i64 k, .int .i64 P, .int .i64 r, .int .i64 n, .int .i64 s, .int .i64 u] _ (fun w' h => Blk.all h) hu rfl hi) hH ?_
        try simp only [Act.put, List.setIfInBounds_toArray, List.set_cons_zero, List.set_cons_succ]
        refine wpAnyH_take (i := 3) (v := .pointer (some ⟨DB, 0, none⟩)) rfl (by kernel_rfl) (by kernel_rfl) (by kernel_rfl) (fun _ _ _ h => h) (Or.inl ⟨by rfl, fun w' h => by go_simp⟩) hH ?_
        try simp only [Act.put, List.setIfInBounds_toArray, List.set_cons_zero, List.set_cons_succ]
        refine wpAnyH_take (i := 4) (v := .agg ([.int .i64 k, .int .i64 P, .int .i64 r, .int .i64 n, .int .i64 s, .int .i64 u] : List Value).toArray) rfl (by kernel_rfl) (by kernel_rfl) (by kernel_rfl) (fun _ _ _ h => h) (yieldsIf_load_mid (by rfl) _ _ rfl w.heap.size 0 rfl [.int .i64 k, .int .i64 P, .int .i64 r, .int .i64 n, .int .i64 s, .int .i64 u] _ (fun w' h => Blk.all h) hu rfl hi) hH ?_
        try simp only [Act.put, List.setIfInBounds_toArray, List.set_cons_zero, List.set_cons_succ]
        refine wpAnyH_take (i := 7) (v := .pointer (some ⟨w.heap.size, 4, none⟩)) rfl (by kernel_rfl) (by kernel_rfl) (by kernel_rfl) (fun _ _ _ h => h) (Or.inl ⟨by rfl, fun w' h => by go_simp⟩) hH ?_
        try simp only [Act.put, List.setIfInBounds_toArray, List.set_cons_zero, List.set_cons_succ]
        refine wpAnyH_take (i := 8) (v := .int .i64 s) rfl (by kernel_rfl) (by kernel_rfl) (by kernel_rfl) (fun _ _ _ h => h) (Or.inl ⟨by rfl, fun w' h => by have c4 := Blk.cell h 4 _ rfl; go_simp⟩) hH ?_
        try simp only [Act.put, List.setIfInBounds_toArray, List.set_cons_zero, List.set_cons_succ]
        refine wpAnyH_ready (rs := [5]) (by kernel_rfl) (by simp) ?_
        refine AllReadyH.cons rfl (fun K hK => ?_) AllReadyH.nil
        go_simp
        refine (PN.out _ S3.out.drew.bb).mono ?_
        rintro e w5 ⟨rfl, B5⟩
        exact ⟨rfl, .inr ⟨141, rfl, by decide, rfl, (S3.out.drew.call B5).bb⟩⟩
      · have PY : Hid (∀ w', Below w.heap.size w w' → Calls Tryz.prog 29 #[.pointer (some ⟨DB, 0, none⟩), .agg #[.int .i64 k, .int .i64 P, .int .i64 r, .int .i64 n, .int .i64 s, .int .i64 u]] w' fun e w2 => (∃ vo vn vc, e = .returned (.slice vo vn vc) ∧ RI w2 (.slice vo vn vc)) ∧ Below w'.heap.size w' w2) := fun w' b => (PO.out w' b).mono fun e w2 => by
          rintro ⟨B, (⟨vo, vn, vc, _, h1, h2⟩ | ⟨hn, _⟩)⟩
          · exact ⟨⟨vo, vn, vc, h1, h2⟩, B⟩
          · cases hn
        clear PO c0 c1 c2 c3 c4 c5
        have hu := Tryz.underlying26
        have hi : (Tryz.prog.info? 26).map (·.size) = some ([.int .i64 k, .int .i64 P, .int .i64 r, .int .i64 n, .int .i64 s, .int .i64 u] : List Value).length := by show _ = some 6; kernel_rfl
        refine wp_region_held_drew (S := fun w' => Blk w.heap.size 26 [.int .i64 k, .int .i64 P, .int .i64 r, .int .i64 n, .int .i64 s, .int .i64 u] w') (by kernel_rfl) ((S3.out.drew).at 0 rfl) (fun hH => ?_)
        refine wpAnyH_take (i := 0) (v := .pointer (some ⟨DB, 0, none⟩)) rfl (by kernel_rfl) (by kernel_rfl) (by kernel_rfl) (fun _ _ _ h => h) (Or.inl ⟨by rfl, fun w' h => by go_simp⟩) hH ?_
        try simp only [Act.put, List.setIfInBounds_toArray, List.set_cons_zero, List.set_cons_succ]
        refine wpAnyH_take (i := 1) (v := .int .i64 id) rfl (by kernel_rfl) (by kernel_rfl) (by kernel_rfl) (fun _ _ _ h => h) (Or.inl ⟨by rfl, fun w' h => by go_simp⟩) hH ?_
        try simp only [Act.put, List.setIfInBounds_toArray, List.set_cons_zero, List.set_cons_succ]
        refine wpAnyH_take (i := 2) (v := .agg ([.int .i64 k, .int .i64 P, .int .i64 r, .int .i64 n, .int .i64 s, .int .i64 u] : List Value).toArray) rfl (by kernel_rfl) (by kernel_rfl) (by kernel_rfl) (fun _ _ _ h => h) (yieldsIf_load_mid (by rfl) _ _ rfl w.heap.size 0 rfl [.int .i64 k, .int .i64 P, .int .i64 r, .int .i64 n, .int .i64 s, .int .i64 u] _ (fun w' h => Blk.all h) hu rfl hi) hH ?_
        try simp only [Act.put, List.setIfInBounds_toArray, List.set_cons_zero, List.set_cons_succ]
        refine wpAnyH_take (i := 3) (v := .pointer (some ⟨DB, 0, none⟩)) rfl (by kernel_rfl) (by kernel_rfl) (by kernel_rfl) (fun _ _ _ h => h) (Or.inl ⟨by rfl, fun w' h => by go_simp⟩) hH ?_
        try simp only [Act.put, List.setIfInBounds_toArray, List.set_cons_zero, List.set_cons_succ]
        refine wpAnyH_take (i := 4) (v := .agg ([.int .i64 k, .int .i64 P, .int .i64 r, .int .i64 n, .int .i64 s, .int .i64 u] : List Value).toArray) rfl (by kernel_rfl) (by kernel_rfl) (by kernel_rfl) (fun _ _ _ h => h) (yieldsIf_load_mid (by rfl) _ _ rfl w.heap.size 0 rfl [.int .i64 k, .int .i64 P, .int .i64 r, .int .i64 n, .int .i64 s, .int .i64 u] _ (fun w' h => Blk.all h) hu rfl hi) hH ?_
        try simp only [Act.put, List.setIfInBounds_toArray, List.set_cons_zero, List.set_cons_succ]
        refine wpAnyH_take (i := 7) (v := .pointer (some ⟨w.heap.size, 4, none⟩)) rfl (by kernel_rfl) (by kernel_rfl) (by kernel_rfl) (fun _ _ _ h => h) (Or.inl ⟨by rfl, fun w' h => by go_simp⟩) hH ?_
        try simp only [Act.put, List.setIfInBounds_toArray, List.set_cons_zero, List.set_cons_succ]
        refine wpAnyH_take (i := 8) (v := .int .i64 s) rfl (by kernel_rfl) (by kernel_rfl) (by kernel_rfl) (fun _ _ _ h => h) (Or.inl ⟨by rfl, fun w' h => by have c4 := Blk.cell h 4 _ rfl; go_simp⟩) hH ?_
        try simp only [Act.put, List.setIfInBounds_toArray, List.set_cons_zero, List.set_cons_succ]
        refine wpAnyH_ready (rs := [5]) (by kernel_rfl) (by simp) ?_
        refine AllReadyH.cons rfl (fun K hK => ?_) AllReadyH.nil
        go_simp
        refine (PY.out _ S3.out.drew.bb).mono ?_
        rintro e w5 ⟨⟨vo, vn, vc, rfl, ri⟩, B5⟩
        have S5 := S3.out.drew.call B5
        refine hK.out _ _ (S5.at 0 rfl) (fun hH => ?_)
        try simp only [Act.put, List.setIfInBounds_toArray, List.set_cons_zero, List.set_cons_succ]
        refine wpAnyH_ready (rs := [6]) (by kernel_rfl) (by simp) ?_
        refine AllReadyH.cons rfl (fun K hK => ?_) AllReadyH.nil
        go_simp
        refine (FR.out _).mono ?_
        rintro e w6 ⟨rfl, B6⟩
        have S6 := S5.call B6
        have BL : Hid (∀ w, (Instr.build 37 #[(0, .int .i64 id), (1, .agg ([.int .i64 k, .int .i64 P, .int .i64 r, .int .i64 n, .int .i64 s, .int .i64 u] : List Value).toArray), (2, .slice vo vn vc), (4, .agg (csL fresh).toArray), (5, .int .i64 s)]).run Tryz.prog w = .ok (.agg (lnL (newL id [k, P, r, n, s, u] (.slice vo vn vc) fresh s)).toArray) w) := fun w => build_lit id k P r n s u vo vn vc w
        have ri6 := hR.out _ _ _ (grown_b S5.bb) ri (.inl B6)
        refine hK.out _ _ (S6.at 0 rfl) (fun hH => ?_)
        try simp only [Act.put, List.setIfInBounds_toArray, List.set_cons_zero, List.set_cons_succ]
        refine wpAnyH_take (i := 9) (v := .agg (lnL (newL id [k, P, r, n, s, u] (.slice vo vn vc) fresh s)).toArray) rfl (by kernel_rfl) (by kernel_rfl) (by kernel_rfl) (fun _ _ _ h => h) (yieldsIf_build5 (by rfl) 37 0 1 2 4 5 (.tmp 15) (.tmp 16) (.tmp 19) (.tmp 20) (.tmp 22) rfl (.int .i64 id) (.agg ([.int .i64 k, .int .i64 P, .int .i64 r, .int .i64 n, .int .i64 s, .int .i64 u] : List Value).toArray) (.slice vo vn vc) (.agg (csL fresh).toArray) (.int .i64 s) _ rfl rfl rfl rfl rfl BL.out) hH ?_
        try simp only [Act.put, List.setIfInBounds_toArray, List.set_cons_zero, List.set_cons_succ]
        refine wpAnyH_take (i := 10) (v := .pointer (some ⟨DB, 0, none⟩)) rfl (by kernel_rfl) (by kernel_rfl) (by kernel_rfl) (fun _ _ _ h => h) (Or.inl ⟨by rfl, fun w' h => by go_simp⟩) hH ?_
        try simp only [Act.put, List.setIfInBounds_toArray, List.set_cons_zero, List.set_cons_succ]
        refine wpAnyH_take (i := 11) (v := .pointer (some ⟨DB, 18, none⟩)) rfl (by kernel_rfl) (by kernel_rfl) (by kernel_rfl) (fun _ _ _ h => h) (Or.inl ⟨by rfl, fun w' h => by go_simp⟩) hH ?_
        try simp only [Act.put, List.setIfInBounds_toArray, List.set_cons_zero, List.set_cons_succ]
        refine wpAnyH_ready (rs := [12]) (by kernel_rfl) (by simp) ?_
        refine AllReadyH.cons rfl (fun K hK => ?_) AllReadyH.nil
        refine op_putM (lnL (newL id [k, P, r, n, s, u] (.slice vo vn vc) fresh s)) DB 18 (by rw [dr_len hX, lnL_len]; omega) (sizeLn _) (lnL_one rfl) rfl _ _ rfl rfl rfl (HD.out _ S6.bb) ?_
        intro w7 nb g7
        rw [dr_put hX] at nb
        have T6 := S6.at 0 rfl
        have T7 : Blk w.heap.size 26 [.int .i64 k, .int .i64 P, .int .i64 r, .int .i64 n, .int .i64 s, .int .i64 u] w7 := T6.grown g7 (by have := HDB.out; intro e; injection e with e; omega)
        refine hK.out _ _ T7 (fun hH => ?_)
        simp only [Act.put]
        refine wpAnyH_done (by kernel_rfl) ?_ _
        have ri7 := hR.out _ _ _ (grown_b S6.bb) ri6 (.inr g7)
        have G7 : Hid (w.grownBy w7 (some DB)) := grown_of S6.bb g7
        have RI7 : Hid (RI w7 (.slice vo vn vc)) := ri7
        have N7 : Hid (Blk DB 73 (drL X (newL id [k, P, r, n, s, u] (.slice vo vn vc) fresh s) pa nt) w7) := nb
        have TD7 : Hid (TabD w7) := fun k hk => by
          have c := HT.out _ S6.bb k hk
          exact (World.cell?_of_block (a := ⟨0, k, none⟩) (g7.block _ (block_lt_of_cell c) (fun e => HPO.out.2.2 (by injection e with e; exact e.symm)))).trans c
        have TT7 : Hid (Blk w.heap.size 26 [.int .i64 k, .int .i64 P, .int .i64 r, .int .i64 n, .int .i64 s, .int .i64 u] w7) := T7
        have c1 := T7.cell 1 _ rfl
        clear hH hK g7 nb T6 T7 ri7 ri6 BL S6 S5 S3 B6 B5 ri PY HD HT FR RN RY
        go_wp2_with fail
        refine (post_dr hX DB (newL id [k, P, r, n, s, u] (.slice vo vn vc) fresh s) pa nt [⟨1, 6, P⟩] _ _ ⟨rfl, fun j => ?_⟩ (fun e he => ?_) (by simp) (rd_one (w := w7) ⟨1, 6, P⟩) (TD7.out.later (below_alloc _ _)) (N7.out.below (below_alloc _ _))).mono ?_
        · show i64 ((List.replicate 12 (0 : Int)).getD j 0)
          rw [show (List.replicate 12 (0 : Int)).getD j 0 = 0 from by simp only [List.getD_eq_getElem?_getD, List.getElem?_replicate]; split <;> rfl]
          exact ⟨by decide, by decide⟩
        · simp at he; subst he; exact ⟨(⟨by decide, by decide⟩ : i64 1), (⟨by decide, by decide⟩ : i64 6), HPO.out.2.1⟩
        rintro e w8 (⟨h1, rfl, b8, g8⟩ | ⟨h1, _, _⟩)
        · go_wp2_with fail
          first | go_end0 | refine bodyPost_ret (results_none rfl _ _ _) rfl ?_
          have ga := grownBy_trans G7.out (World.grownBy_alloc w7 (.cells #[.int .i64 1, .int .i64 6, .int .i64 P] 79) (some DB))
          exact .inl ⟨rfl, vo, vn, vc, rfl, hR.out _ _ _ ga (hR.out _ _ _ G7.out RI7.out (.inl (below_alloc _ _))) (.inr g8), b8, grownBy_trans ga g8⟩
        · exact absurd (HPO.out.1 trivial) h1
end Go.Proofs.YtgdmkcbbomfmdaaGreatDoor
