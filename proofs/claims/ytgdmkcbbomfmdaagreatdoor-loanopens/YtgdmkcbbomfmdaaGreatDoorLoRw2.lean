/-
  Ours: the document's begin, done, wrong, move, posted (gen_lorw2.py).
-/
import Derived.Test.YtgdmkcbbomfmdaaGreatDoorLoRw
namespace Go.Proofs.YtgdmkcbbomfmdaaGreatDoor
open Go.RowKit LedM CoM LoM PolM
set_option linter.unusedSimpArgs false

theorem built_wk (x0 x1 x2 x3 x4 x5 x6 x7 x8 x9 x10 x11 x12 x13 x14 x15 x16 x17 : Value) (L : Lo) (er : Int) : Tryz.prog.built 54 [(0, .agg #[x0, x1, x2, x3, x4, x5, x6, x7, x8, x9, x10, x11, x12, x13, x14, x15, x16, x17]), (1, .agg (lnL L).toArray), (4, .int .i64 er)] = some (wkL [x0, x1, x2, x3, x4, x5, x6, x7, x8, x9, x10, x11, x12, x13, x14, x15, x16, x17] L [] (.slice none 0 0) er).toArray := by kernel_rfl
theorem build_wk {X : List Value} (hX : X.length = 18) (L : Lo) (er : Int) (w : World) : (Instr.build 54 #[(0, .agg X.toArray), (1, .agg (lnL L).toArray), (4, .int .i64 er)]).run Tryz.prog w = .ok (.agg (wkL X L [] (.slice none 0 0) er).toArray) w := by
  match X, hX with
  | [x0, x1, x2, x3, x4, x5, x6, x7, x8, x9, x10, x11, x12, x13, x14, x15, x16, x17], _ => exact run_build w _ _ _ (built_wk x0 x1 x2 x3 x4 x5 x6 x7 x8 x9 x10 x11 x12 x13 x14 x15 x16 x17 L er)
theorem built_ou2 (L : Lo) (er : Int) : Tryz.prog.built 41 [(0, .agg (lnL L).toArray), (3, .int .i64 er)] = some (ouL L [] (.slice none 0 0) er).toArray := by kernel_rfl
theorem step_build3 {ops : Array Oper} {rest : List Oper} {op : Oper} {a : Act} {w : World} {Q : Exit → Act → World → Prop} (hw : Region.wanted op (yielded ops a.tmps) = true) (ty : TypeId) (i j k : Nat) (x y z : Operand) (ho : op.op = .build ty #[(i, x), (j, y), (k, z)]) (u u2 u3 v : Value) (hx : a.eval x = u) (hy : a.eval y = u2) (hz : a.eval z = u3)
    (hr : ∀ w, (Instr.build ty #[(i, u), (j, u2), (k, u3)]).run Tryz.prog w = .ok v w) (h : wpList Tryz.prog ops Q rest (a.put op.dst v) w) : wpList Tryz.prog ops Q (op :: rest) a w :=
  BigFrame.wpList_want hw fun _ hK => by
    unfold Oper.wp execOp
    simp only [ho, hx, hy, hz, List.map_toArray, List.map_cons, List.map_nil, Sem.run_bind, Sem.run_pure, Result.andThen_ok, hr]
    exact hK _ _ h
set_option maxRecDepth 20000 in
set_option maxHeartbeats 4000000 in
/-- begin, of a loan without a plan. -/
theorem rbegin_nil {l hs : List Int} {a : Option Addr} {n c : Nat} (hl : l.length = 17) (L : Lo) (w : World) (hr : Rd w (.slice a n c) (bkL hs)) (hb : hs.length ≤ 1152921504606846976) (hp : L.pl = .slice none 0 0) :
    Calls Tryz.prog 13 #[.agg (polL l (.slice a n c)).toArray, .agg (lnL L).toArray] w fun e w' => e = .returned (.agg (wkL (polL l (.slice a n c)) L [] (.slice none 0 0) (ev (chk l hs))).toArray) ∧ Below w.heap.size w w' := by
  have hX : (polL l (.slice a n c)).length = 18 := polL_len hl
  have S : Hid (KD w [(w.heap.size, 24, polL l (.slice a n c)), (w.heap.size + 1, 37, lnL L), (w.heap.size + 1 + 1, 54, zW)] (((w.alloc (.cells (polL l (.slice a n c)).toArray 24)).alloc (.cells (lnL L).toArray 37)).alloc (.cells Tryz.zeroCells54 54))) := KD.three w _ _ _ (polL l (.slice a n c)) (lnL L) zW
  have CK : Hid (∀ w', Below w.heap.size w w' → Calls Tryz.prog 33 #[.agg (polL l (.slice a n c)).toArray] w' fun e w2 => e = .returned (.tuple #[.int .i64 (ev (chk l hs)), .int .i64 ((chk l hs : Nat) : Int)]) ∧ Below w'.heap.size w' w2) := fun w' b => rcheck_at l hs _ w' hl (hr.later b) hb
  have CO : Hid (∀ w', Calls Tryz.prog 34 #[.agg (lnL L).toArray] w' fun e w2 => e = .returned (.agg (lnL L).toArray) ∧ Below w'.heap.size w' w2) := fun w' => rcopied_nil L w' hp
  have SZ : Hid ((Tryz.prog.info? 24).map (·.size) = some (polL l (.slice a n c)).length) := by show _ = _; rw [hX]; kernel_rfl
  have OX : ∀ v ∈ polL l (.slice a n c), v.oneCell' = true := fun v hv => by
    rcases List.mem_append.1 hv with h | h
    · exact bkL_one _ v h
    · rw [List.mem_singleton.1 h]; rfl
  have OW : Hid (∀ v ∈ wkL (polL l (.slice a n c)) L [] (.slice none 0 0) (ev (chk l hs)), v.oneCell' = true) := wk_one OX (by rw [hp]; rfl) rfl
  have HX : Hid ((polL l (.slice a n c)).length = 18) := hX
  clear hr hp OX hX
  generalize ev (chk l hs) = er at *
  generalize chk l hs = cn at *
  generalize polL l (.slice a n c) = X at *
  go_enter Tryz.func13, Tryz.ntmps13
  go_upto_region 1 with fail
  generalize (((w.alloc (.cells X.toArray 24)).alloc (.cells (lnL L).toArray 37)).alloc (.cells Tryz.zeroCells54 54)) = w0 at *
  have RP : Hid (w0.rangeAt w.heap.size 0 X) := (S.out.at 0 rfl).all
  go_wp2_with (refine step_load rfl 24 _ rfl w.heap.size 0 rfl X _ RP.out Tryz.underlying24 rfl SZ.out ?_)
  refine (CK.out _ S.out.bb).mono ?_
  rintro e w1 ⟨rfl, b1⟩
  have S1 : Hid (KD w [(w.heap.size, 24, X), (w.heap.size + 1, 37, lnL L), (w.heap.size + 1 + 1, 54, zW)] w1) := S.out.call b1
  clear S RP CK b1
  go_upto_region 2 with fail
  have hu := Tryz.underlying24
  have hu2 := Tryz.underlying37
  have SL : (Tryz.prog.info? 37).map (·.size) = some (lnL L).length := sizeLn L
  have BW : Hid (∀ w, (Instr.build 54 #[(0, .agg X.toArray), (1, .agg (lnL L).toArray), (4, .int .i64 er)]).run Tryz.prog w = .ok (.agg (wkL X L [] (.slice none 0 0) er).toArray) w) := fun w => build_wk HX.out L er w
  refine wp_region_held_drew (S := fun w' => Blk w.heap.size 24 X w' ∧ Blk (w.heap.size + 1) 37 (lnL L) w') (by kernel_rfl) ⟨(S1.out.drew).at 0 rfl, (S1.out.drew).at 1 rfl⟩ (fun hH => ?_)
  refine wpAnyH_take (i := 0) (v := .agg X.toArray) rfl (by kernel_rfl) (by kernel_rfl) (by kernel_rfl) (fun _ _ _ h => h) (yieldsIf_load_mid (by rfl) _ _ rfl w.heap.size 0 rfl X _ (fun w' h => Blk.all h.1) hu rfl SZ.out) hH ?_
  try simp only [Act.put, List.getElem_toArray, List.getElem_cons_succ, List.getElem_cons_zero, List.setIfInBounds_toArray, List.set_cons_zero, List.set_cons_succ]
  refine wpAnyH_take (i := 1) (v := .agg (lnL L).toArray) rfl (by kernel_rfl) (by kernel_rfl) (by kernel_rfl) (fun _ _ _ h => h) (yieldsIf_load_mid (by rfl) _ _ rfl (w.heap.size + 1) 0 rfl (lnL L) _ (fun w' h => Blk.all h.2) hu2 rfl SL) hH ?_
  try simp only [Act.put, List.getElem_toArray, List.getElem_cons_succ, List.getElem_cons_zero, List.setIfInBounds_toArray, List.set_cons_zero, List.set_cons_succ]
  refine wpAnyH_take (i := 3) (v := .int .i64 er) rfl (by kernel_rfl) (by kernel_rfl) (by kernel_rfl) (fun _ _ _ h => h) (Or.inl ⟨by rfl, fun w' h => by go_simp⟩) hH ?_
  try simp only [Act.put, List.getElem_toArray, List.getElem_cons_succ, List.getElem_cons_zero, List.setIfInBounds_toArray, List.set_cons_zero, List.set_cons_succ]
  refine wpAnyH_ready (rs := [2]) (by kernel_rfl) (by simp) ?_
  refine AllReadyH.cons rfl (fun K hK => ?_) AllReadyH.nil
  go_simp
  refine (CO.out _).mono ?_
  rintro e w2 ⟨rfl, b2⟩
  have S2 := S1.out.drew.call b2
  refine hK.out _ _ ⟨S2.at 0 rfl, S2.at 1 rfl⟩ (fun hH => ?_)
  try simp only [Act.put, List.setIfInBounds_toArray, List.set_cons_zero, List.set_cons_succ]
  refine wpAnyH_take (i := 4) (v := .agg (wkL X L [] (.slice none 0 0) er).toArray) rfl (by kernel_rfl) (by kernel_rfl) (by kernel_rfl) (fun _ _ _ h => h) (yieldsIf_build3 (by rfl) 54 0 1 4 (.tmp 12) (.tmp 14) (.tmp 15) rfl (.agg X.toArray) (.agg (lnL L).toArray) (.int .i64 er) _ rfl rfl rfl BW.out) hH ?_
  try simp only [Act.put, List.getElem_toArray, List.getElem_cons_succ, List.getElem_cons_zero, List.setIfInBounds_toArray, List.set_cons_zero, List.set_cons_succ]
  refine wpAnyH_ready (rs := [5]) (by kernel_rfl) (by simp) ?_
  refine AllReadyH.cons rfl (fun K hK => ?_) AllReadyH.nil
  refine op_putM (wkL X L [] (.slice none 0 0) er) (w.heap.size + 1 + 1) 0 (by rw [wk_len HX.out]; exact Nat.le_refl 71) (wk_size HX.out _ _ _ _) OW.out rfl _ _ rfl rfl rfl (S2.at 2 rfl) ?_
  intro w3 nb g3
  rw [store_all (by rw [wk_len HX.out]; rfl)] at nb
  have B3 : Hid (Below w.heap.size w w3) := S2.bb.grown g3 S2.bb.size (fun q e => by have e := Option.some.inj e; omega)
  have N3 : Hid (Blk (w.heap.size + 1 + 1) 54 (wkL X L [] (.slice none 0 0) er) w3) := nb
  have g23 := g3
  have SS : Blk w.heap.size 24 X w3 ∧ Blk (w.heap.size + 1) 37 (lnL L) w3 := ⟨(S2.at 0 rfl).grown g3 (fun e => by have e := Option.some.inj e; omega), (S2.at 1 rfl).grown g3 (fun e => by have e := Option.some.inj e; omega)⟩
  refine hK.out _ _ SS (fun hH => ?_)
  simp only [Act.put]
  refine wpAnyH_done (by kernel_rfl) ?_ _
  try simp only [List.setIfInBounds_toArray, List.set_cons_zero, List.set_cons_succ]
  clear hH hK nb g3 g23 SS S2 S1 b2 CO BW
  go_wp2_with fail
  refine ret_blk rfl rfl (w.heap.size + 1 + 1) 54 (wkL X L [] (.slice none 0 0) er) _ rfl N3.out Tryz.underlying54 rfl (wk_size HX.out _ _ _ _) ?_
  exact ⟨rfl, B3.out⟩
theorem wk_loan {X : List Value} {L : Lo} {pa : List Int} {nt : Value} {er : Int} {G : Nat} {T : TypeId} {w : World} (hX : X.length = 18) (h : Blk G T (wkL X L pa nt er) w) : w.rangeAt G 18 (lnL L) := by
  have := h.range 18 46
  unfold wkL at this
  rw [List.drop_left' hX, List.take_left' (lnL_len L)] at this
  exact this
theorem wk_parts {X : List Value} {L : Lo} {pa : List Int} {nt : Value} {er : Int} {G : Nat} {T : TypeId} {w : World} (hX : X.length = 18) (h : Blk G T (wkL X L pa nt er) w) : w.rangeAt G 64 (i5 pa) := by
  have := h.range 64 5
  unfold wkL at this
  rw [← List.append_assoc, List.drop_left' (by rw [List.length_append, hX, lnL_len]), List.take_left' (show (i5 pa).length = 5 from rfl)] at this
  exact this
theorem wk_not {X : List Value} (hX : X.length = 18) (L : Lo) (pa : List Int) (nt : Value) (er : Int) : (wkL X L pa nt er)[69]? = some nt := wk_at hX L pa nt er 51
set_option maxRecDepth 20000 in
set_option maxHeartbeats 4000000 in
/-- done: the sheet's outcome, or the old loan and the error (an old loan without a plan). -/
theorem rdone_nil {X : List Value} (hX : X.length = 18) (L old : Lo) (pa : List Int) (na : Option Addr) (nn nc : Nat) (er : Int) (w : World) (hp : L.pl.oneCell' = true) (ho : old.pl = .slice none 0 0) :
    Calls Tryz.prog 20 #[.agg (wkL X L pa (.slice na nn nc) er).toArray, .agg (lnL old).toArray] w fun e w' => e = .returned (.agg (if er = 0 then ouL L pa (.slice na nn nc) 0 else ouL old [] (.slice none 0 0) er).toArray) ∧ Below w.heap.size w w' := by
  have S : Hid (KD w [(w.heap.size, 54, wkL X L pa (.slice na nn nc) er), (w.heap.size + 1, 37, lnL old), (w.heap.size + 1 + 1, 41, zO)] (((w.alloc (.cells (wkL X L pa (.slice na nn nc) er).toArray 54)).alloc (.cells (lnL old).toArray 37)).alloc (.cells #[.int .i64 0, .int .i64 0, .int .i64 0, .int .i64 0, .int .i64 0, .int .i64 0, .int .i64 0, .slice none 0 0, .int .i64 0, .int .i64 0, .int .i64 0, .int .i64 0, .int .i64 0, .int .i64 0, .int .i64 0, .int .i64 0, .int .i64 0, .int .i64 0, .int .i64 0, .int .i64 0, .int .i64 0, .bool false, .int .i64 0, .int .i64 0, .int .i64 0, .int .i64 0, .int .i64 0, .int .i64 0, .int .i64 0, .int .i64 0, .int .i64 0, .int .i64 0, .int .i64 0, .int .i64 0, .int .i64 0, .int .i64 0, .int .i64 0, .int .i64 0, .int .i64 0, .int .i64 0, .int .i64 0, .int .i64 0, .int .i64 0, .bool false, .int .i64 0, .int .i64 0, .int .i64 0, .int .i64 0, .int .i64 0, .int .i64 0, .int .i64 0, .slice none 0 0, .int .i64 0] 41))) := KD.three w _ _ _ (wkL X L pa (.slice na nn nc) er) (lnL old) zO
  have c70 := S.out.cell 0 70 rfl (.int .i64 er) (wk_err hX L pa _ er)
  have CO : Hid (∀ w', Calls Tryz.prog 34 #[.agg (lnL old).toArray] w' fun e w2 => e = .returned (.agg (lnL old).toArray) ∧ Below w'.heap.size w' w2) := fun w' => rcopied_nil old w' ho
  have OL : Hid (∀ v ∈ ouL L pa (.slice na nn nc) 0, v.oneCell' = true) := ouL_one hp rfl
  have OO : Hid (∀ v ∈ ouL old [] (.slice none 0 0) er, v.oneCell' = true) := ouL_one (by rw [ho]; rfl) rfl
  have HX : Hid (X.length = 18) := hX
  clear hp ho
  obtain ⟨E, hE⟩ : ∃ E, (if er = 0 then ouL L pa (.slice na nn nc) 0 else ouL old [] (.slice none 0 0) er) = E := ⟨_, rfl⟩
  rw [hE]
  have HE : Hid ((if er = 0 then ouL L pa (.slice na nn nc) 0 else ouL old [] (.slice none 0 0) er) = E) := hE
  clear hE
  go_enter Tryz.func20, Tryz.ntmps20
  go_upto_region 1 with fail
  generalize (((w.alloc (.cells (wkL X L pa (.slice na nn nc) er).toArray 54)).alloc (.cells (lnL old).toArray 37)).alloc (.cells #[.int .i64 0, .int .i64 0, .int .i64 0, .int .i64 0, .int .i64 0, .int .i64 0, .int .i64 0, .slice none 0 0, .int .i64 0, .int .i64 0, .int .i64 0, .int .i64 0, .int .i64 0, .int .i64 0, .int .i64 0, .int .i64 0, .int .i64 0, .int .i64 0, .int .i64 0, .int .i64 0, .int .i64 0, .bool false, .int .i64 0, .int .i64 0, .int .i64 0, .int .i64 0, .int .i64 0, .int .i64 0, .int .i64 0, .int .i64 0, .int .i64 0, .int .i64 0, .int .i64 0, .int .i64 0, .int .i64 0, .int .i64 0, .int .i64 0, .int .i64 0, .int .i64 0, .int .i64 0, .int .i64 0, .int .i64 0, .int .i64 0, .bool false, .int .i64 0, .int .i64 0, .int .i64 0, .int .i64 0, .int .i64 0, .int .i64 0, .int .i64 0, .slice none 0 0, .int .i64 0] 41)) = w0 at *
  by_cases h0 : er = 0
  · subst h0
    obtain rfl : ouL L pa (.slice na nn nc) 0 = E := by rw [← HE.out, if_pos rfl]
    have RL : Hid (w0.rangeAt w.heap.size 18 (lnL L)) := wk_loan HX.out (S.out.at 0 rfl)
    have RA : Hid (w0.rangeAt w.heap.size 64 (i5 pa)) := wk_parts HX.out (S.out.at 0 rfl)
    have c69 := S.out.cell 0 69 rfl _ (wk_not HX.out L pa (.slice na nn nc) 0)
    have BO : Hid (∀ w, (Instr.build 41 #[(0, .agg (lnL L).toArray), (1, .agg (i5 pa).toArray), (2, .slice na nn nc)]).run Tryz.prog w = .ok (.agg (ouL L pa (.slice na nn nc) 0).toArray) w) := fun w => build_ou3 L pa na nn nc w
    clear HE CO OO
    go_wp2_with (first
      | (refine step_load rfl 37 _ rfl w.heap.size 18 rfl (lnL L) _ RL.out Tryz.underlying37 rfl (sizeLn _) ?_)
      | (refine step_load rfl 35 _ rfl w.heap.size 64 rfl (i5 pa) _ RA.out Tryz.underlying35 rfl (sizeP5 _) ?_)
      | (refine step_build3 (by rfl) 41 0 1 2 _ _ _ rfl (.agg (lnL L).toArray) (.agg (i5 pa).toArray) (.slice na nn nc) _ rfl rfl rfl BO.out ?_)
      | (refine step_store rfl 41 _ _ rfl (w.heap.size + 1 + 1) 0 41 zO (ouL L pa (.slice na nn nc) 0) rfl rfl (S.out.at 2 rfl) (by rw [ouL_len]; exact Nat.le_refl 53) (sizeOu _ _ _ _) OL.out ?_; intro w2 nb2 g2; rw [store_all (by rw [ouL_len]; rfl)] at nb2; have N2 : Hid (Blk (w.heap.size + 1 + 1) 41 (ouL L pa (.slice na nn nc) 0) w2 ∧ Below w.heap.size w w2) := ⟨nb2, S.out.bb.grown g2 S.out.bb.size (fun q e => by have e := Option.some.inj e; omega)⟩; clear nb2 g2))
    refine ret_blk rfl rfl (w.heap.size + 1 + 1) 41 (ouL L pa (.slice na nn nc) 0) _ rfl N2.out.1 Tryz.underlying41 rfl (sizeOu _ _ _ _) ?_
    exact ⟨rfl, N2.out.2⟩
  · obtain rfl : ouL old [] (.slice none 0 0) er = E := by rw [← HE.out, if_neg h0]
    have h1 : (er != 0) = true := by simp; exact h0
    have hu2 := Tryz.underlying37
    have SL : (Tryz.prog.info? 37).map (·.size) = some (lnL old).length := sizeLn old
    have BW : Hid (∀ w, (Instr.build 41 #[(0, .agg (lnL old).toArray), (3, .int .i64 er)]).run Tryz.prog w = .ok (.agg (ouL old [] (.slice none 0 0) er).toArray) w) := fun w => run_build w _ _ _ (built_ou2 old er)
    clear HE OL
    go_upto_region 2 with fail
    refine wp_region_held_drew (S := fun w' => Blk (w.heap.size + 1) 37 (lnL old) w' ∧ w'.cell? ⟨w.heap.size, 70, none⟩ = some (.int .i64 er)) (by kernel_rfl) ⟨(S.out.drew).at 1 rfl, c70⟩ (fun hH => ?_)
    refine wpAnyH_take (i := 0) (v := .agg (lnL old).toArray) rfl (by kernel_rfl) (by kernel_rfl) (by kernel_rfl) (fun _ _ _ h => h) (yieldsIf_load_mid (by rfl) _ _ rfl (w.heap.size + 1) 0 rfl (lnL old) _ (fun w' h => Blk.all h.1) hu2 rfl SL) hH ?_
    try simp only [Act.put, List.getElem_toArray, List.getElem_cons_succ, List.getElem_cons_zero, List.setIfInBounds_toArray, List.set_cons_zero, List.set_cons_succ]
    refine wpAnyH_take (i := 2) (v := .pointer (some ⟨w.heap.size, 70, none⟩)) rfl (by kernel_rfl) (by kernel_rfl) (by kernel_rfl) (fun _ _ _ h => h) (Or.inl ⟨by rfl, fun w' h => by go_simp⟩) hH ?_
    try simp only [Act.put, List.getElem_toArray, List.getElem_cons_succ, List.getElem_cons_zero, List.setIfInBounds_toArray, List.set_cons_zero, List.set_cons_succ]
    refine wpAnyH_take (i := 3) (v := .int .i64 er) rfl (by kernel_rfl) (by kernel_rfl) (by kernel_rfl) (fun _ _ _ h => h) (Or.inl ⟨by rfl, fun w' h => by have c4 := h.2; go_simp⟩) hH ?_
    try simp only [Act.put, List.getElem_toArray, List.getElem_cons_succ, List.getElem_cons_zero, List.setIfInBounds_toArray, List.set_cons_zero, List.set_cons_succ]
    refine wpAnyH_ready (rs := [1]) (by kernel_rfl) (by simp) ?_
    refine AllReadyH.cons rfl (fun K hK => ?_) AllReadyH.nil
    go_simp
    refine (CO.out _).mono ?_
    rintro e w2 ⟨rfl, b2⟩
    have S2 := S.out.drew.call b2
    have cc : w2.cell? ⟨w.heap.size, 70, none⟩ = some (.int .i64 er) := S2.cell 0 70 rfl (.int .i64 er) (wk_err HX.out L pa _ er)
    refine hK.out _ _ ⟨S2.at 1 rfl, cc⟩ (fun hH => ?_)
    try simp only [Act.put, List.setIfInBounds_toArray, List.set_cons_zero, List.set_cons_succ]
    refine wpAnyH_take (i := 4) (v := .agg (ouL old [] (.slice none 0 0) er).toArray) rfl (by kernel_rfl) (by kernel_rfl) (by kernel_rfl) (fun _ _ _ h => h) (LoK.yieldsIf_build2 (by rfl) 41 0 3 (.tmp 9) (.tmp 11) rfl (.agg (lnL old).toArray) (.int .i64 er) _ rfl rfl BW.out) hH ?_
    try simp only [Act.put, List.getElem_toArray, List.getElem_cons_succ, List.getElem_cons_zero, List.setIfInBounds_toArray, List.set_cons_zero, List.set_cons_succ]
    refine wpAnyH_ready (rs := [5]) (by kernel_rfl) (by simp) ?_
    refine AllReadyH.cons rfl (fun K hK => ?_) AllReadyH.nil
    refine op_putM (ouL old [] (.slice none 0 0) er) (w.heap.size + 1 + 1) 0 (by rw [ouL_len]; exact Nat.le_refl 53) (sizeOu _ _ _ _) OO.out rfl _ _ rfl rfl rfl (S2.at 2 rfl) ?_
    intro w3 nb g3
    rw [store_all (by rw [ouL_len]; rfl)] at nb
    have B3 : Hid (Below w.heap.size w w3) := S2.bb.grown g3 S2.bb.size (fun q e => by have e := Option.some.inj e; omega)
    have N3 : Hid (Blk (w.heap.size + 1 + 1) 41 (ouL old [] (.slice none 0 0) er) w3) := nb
    have SS : Blk (w.heap.size + 1) 37 (lnL old) w3 ∧ w3.cell? ⟨w.heap.size, 70, none⟩ = some (.int .i64 er) := ⟨(S2.at 1 rfl).grown g3 (fun e => by have e := Option.some.inj e; omega), ((S2.at 0 rfl).grown g3 (fun e => by have e := Option.some.inj e; omega)).cell 70 _ (wk_err HX.out L pa _ er)⟩
    refine hK.out _ _ SS (fun hH => ?_)
    simp only [Act.put]
    refine wpAnyH_done (by kernel_rfl) ?_ _
    try simp only [List.setIfInBounds_toArray, List.set_cons_zero, List.set_cons_succ]
    clear hH hK nb g3 SS S2 S b2 CO BW cc c70
    go_wp2_with fail
    refine ret_blk rfl rfl (w.heap.size + 1 + 1) 41 (ouL old [] (.slice none 0 0) er) _ rfl N3.out Tryz.underlying41 rfl (sizeOu _ _ _ _) ?_
    exact ⟨rfl, B3.out⟩
end Go.Proofs.YtgdmkcbbomfmdaaGreatDoor
