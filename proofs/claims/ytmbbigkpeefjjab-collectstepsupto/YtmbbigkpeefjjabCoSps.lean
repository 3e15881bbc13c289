/-
  Ours: begun, the walk of CollectSteps (gen_cosps.py: THE SEAT's OWN NUMBERS).
-/
import Derived.Test.YtmbbigkpeefjjabCoStd2
namespace Go.Proofs.Ytmbbigkpeefjjab
open Go.RowKit LedM PolM CoM
namespace CoM
/-- Of a case that came about in at most k steps, under whatever holidays. -/
def J (l : List Int) (k : Nat) (c : Cs) : Prop := Pol (pn l) → Inv (pn l) (k : Int) c
theorem J_fresh (l : List Int) : J l 0 fresh := fun P => inv_fresh P
theorem J_ok {l : List Int} {k : Nat} {c : Cs} (h : J l k c) (hs : List Int) (hg : good l hs = true) : 0 ≤ l.getD 1 0 ∧ c.cf ≤ l.getD 7 0 ∧ c.lf ≤ l.getD 8 0 := by
  have P := pol_of hg
  have I := h P
  exact ⟨P.gr.1, I.fe.2.1, I.fe.2.2.2⟩
theorem J_step {l : List Int} {k : Nat} {c : Cs} {e : Ev} (hs : List Int) (h : J l k c) (E : EvOk e) (hk : k ≤ 4611686018427387903) : J l (k + 1) (stepA l hs c e).2.1 := fun P => by
  by_cases h0 : (stepA l hs c e).1 = 0
  · have := (step_fact (hs := hs) rfl P (h P) ⟨by omega, by omega⟩ E h0).inv
    simpa using this
  · rw [step_no h0]; exact (h P).mono (by omega)
end CoM
/-- What stands while the events are played: the policy's box, the pair's, the shelf. -/
structure CSt (w : World) (l : List Int) (s : Value) (XB SB n : Nat) (c : Cs) (w' : World) : Prop where
  p : Blk w.heap.size 24 (polL l s) w'
  x : Blk XB 47 (prL c c) w'
  sh : ∃ vL vG vs us, SH w.heap.size SB w' vL vG vs us ∧ vs.length = 2 * n
  bb : Below w.heap.size w w'
  ne : w.heap.size < XB
  ge : XB < SB
theorem CSt.drew {w : World} {l : List Int} {s : Value} {XB SB n : Nat} {c : Cs} {w1 : World} (h : CSt w l s XB SB n c w1) : CSt w l s XB SB n c w1.drew := by
  obtain ⟨vL, vG, vs, us, sh, hn⟩ := h.sh
  exact ⟨h.p, h.x, ⟨vL, vG, vs, us, sh.later (below_drw _), hn⟩, Below.drew h.bb, h.ne, h.ge⟩
theorem CSt.put {w : World} {l : List Int} {s : Value} {XB SB n : Nat} {c d : Cs} {w1 w2 : World} (h : CSt w l s XB SB n c w1) (nb : Blk XB 47 (prL d d) w2) (g : w1.grownBy w2 (some XB)) : CSt w l s XB SB n d w2 := by
  obtain ⟨vL, vG, vs, us, sh, hn⟩ := h.sh
  exact ⟨h.p.grown g (fun e => by injection e with e; have := h.ne; omega), nb, ⟨vL, vG, vs, us, sh.other h.x g int_ne_pr sl_ne_pr sh_ne_pr, hn⟩, below_row h.bb g (Nat.le_of_lt h.ne), h.ne, h.ge⟩
theorem op_loadC {P : Program} {ops : Array Oper} {op : Oper} {a : Act} {wr : World} {K : Act → World → Prop} {Q : Exit → Act → World → Prop} {E : Prop} (hgd : op.guard = none) (ty : TypeId) (x : Operand) (ho : op.op = .load ty x)
    (G o : Nat) (hx : a.eval x = .pointer (some ⟨G, o, none⟩)) (cs : List Value) (d : TypeDesc) (hc : wr.rangeAt G o cs)
    (hu : P.underlying ty = some d) (hd : d.isRow = true) (hi : (P.info? ty).map (·.size) = some cs.length)
    (h : K (a.put op.dst (.agg cs.toArray)) wr) : if Region.wanted op (yielded ops a.tmps) = true then Oper.wp P op a wr K Q else E := by
  have hwd : Region.wanted op (yielded ops a.tmps) = true := by simp [Region.wanted, hgd]
  rw [if_pos hwd]
  exact wp_load_mid ty x ho G o hx cs d hc hu hd hi h
set_option maxRecDepth 20000 in
set_option maxHeartbeats 4000000 in
theorem begun_at (w : World) : Calls Try.prog 18 #[] w fun e w' => e = .returned (.tuple #[prV fresh fresh, .bool true]) ∧ Below w.heap.size w w' := by
  have S1 : Hid (KD w [(w.heap.size, 47, prL ⟨0, false, 0, 0, 0, 0, 0, 0, 0, 0, 0, 0, 0, 0, 0⟩ ⟨0, false, 0, 0, 0, 0, 0, 0, 0, 0, 0, 0, 0, 0, 0⟩)] (w.alloc (.cells #[.int .i64 0, .bool false, .int .i64 0, .int .i64 0, .int .i64 0, .int .i64 0, .int .i64 0, .int .i64 0, .int .i64 0, .int .i64 0, .int .i64 0, .int .i64 0, .int .i64 0, .int .i64 0, .int .i64 0, .int .i64 0, .bool false, .int .i64 0, .int .i64 0, .int .i64 0, .int .i64 0, .int .i64 0, .int .i64 0, .int .i64 0, .int .i64 0, .int .i64 0, .int .i64 0, .int .i64 0, .int .i64 0, .int .i64 0] 47))) := KD.one w 47 (prL ⟨0, false, 0, 0, 0, 0, 0, 0, 0, 0, 0, 0, 0, 0, 0⟩ ⟨0, false, 0, 0, 0, 0, 0, 0, 0, 0, 0, 0, 0, 0, 0⟩)
  go_enter Try.func18, Try.ntmps18
  go_upto_region 1 with fail
  generalize w.alloc (.cells #[.int .i64 0, .bool false, .int .i64 0, .int .i64 0, .int .i64 0, .int .i64 0, .int .i64 0, .int .i64 0, .int .i64 0, .int .i64 0, .int .i64 0, .int .i64 0, .int .i64 0, .int .i64 0, .int .i64 0, .int .i64 0, .bool false, .int .i64 0, .int .i64 0, .int .i64 0, .int .i64 0, .int .i64 0, .int .i64 0, .int .i64 0, .int .i64 0, .int .i64 0, .int .i64 0, .int .i64 0, .int .i64 0, .int .i64 0] 47) = w1 at *
  go_wp2_with fail
  refine (fresh_at _).mono ?_
  rintro e w2 ⟨rfl, bX⟩
  have S2 : Hid (KD w [(w.heap.size, 47, prL ⟨0, false, 0, 0, 0, 0, 0, 0, 0, 0, 0, 0, 0, 0, 0⟩ ⟨0, false, 0, 0, 0, 0, 0, 0, 0, 0, 0, 0, 0, 0, 0⟩)] w2) := S1.out.call bX
  clear bX S1
  go_wp2_with fail
  refine (rfresh_at _).mono ?_
  rintro e w3 ⟨rfl, bX⟩
  have S3 : Hid (KD w [(w.heap.size, 47, prL ⟨0, false, 0, 0, 0, 0, 0, 0, 0, 0, 0, 0, 0, 0, 0⟩ ⟨0, false, 0, 0, 0, 0, 0, 0, 0, 0, 0, 0, 0, 0, 0⟩)] w3) := S2.out.call bX
  clear bX S2
  have NZ : Hid (Blk w3.heap.size 47 (prL ⟨0, false, 0, 0, 0, 0, 0, 0, 0, 0, 0, 0, 0, 0, 0⟩ ⟨0, false, 0, 0, 0, 0, 0, 0, 0, 0, 0, 0, 0, 0, 0⟩) (w3.alloc (.cells #[.int .i64 0, .bool false, .int .i64 0, .int .i64 0, .int .i64 0, .int .i64 0, .int .i64 0, .int .i64 0, .int .i64 0, .int .i64 0, .int .i64 0, .int .i64 0, .int .i64 0, .int .i64 0, .int .i64 0, .int .i64 0, .bool false, .int .i64 0, .int .i64 0, .int .i64 0, .int .i64 0, .int .i64 0, .int .i64 0, .int .i64 0, .int .i64 0, .int .i64 0, .int .i64 0, .int .i64 0, .int .i64 0, .int .i64 0] 47))) := Blk.new _ _ _
  go_upto_region 2 with (first
  | ((with_reducible refine at_build ?_); refine step_build2 rfl 47 0 1 _ _ rfl _ _ rfl rfl _ (build_pr fresh fresh _) ?_)
  | ((with_reducible refine at_store ?_); refine step_store rfl 47 _ _ rfl w3.heap.size 0 47 (prL ⟨0, false, 0, 0, 0, 0, 0, 0, 0, 0, 0, 0, 0, 0, 0⟩ ⟨0, false, 0, 0, 0, 0, 0, 0, 0, 0, 0, 0, 0, 0, 0⟩) (prL fresh fresh) rfl rfl NZ.out (Nat.le_refl 30) (sizePr _ _) (prL_one _ _) ?_; intro w4 n4 g4))
  have S4 : Hid (KD w [(w.heap.size, 47, prL ⟨0, false, 0, 0, 0, 0, 0, 0, 0, 0, 0, 0, 0, 0, 0⟩ ⟨0, false, 0, 0, 0, 0, 0, 0, 0, 0, 0, 0, 0, 0, 0⟩), (w3.heap.size, 47, prL fresh fresh)] w4) := S3.out.add n4 g4
  clear n4 g4 NZ S3
  obtain ⟨XB, hXB⟩ : ∃ B, w3.heap.size = B := ⟨_, rfl⟩
  rw [hXB] at S4
  rw [hXB]
  clear hXB
  have EQ := cs_eql fresh
  have hu2 := Try.underlying29
  have hi2 := sizeCsL fresh
  have hu4 := Try.underlying47
  have hi4 := sizePr fresh fresh
  have hC : KD w [(w.heap.size, 47, prL ⟨0, false, 0, 0, 0, 0, 0, 0, 0, 0, 0, 0, 0, 0, 0⟩ ⟨0, false, 0, 0, 0, 0, 0, 0, 0, 0, 0, 0, 0, 0, 0⟩), (XB, 47, prL fresh fresh)] w4.drew := S4.out.drew
  refine wp_region_held_drew (S := fun w' => ∃ zs, KD w [(w.heap.size, 47, zs), (XB, 47, prL fresh fresh)] w') (by kernel_rfl) (⟨_, hC⟩) (fun hH => ?_)
  refine wpAnyH_take (i := 0) (oi := { dst := some 6, op := Op.load 47 (Operand.tmp 2), type := 47, pos := "law.go:133", after := #[], guard := none }) (v := .agg (prL fresh fresh).toArray) rfl (by kernel_rfl) (by kernel_rfl) (by kernel_rfl) (fun _ _ _ h => h) (yieldsIf_load_mid (by rfl) _ _ rfl XB 0 rfl (prL fresh fresh) _ (fun w' h => by obtain ⟨zs, h⟩ := h; exact Blk.all (h.at 1 rfl)) hu4 rfl hi4) hH ?_
  try simp only [Act.put, List.setIfInBounds_toArray, List.set_cons_zero, List.set_cons_succ]
  refine wpAnyH_take (i := 1) (oi := { dst := some 7, op := Op.fieldAddr 47 (Operand.tmp 2) 0, type := 0, pos := "law.go:133", after := #[{ on := 6, ground := Ground.gcOnly Departure.lateStores }], guard := none }) (v := .pointer (some ⟨XB, 0, none⟩)) rfl (by kernel_rfl) (by kernel_rfl) (by kernel_rfl) (fun _ _ _ h => h) (Or.inl ⟨by rfl, fun w' h => by go_simp⟩) hH ?_
  try simp only [Act.put, List.setIfInBounds_toArray, List.set_cons_zero, List.set_cons_succ]
  refine wpAnyH_take (i := 2) (oi := { dst := some 8, op := Op.load 29 (Operand.tmp 7), type := 29, pos := "law.go:133", after := #[{ on := 1, ground := Ground.data }, { on := 6, ground := Ground.gcOnly Departure.lateStores }], guard := none }) (v := .agg (csL fresh).toArray) rfl (by kernel_rfl) (by kernel_rfl) (by kernel_rfl) (fun _ _ _ h => h) (yieldsIf_load_mid (by rfl) _ _ rfl XB 0 rfl (csL fresh) _ (fun w' h => by obtain ⟨zs, h⟩ := h; exact pr_c (h.at 1 rfl)) hu2 rfl hi2) hH ?_
  try simp only [Act.put, List.setIfInBounds_toArray, List.set_cons_zero, List.set_cons_succ]
  refine wpAnyH_take (i := 3) (oi := { dst := some 9, op := Op.fieldAddr 47 (Operand.tmp 2) 1, type := 0, pos := "law.go:133", after := #[{ on := 6, ground := Ground.gcOnly Departure.lateStores }], guard := none }) (v := .pointer (some ⟨XB, 15, none⟩)) rfl (by kernel_rfl) (by kernel_rfl) (by kernel_rfl) (fun _ _ _ h => h) (Or.inl ⟨by rfl, fun w' h => by go_simp⟩) hH ?_
  try simp only [Act.put, List.setIfInBounds_toArray, List.set_cons_zero, List.set_cons_succ]
  refine wpAnyH_take (i := 4) (oi := { dst := some 10, op := Op.load 29 (Operand.tmp 9), type := 29, pos := "law.go:133", after := #[{ on := 3, ground := Ground.data }, { on := 6, ground := Ground.gcOnly Departure.lateStores }], guard := none }) (v := .agg (csL fresh).toArray) rfl (by kernel_rfl) (by kernel_rfl) (by kernel_rfl) (fun _ _ _ h => h) (yieldsIf_load_mid (by rfl) _ _ rfl XB 15 rfl (csL fresh) _ (fun w' h => by obtain ⟨zs, h⟩ := h; exact pr_r (h.at 1 rfl)) hu2 rfl hi2) hH ?_
  try simp only [Act.put, List.setIfInBounds_toArray, List.set_cons_zero, List.set_cons_succ]
  refine wpAnyH_take (i := 5) (oi := { dst := some 11, op := Op.binOp BinOp.eql 29 (Operand.tmp 8) (Operand.tmp 10) 29, type := 4, pos := "law.go:133", after := #[{ on := 2, ground := Ground.data }, { on := 4, ground := Ground.data }, { on := 6, ground := Ground.gcOnly Departure.lateStores }], guard := none }) (v := .bool true) rfl (by kernel_rfl) (by kernel_rfl) (by kernel_rfl) (fun _ _ _ h => h) (Or.inl ⟨by rfl, fun w' h => by go_simp⟩) hH ?_
  try simp only [Act.put, List.setIfInBounds_toArray, List.set_cons_zero, List.set_cons_succ]
  refine wpAnyH_ready (rs := [6]) (by kernel_rfl) (by simp) ?_
  refine AllReadyH.cons (o := { dst := none, op := Op.store 47 (Operand.tmp 0) (Operand.tmp 6), type := 0, pos := "law.go:133", after := #[{ on := 0, ground := Ground.data }, { on := 0, ground := Ground.phase }, { on := 1, ground := Ground.textOnly Departure.lateStores }, { on := 2, ground := Ground.textOnly Departure.lateStores }, { on := 3, ground := Ground.textOnly Departure.lateStores }, { on := 4, ground := Ground.textOnly Departure.lateStores }, { on := 5, ground := Ground.textOnly Departure.lateStores }], guard := none }) rfl (fun K hK => ?_) AllReadyH.nil
  refine op_putC (zs := prL ⟨0, false, 0, 0, 0, 0, 0, 0, 0, 0, 0, 0, 0, 0, 0⟩ ⟨0, false, 0, 0, 0, 0, 0, 0, 0, 0, 0, 0, 0, 0, 0⟩) (prL fresh fresh) rfl (sizePr _ _) (prL_one _ _) rfl _ _ rfl _ rfl rfl (hC.at 0 rfl) ?_
  intro wz nz gz
  have hZ := hC.store 0 rfl nz gz
  refine hK.out _ _ ⟨_, hZ⟩ (fun hH => ?_)
  simp only [Act.put]
  refine wpAnyH_take (i := 7) (oi := { dst := some 1, op := Op.assign (Operand.tmp 11), type := 4, pos := "law.go:133", after := #[{ on := 5, ground := Ground.data }, { on := 6, ground := Ground.chain }, { on := 0, ground := Ground.phase }, { on := 1, ground := Ground.phase }, { on := 2, ground := Ground.phase }, { on := 3, ground := Ground.phase }, { on := 4, ground := Ground.phase }, { on := 5, ground := Ground.phase }, { on := 6, ground := Ground.phase }], guard := none }) (v := .bool true) rfl (by kernel_rfl) (by kernel_rfl) (by kernel_rfl) (fun _ _ _ h => h) (Or.inl ⟨by rfl, fun w' h => by go_simp⟩) hH ?_
  try simp only [Act.put, List.setIfInBounds_toArray, List.set_cons_zero, List.set_cons_succ]
  refine wpAnyH_done (by kernel_rfl) ?_ _
  have NZ : Hid (Blk w.heap.size 47 (prL fresh fresh) wz) := nz
  have BZ : Hid (Below w.heap.size w wz) := hZ.bb
  clear hH hK gz hZ hC nz
  go_wp2_with fail
  refine ret_blk_tmp rfl rfl w.heap.size 47 (prL fresh fresh) _ rfl NZ.out Try.underlying47 rfl (sizePr _ _) ?_
  exact ⟨rfl, BZ.out⟩
set_option maxRecDepth 20000 in
set_option maxHeartbeats 8000000 in
theorem steps_any (l hs : List Int) (s v : Value) (es : List Ev) (w : World) (hl : l.length = 17) (hr : Rd w s (bkL hs)) (hb : hs.length * 8 ≤ 140737488355328) (er : RdV w v es) (hE : es.length ≤ 1048576) (okE : ∀ i, EvOk (eN es i)) :
    Calls Try.prog 6 #[PV l s, v] w fun e w' => e = .returned (.bool true) ∧ Below w.heap.size w w' := by
  show Calls _ _ #[.agg (polL l s).toArray, _] _ _
  have SP0 : Hid (∀ c ev w' SB vL vG vs us, Below w.heap.size w w' → SH w.heap.size SB w' vL vG vs us → vs.length + 2 ≤ 4194304 → (∀ hs', good l hs' = true → 0 ≤ l.getD 1 0 ∧ c.cf ≤ l.getD 7 0 ∧ c.lf ≤ l.getD 8 0) → Calls Try.prog 19 #[PV l s, prV c c, evV ev, .pointer (some ⟨SB, 0, none⟩)] w' (StdAns w SB vs.length (stepA l hs c ev).2.1 w')) := fun c ev w' SB vL vG vs us h1 h2 h3 h4 => stepped_at l hs s c ev w w' SB vL vG vs us hl hr hb h1 h2 h3 h4
  have SZ : Hid ((Try.prog.info? 24).map (·.size) = some (polL l s).length) := by show _ = _; rw [polL_len hl]; exact sizeP
  have S1 : Hid (Blk w.heap.size 24 (polL l s) (w.alloc (.cells (polL l s).toArray 24)) ∧ Below w.heap.size w (w.alloc (.cells (polL l s).toArray 24))) := ⟨Blk.new _ _ _, below_alloc _ _⟩
  have OK : Hid (∀ k, EvOk (eN es k)) := okE
  obtain ⟨ao, cap, rfl, hcap, hno, er'⟩ := er
  obtain ⟨sa, sc, rfl, -, -, -⟩ := hr
  have EC : Hid (∀ k, k < es.length → ∃ g o, ao = some ⟨g, o, none⟩ ∧ g < w.heap.size ∧ w.rangeAt g (o + k * 4) (evL (eN es k))) := er'
  have HNb : Hid (es.length ≤ 1048576) := hE
  clear hl hb er' okE hno hcap hE
  generalize es.length = N at *
  generalize (bkL hs).length = sn at *
  go_enter Try.func6, Try.ntmps6
  go_upto_region 1 with fail
  generalize w.alloc (.cells (polL l (.slice sa sn sc)).toArray 24) = w1 at *
  go_wp2_with fail
  refine (begun_at _).mono ?_
  rintro e w2 ⟨rfl, bX⟩
  have S2 : Hid (Blk w.heap.size 24 (polL l (.slice sa sn sc)) w2 ∧ Below w.heap.size w w2) := ⟨S1.out.1.below bX, below_trans S1.out.2 bX⟩
  clear bX S1
  have NZ : Hid (Blk w2.heap.size 47 (prL ⟨0, false, 0, 0, 0, 0, 0, 0, 0, 0, 0, 0, 0, 0, 0⟩ ⟨0, false, 0, 0, 0, 0, 0, 0, 0, 0, 0, 0, 0, 0, 0⟩) (w2.alloc (.cells #[.int .i64 0, .bool false, .int .i64 0, .int .i64 0, .int .i64 0, .int .i64 0, .int .i64 0, .int .i64 0, .int .i64 0, .int .i64 0, .int .i64 0, .int .i64 0, .int .i64 0, .int .i64 0, .int .i64 0, .int .i64 0, .bool false, .int .i64 0, .int .i64 0, .int .i64 0, .int .i64 0, .int .i64 0, .int .i64 0, .int .i64 0, .int .i64 0, .int .i64 0, .int .i64 0, .int .i64 0, .int .i64 0, .int .i64 0] 47))) := Blk.new _ _ _
  go_upto_region 2 with ((with_reducible refine at_store ?_); refine step_store rfl 47 _ _ rfl w2.heap.size 0 47 (prL ⟨0, false, 0, 0, 0, 0, 0, 0, 0, 0, 0, 0, 0, 0, 0⟩ ⟨0, false, 0, 0, 0, 0, 0, 0, 0, 0, 0, 0, 0, 0, 0⟩) (prL fresh fresh) rfl rfl NZ.out (Nat.le_refl 30) (sizePr _ _) (prL_one _ _) ?_; intro w3 n3 g3)
  have S3 : Hid (Blk w.heap.size 24 (polL l (.slice sa sn sc)) w3 ∧ Below w.heap.size w w3 ∧ Blk w2.heap.size 47 (prL fresh fresh) w3) := ⟨S2.out.1.below (below_put g3), below_trans S2.out.2 (below_put g3), n3⟩
  have hne : Hid (w.heap.size < w2.heap.size) := S2.out.1.lt
  clear n3 g3 NZ S2
  obtain ⟨XB, hXB⟩ : ∃ B, w2.heap.size = B := ⟨_, rfl⟩
  rw [hXB] at S3 hne
  rw [hXB]
  clear hXB
  have S4 : Hid (CSt w l (.slice sa sn sc) XB w3.heap.size 0 fresh (w3.alloc (.cells #[.slice none 0 0, .slice none 0 0] 53))) :=
    ⟨S3.out.1.below (below_alloc _ _), S3.out.2.2.below (below_alloc _ _), ⟨_, _, [], [], ⟨S3.out.2.1.size, Blk.new _ _ _, RowV.nil _ _ _, RowV.nil _ _ _, (fun _ h => by cases h), rfl, fun i hi => by simp at hi⟩, rfl⟩, below_trans S3.out.2.1 (below_alloc _ _), hne.out, by have := S3.out.2.2.lt; omega⟩
  go_upto_region 3 with fail
  generalize w3.alloc (.cells #[.slice none 0 0, .slice none 0 0] 53) = w4 at *
  obtain ⟨SB, hSB⟩ : ∃ B, w3.heap.size = B := ⟨_, rfl⟩
  rw [hSB] at S4
  rw [hSB]
  clear hSB S3 hne
  have SPD : Hid (∀ c ev w' vL vG vs us, Below w.heap.size w w' → SH w.heap.size SB w' vL vG vs us → vs.length + 2 ≤ 4194304 → (∀ hs', good l hs' = true → 0 ≤ l.getD 1 0 ∧ c.cf ≤ l.getD 7 0 ∧ c.lf ≤ l.getD 8 0) → Calls Try.prog 19 #[PV l (.slice sa sn sc), prV c c, evV ev, .pointer (some ⟨SB, 0, none⟩)] w' (StdAns w SB vs.length (stepA l hs c ev).2.1 w')) := fun c ev w' vL vG vs us h1 h2 h3 h4 => SP0.out c ev w' SB vL vG vs us h1 h2 h3 h4
  clear SP0
  go_wp2_with fail
  go_loopw [6, 8] (fun v6 v8 wr => ∃ (k : Nat) (c : Cs), v8 = .int .i64 (k : Int) ∧ v6 = .bool true ∧ k ≤ N ∧ Hid (J l k c) ∧ Hid (CSt w l (.slice sa sn sc) XB SB k c wr)) (fun _ v8 _ => N - (intOf v8).toNat)
  case atStart => exact ⟨0, fresh, rfl, rfl, by omega, J_fresh l, S4⟩
  case round =>
    clear S4
    obtain ⟨k, c, rfl, rfl, hk, JR, SR⟩ := hrel
    by_cases hlt : (k : Int) < (N : Int)
    · have dlt : decide ((k : Int) < (N : Int)) = true := decide_eq_true hlt
      obtain ⟨g, o, rfl, lt, rg⟩ := EC.out k (by omega)
      have EV : Hid (∀ w', Below w.heap.size w w' → w'.rangeAt g (o + k * 4) (evL (eN es k))) := fun w' h => range_laterC rg lt h
      have EK : Hid (EvOk (eN es k)) := OK.out k
      clear rg lt EC
      generalize eN es k = ev at *
      have JN : Hid (J l (k + 1) (stepA l hs c ev).2.1) := J_step hs JR.out EK.out (by have := HNb.out; omega)
      have SP : Hid (∀ w' vL vG vs us, Below w.heap.size w w' → SH w.heap.size SB w' vL vG vs us → vs.length + 2 ≤ 4194304 → Calls Try.prog 19 #[PV l (.slice sa sn sc), prV c c, evV ev, .pointer (some ⟨SB, 0, none⟩)] w' (StdAns w SB vs.length (stepA l hs c ev).2.1 w')) := fun w' vL vG vs us h1 h2 h3 => SPD.out c ev w' vL vG vs us h1 h2 h3 (J_ok JR.out)
      generalize (stepA l hs c ev).2.1 = d at *
      clear SPD JR EK
      go_upto_region 6 with fail
      have hu := Try.underlying24
      have hi := SZ.out
      have hu3 := Try.underlying36
      have hi3 := sizeEvL ev
      have hC : CSt w l (.slice sa sn sc) XB SB k c wr.drew := SR.out.drew
      refine wp_region_held_drew (S := fun w' => ∃ c' n', CSt w l (.slice sa sn sc) XB SB n' c' w') (by kernel_rfl) (⟨_, _, hC⟩) (fun hH => ?_)
      refine wpAnyH_take (i := 0) (oi := { dst := some 25, op := Op.load 24 (Operand.tmp 2), type := 24, pos := "law.go:141", after := #[], guard := none }) (v := .agg (polL l (.slice sa sn sc)).toArray) rfl (by kernel_rfl) (by kernel_rfl) (by kernel_rfl) (fun _ _ _ h => h) (yieldsIf_load_mid (by rfl) _ _ rfl w.heap.size 0 rfl (polL l (.slice sa sn sc)) _ (fun w' h => by obtain ⟨_, _, h⟩ := h; exact Blk.all h.p) hu rfl hi) hH ?_
      try simp only [Act.put, List.setIfInBounds_toArray, List.set_cons_zero, List.set_cons_succ]
      refine wpAnyH_take (i := 2) (oi := { dst := some 27, op := Op.move (Operand.tmp 1), type := 25, pos := "law.go:141", after := #[], guard := none }) (v := .slice (some ⟨g, o, none⟩) N cap) rfl (by kernel_rfl) (by kernel_rfl) (by kernel_rfl) (fun _ _ _ h => h) (Or.inl ⟨by rfl, fun w' h => by go_simp⟩) hH ?_
      try simp only [Act.put, List.setIfInBounds_toArray, List.set_cons_zero, List.set_cons_succ]
      refine wpAnyH_take (i := 3) (oi := { dst := some 28, op := Op.move (Operand.tmp 8), type := 3, pos := "law.go:141", after := #[], guard := none }) (v := .int .i64 (k : Int)) rfl (by kernel_rfl) (by kernel_rfl) (by kernel_rfl) (fun _ _ _ h => h) (Or.inl ⟨by rfl, fun w' h => by go_simp⟩) hH ?_
      try simp only [Act.put, List.setIfInBounds_toArray, List.set_cons_zero, List.set_cons_succ]
      refine wpAnyH_take (i := 4) (oi := { dst := some 29, op := Op.indexAddr 25 (Operand.tmp 27) (Operand.tmp 28), type := 0, pos := "law.go:141", after := #[{ on := 2, ground := Ground.data }, { on := 3, ground := Ground.data }], guard := none }) (v := .pointer (some ⟨g, o + k * 4, none⟩)) rfl (by kernel_rfl) (by kernel_rfl) (by kernel_rfl) (fun _ _ _ h => h) (Or.inl ⟨by rfl, fun w' h => by go_simp⟩) hH ?_
      try simp only [Act.put, List.setIfInBounds_toArray, List.set_cons_zero, List.set_cons_succ]
      refine wpAnyH_take (i := 5) (oi := { dst := some 30, op := Op.load 36 (Operand.tmp 29), type := 36, pos := "law.go:141", after := #[{ on := 4, ground := Ground.data }], guard := none }) (v := .agg (evL ev).toArray) rfl (by kernel_rfl) (by kernel_rfl) (by kernel_rfl) (fun _ _ _ h => h) (yieldsIf_load_mid (by rfl) _ _ rfl g (o + k * 4) rfl (evL ev) _ (fun w' h => by obtain ⟨_, _, h⟩ := h; exact EV.out _ h.bb) hu3 rfl hi3) hH ?_
      try simp only [Act.put, List.setIfInBounds_toArray, List.set_cons_zero, List.set_cons_succ]
      refine wpAnyH_take (i := 6) (oi := { dst := some 31, op := Op.move (Operand.tmp 7), type := 50, pos := "law.go:141", after := #[], guard := none }) (v := .pointer (some ⟨SB, 0, none⟩)) rfl (by kernel_rfl) (by kernel_rfl) (by kernel_rfl) (fun _ _ _ h => h) (Or.inl ⟨by rfl, fun w' h => by go_simp⟩) hH ?_
      try simp only [Act.put, List.setIfInBounds_toArray, List.set_cons_zero, List.set_cons_succ]
      refine wpAnyH_ready (rs := [1]) (by kernel_rfl) (by simp) ?_
      refine AllReadyH.cons (o := { dst := some 26, op := Op.load 47 (Operand.tmp 5), type := 47, pos := "law.go:141", after := #[], guard := none }) rfl (fun K hK => ?_) AllReadyH.nil
      refine op_loadC rfl 47 _ rfl XB 0 rfl (prL c c) _ (Blk.all hC.x) Try.underlying47 rfl (sizePr _ _) ?_
      refine hK.out _ _ ⟨_, _, hC⟩ (fun hH => ?_)
      simp only [Act.put]
      refine wpAnyH_ready (rs := [7]) (by kernel_rfl) (by simp) ?_
      refine AllReadyH.cons (o := { dst := some 32, op := Op.call { callee := Callee.value (Operand.func 19), args := #[Operand.tmp 25, Operand.tmp 26, Operand.tmp 30, Operand.tmp 31], argTypes := #[24, 47, 36, 50] }, type := 48, pos := "law.go:141", after := #[{ on := 0, ground := Ground.data }, { on := 1, ground := Ground.data }, { on := 5, ground := Ground.data }, { on := 6, ground := Ground.data }], guard := none }) rfl (fun K hK => ?_) AllReadyH.nil
      go_simp
      obtain ⟨vL, vG, vs, us, sh, hn⟩ := hC.sh
      refine (SP.out _ vL vG vs us hC.bb sh (by rw [hn]; have := HNb.out; omega)).mono ?_
      rintro e w5 ⟨rfl, ⟨vL', vG', vs', us', sh', hn'⟩, bb, kp⟩
      have hD : CSt w l (.slice sa sn sc) XB SB (k + 1) c w5 := ⟨kp _ _ _ tyP.1 tyP.2.1 tyP.2.2 hC.p, kp _ _ _ tyR.1 tyR.2.1 tyR.2.2 hC.x, ⟨vL', vG', vs', us', sh', by omega⟩, bb, hC.ne, hC.ge⟩
      clear sh sh' hn hn' bb kp
      refine hK.out _ _ ⟨_, _, hD⟩ (fun hH => ?_)
      refine wpAnyH_take (i := 8) (oi := { dst := some 24, op := Op.move (Operand.tmp 32), type := 48, pos := "law.go:141", after := #[{ on := 7, ground := Ground.data }], guard := none }) (v := .tuple #[prV d d, .bool true]) rfl (by kernel_rfl) (by kernel_rfl) (by kernel_rfl) (fun _ _ _ h => h) (Or.inl ⟨by rfl, fun w' h => by go_simp⟩) hH ?_
      try simp only [Act.put, List.setIfInBounds_toArray, List.set_cons_zero, List.set_cons_succ]
      refine wpAnyH_take (i := 9) (oi := { dst := some 33, op := Op.extract (Operand.tmp 24) 0, type := 47, pos := "law.go:141", after := #[{ on := 8, ground := Ground.data }], guard := none }) (v := prV d d) rfl (by kernel_rfl) (by kernel_rfl) (by kernel_rfl) (fun _ _ _ h => h) (Or.inl ⟨by rfl, fun w' h => by go_simp⟩) hH ?_
      try simp only [Act.put, List.setIfInBounds_toArray, List.set_cons_zero, List.set_cons_succ]
      refine wpAnyH_take (i := 10) (oi := { dst := some 34, op := Op.extract (Operand.tmp 24) 1, type := 4, pos := "law.go:141", after := #[{ on := 8, ground := Ground.data }, { on := 11, ground := Ground.gcOnly Departure.lateStores }], guard := none }) (v := .bool true) rfl (by kernel_rfl) (by kernel_rfl) (by kernel_rfl) (fun _ _ _ h => h) (Or.inl ⟨by rfl, fun w' h => by go_simp⟩) hH ?_
      try simp only [Act.put, List.setIfInBounds_toArray, List.set_cons_zero, List.set_cons_succ]
      refine wpAnyH_ready (rs := [11]) (by kernel_rfl) (by simp) ?_
      refine AllReadyH.cons (o := { dst := none, op := Op.store 47 (Operand.tmp 5) (Operand.tmp 33), type := 0, pos := "law.go:141", after := #[{ on := 9, ground := Ground.data }, { on := 7, ground := Ground.chain }, { on := 0, ground := Ground.phase }, { on := 1, ground := Ground.phase }, { on := 2, ground := Ground.phase }, { on := 3, ground := Ground.phase }, { on := 4, ground := Ground.phase }, { on := 5, ground := Ground.phase }, { on := 6, ground := Ground.phase }, { on := 7, ground := Ground.phase }, { on := 8, ground := Ground.phase }, { on := 9, ground := Ground.phase }, { on := 10, ground := Ground.textOnly Departure.lateStores }], guard := none }) rfl (fun K hK => ?_) AllReadyH.nil
      refine op_putC (zs := prL c c) (prL d d) rfl (sizePr _ _) (prL_one _ _) rfl _ _ rfl _ rfl rfl hD.x ?_
      intro wz nz gz
      have hZ : CSt w l (.slice sa sn sc) XB SB (k + 1) d wz := hD.put nz gz
      have SN : Hid (CSt w l (.slice sa sn sc) XB SB (k + 1) d wz) := hZ
      refine hK.out _ _ ⟨_, _, hZ⟩ (fun hH => ?_)
      simp only [Act.put]
      refine wpAnyH_take (i := 12) (oi := { dst := some 6, op := Op.assign (Operand.tmp 34), type := 4, pos := "law.go:141", after := #[{ on := 10, ground := Ground.data }, { on := 11, ground := Ground.chain }, { on := 0, ground := Ground.phase }, { on := 1, ground := Ground.phase }, { on := 2, ground := Ground.phase }, { on := 3, ground := Ground.phase }, { on := 4, ground := Ground.phase }, { on := 5, ground := Ground.phase }, { on := 6, ground := Ground.phase }, { on := 7, ground := Ground.phase }, { on := 8, ground := Ground.phase }, { on := 9, ground := Ground.phase }, { on := 10, ground := Ground.phase }, { on := 11, ground := Ground.phase }], guard := none }) (v := .bool true) rfl (by kernel_rfl) (by kernel_rfl) (by kernel_rfl) (fun _ _ _ h => h) (Or.inl ⟨by rfl, fun w' h => by go_simp⟩) hH ?_
      try simp only [Act.put, List.setIfInBounds_toArray, List.set_cons_zero, List.set_cons_succ]
      refine wpAnyH_done (by kernel_rfl) ?_ _
      clear hH hK gz hZ hC hD nz
      have hNb := HNb.out
      go_wp2_with fail
      go_roundw
      case rel => exact ⟨k + 1, d, by go_num, rfl, by omega, JN, SN⟩
      case measure => simp [intOf]; omega
    · obtain rfl : k = N := by omega
      have dlt : decide ((k : Int) < (k : Int)) = false := decide_eq_false (by omega)
      clear SPD
      go_wp2_with fail
      obtain ⟨vL, vG, vs, us, sh, hn⟩ := SR.out.sh
      refine (still_at sh (by rw [hn]; have := HNb.out; omega)).mono ?_
      rintro e w9 ⟨rfl, hw⟩
      rw [hw]
      clear hw sh
      go_wp2_with fail
      go_ret
      exact ⟨rfl, SR.out.bb⟩
end Go.Proofs.Ytmbbigkpeefjjab
