/-
  Ours: begun, the walk of CollectSteps (gen_cosps.py: THE SEAT's OWN NUMBERS).
-/
import Derived.Test.YtmbbigkpeefjjabDoorCoStd2
namespace Go.Proofs.YtmbbigkpeefjjabDoor
open Go.RowKit LedM PolM CoM
namespace CoM
/-- Of a case that came about in at most k steps, under whatever holidays. -/
def J (l : List Int) (k : Nat) (c : Cs) : Prop := Pol (pn l) → Inv (pn l) (k : Int) c
theorem J_fresh (l : List Int) : J l 0 fresh := fun P => inv_fresh P
theorem J_ok {l : List Int} {k : Nat} {c : Cs} (h : J l k c) (hs : List Int) (hg : good l hs = true) : FQ l c := by
  have P := pol_of hg
  have I := h P
  exact ⟨P.gr.1, fun _ _ => .inl I.fe.2.1, fun _ _ => .inl I.fe.2.2.2⟩
theorem J_step {l : List Int} {k : Nat} {c : Cs} {e : Ev} (hs : List Int) (h : J l k c) (E : EvOk e) (hk : k ≤ 4611686018427387903) : J l (k + 1) (stepA l hs c e).2.1 := fun P => by
  by_cases h0 : (stepA l hs c e).1 = 0
  · have := (step_fact (hs := hs) rfl P (h P) ⟨by omega, by omega⟩ E h0).inv
    simpa using this
  · rw [step_no h0]; exact (h P).mono (by omega)
end CoM
theorem op_loadC {P : Program} {ops : Array Oper} {op : Oper} {a : Act} {wr : World} {K : Act → World → Prop} {Q : Exit → Act → World → Prop} {E : Prop} (hgd : op.guard = none) (ty : TypeId) (x : Operand) (ho : op.op = .load ty x)
    (G o : Nat) (hx : a.eval x = .pointer (some ⟨G, o, none⟩)) (cs : List Value) (d : TypeDesc) (hc : wr.rangeAt G o cs)
    (hu : P.underlying ty = some d) (hd : d.isRow = true) (hi : (P.info? ty).map (·.size) = some cs.length)
    (h : K (a.put op.dst (.agg cs.toArray)) wr) : if Region.wanted op (yielded ops a.tmps) = true then Oper.wp P op a wr K Q else E := by
  have hwd : Region.wanted op (yielded ops a.tmps) = true := by simp [Region.wanted, hgd]
  rw [if_pos hwd]
  exact wp_load_mid ty x ho G o hx cs d hc hu hd hi h
set_option maxRecDepth 20000 in
set_option maxHeartbeats 4000000 in
theorem begun_at (w : World) : Calls Tryd.prog 4 #[] w fun e w' => e = .returned (.tuple #[prV fresh fresh, .bool true]) ∧ Below w.heap.size w w' := by
  have S1 : Hid (KD w [(w.heap.size, 29, prL ⟨0, false, 0, 0, 0, 0, 0, 0, 0, 0, 0, 0, 0, 0, 0⟩ ⟨0, false, 0, 0, 0, 0, 0, 0, 0, 0, 0, 0, 0, 0, 0⟩)] (w.alloc (.cells #[.int .i64 0, .bool false, .int .i64 0, .int .i64 0, .int .i64 0, .int .i64 0, .int .i64 0, .int .i64 0, .int .i64 0, .int .i64 0, .int .i64 0, .int .i64 0, .int .i64 0, .int .i64 0, .int .i64 0, .int .i64 0, .bool false, .int .i64 0, .int .i64 0, .int .i64 0, .int .i64 0, .int .i64 0, .int .i64 0, .int .i64 0, .int .i64 0, .int .i64 0, .int .i64 0, .int .i64 0, .int .i64 0, .int .i64 0] 29))) := KD.one w 29 (prL ⟨0, false, 0, 0, 0, 0, 0, 0, 0, 0, 0, 0, 0, 0, 0⟩ ⟨0, false, 0, 0, 0, 0, 0, 0, 0, 0, 0, 0, 0, 0, 0⟩)
  go_enter Tryd.func4, Tryd.ntmps4
  go_upto_region 1 with fail
  generalize w.alloc (.cells #[.int .i64 0, .bool false, .int .i64 0, .int .i64 0, .int .i64 0, .int .i64 0, .int .i64 0, .int .i64 0, .int .i64 0, .int .i64 0, .int .i64 0, .int .i64 0, .int .i64 0, .int .i64 0, .int .i64 0, .int .i64 0, .bool false, .int .i64 0, .int .i64 0, .int .i64 0, .int .i64 0, .int .i64 0, .int .i64 0, .int .i64 0, .int .i64 0, .int .i64 0, .int .i64 0, .int .i64 0, .int .i64 0, .int .i64 0] 29) = w1 at *
  go_wp2_with fail
  refine (fresh_at _).mono ?_
  rintro e w2 ⟨rfl, bX⟩
  have S2 : Hid (KD w [(w.heap.size, 29, prL ⟨0, false, 0, 0, 0, 0, 0, 0, 0, 0, 0, 0, 0, 0, 0⟩ ⟨0, false, 0, 0, 0, 0, 0, 0, 0, 0, 0, 0, 0, 0, 0⟩)] w2) := S1.out.call bX
  clear bX S1
  go_wp2_with fail
  refine (rfresh_at _).mono ?_
  rintro e w3 ⟨rfl, bX⟩
  have S3 : Hid (KD w [(w.heap.size, 29, prL ⟨0, false, 0, 0, 0, 0, 0, 0, 0, 0, 0, 0, 0, 0, 0⟩ ⟨0, false, 0, 0, 0, 0, 0, 0, 0, 0, 0, 0, 0, 0, 0⟩)] w3) := S2.out.call bX
  clear bX S2
  have NZ : Hid (Blk w3.heap.size 29 (prL ⟨0, false, 0, 0, 0, 0, 0, 0, 0, 0, 0, 0, 0, 0, 0⟩ ⟨0, false, 0, 0, 0, 0, 0, 0, 0, 0, 0, 0, 0, 0, 0⟩) (w3.alloc (.cells #[.int .i64 0, .bool false, .int .i64 0, .int .i64 0, .int .i64 0, .int .i64 0, .int .i64 0, .int .i64 0, .int .i64 0, .int .i64 0, .int .i64 0, .int .i64 0, .int .i64 0, .int .i64 0, .int .i64 0, .int .i64 0, .bool false, .int .i64 0, .int .i64 0, .int .i64 0, .int .i64 0, .int .i64 0, .int .i64 0, .int .i64 0, .int .i64 0, .int .i64 0, .int .i64 0, .int .i64 0, .int .i64 0, .int .i64 0] 29))) := Blk.new _ _ _
  go_upto_region 2 with (first
  | ((with_reducible refine at_build ?_); refine step_build2 rfl 29 0 1 _ _ rfl _ _ rfl rfl _ (build_pr fresh fresh _) ?_)
  | ((with_reducible refine at_store ?_); refine step_store rfl 29 _ _ rfl w3.heap.size 0 29 (prL ⟨0, false, 0, 0, 0, 0, 0, 0, 0, 0, 0, 0, 0, 0, 0⟩ ⟨0, false, 0, 0, 0, 0, 0, 0, 0, 0, 0, 0, 0, 0, 0⟩) (prL fresh fresh) rfl rfl NZ.out (Nat.le_refl 30) (sizePr _ _) (prL_one _ _) ?_; intro w4 n4 g4))
  have S4 : Hid (KD w [(w.heap.size, 29, prL ⟨0, false, 0, 0, 0, 0, 0, 0, 0, 0, 0, 0, 0, 0, 0⟩ ⟨0, false, 0, 0, 0, 0, 0, 0, 0, 0, 0, 0, 0, 0, 0⟩), (w3.heap.size, 29, prL fresh fresh)] w4) := S3.out.add n4 g4
  clear n4 g4 NZ S3
  obtain ⟨XB, hXB⟩ : ∃ B, w3.heap.size = B := ⟨_, rfl⟩
  rw [hXB] at S4
  rw [hXB]
  clear hXB
  have EQ := cs_eql fresh
  have hu2 := Tryd.underlying27
  have hi2 := sizeCsL fresh
  have hu4 := Tryd.underlying29
  have hi4 := sizePr fresh fresh
  have hC : KD w [(w.heap.size, 29, prL ⟨0, false, 0, 0, 0, 0, 0, 0, 0, 0, 0, 0, 0, 0, 0⟩ ⟨0, false, 0, 0, 0, 0, 0, 0, 0, 0, 0, 0, 0, 0, 0⟩), (XB, 29, prL fresh fresh)] w4.drew := S4.out.drew
  refine wp_region_held_drew (S := fun w' => ∃ zs, KD w [(w.heap.size, 29, zs), (XB, 29, prL fresh fresh)] w') (by kernel_rfl) (⟨_, hC⟩) (fun hH => ?_)
  refine wpAnyH_take (i := 0) (oi := { dst := some 6, op := Op.load 29 (Operand.tmp 2), type := 29, pos := "law.go:133", after := #[], guard := none }) (v := .agg (prL fresh fresh).toArray) rfl (by kernel_rfl) (by kernel_rfl) (by kernel_rfl) (fun _ _ _ h => h) (yieldsIf_load_mid (by rfl) _ _ rfl XB 0 rfl (prL fresh fresh) _ (fun w' h => by obtain ⟨zs, h⟩ := h; exact Blk.all (h.at 1 rfl)) hu4 rfl hi4) hH ?_
  try simp only [Act.put, List.setIfInBounds_toArray, List.set_cons_zero, List.set_cons_succ]
  refine wpAnyH_take (i := 1) (oi := { dst := some 7, op := Op.fieldAddr 29 (Operand.tmp 2) 0, type := 0, pos := "law.go:133", after := #[{ on := 6, ground := Ground.gcOnly Departure.lateStores }], guard := none }) (v := .pointer (some ⟨XB, 0, none⟩)) rfl (by kernel_rfl) (by kernel_rfl) (by kernel_rfl) (fun _ _ _ h => h) (Or.inl ⟨by rfl, fun w' h => by go_simp⟩) hH ?_
  try simp only [Act.put, List.setIfInBounds_toArray, List.set_cons_zero, List.set_cons_succ]
  refine wpAnyH_take (i := 2) (oi := { dst := some 8, op := Op.load 27 (Operand.tmp 7), type := 27, pos := "law.go:133", after := #[{ on := 1, ground := Ground.data }, { on := 6, ground := Ground.gcOnly Departure.lateStores }], guard := none }) (v := .agg (csL fresh).toArray) rfl (by kernel_rfl) (by kernel_rfl) (by kernel_rfl) (fun _ _ _ h => h) (yieldsIf_load_mid (by rfl) _ _ rfl XB 0 rfl (csL fresh) _ (fun w' h => by obtain ⟨zs, h⟩ := h; exact pr_c (h.at 1 rfl)) hu2 rfl hi2) hH ?_
  try simp only [Act.put, List.setIfInBounds_toArray, List.set_cons_zero, List.set_cons_succ]
  refine wpAnyH_take (i := 3) (oi := { dst := some 9, op := Op.fieldAddr 29 (Operand.tmp 2) 1, type := 0, pos := "law.go:133", after := #[{ on := 6, ground := Ground.gcOnly Departure.lateStores }], guard := none }) (v := .pointer (some ⟨XB, 15, none⟩)) rfl (by kernel_rfl) (by kernel_rfl) (by kernel_rfl) (fun _ _ _ h => h) (Or.inl ⟨by rfl, fun w' h => by go_simp⟩) hH ?_
  try simp only [Act.put, List.setIfInBounds_toArray, List.set_cons_zero, List.set_cons_succ]
  refine wpAnyH_take (i := 4) (oi := { dst := some 10, op := Op.load 27 (Operand.tmp 9), type := 27, pos := "law.go:133", after := #[{ on := 3, ground := Ground.data }, { on := 6, ground := Ground.gcOnly Departure.lateStores }], guard := none }) (v := .agg (csL fresh).toArray) rfl (by kernel_rfl) (by kernel_rfl) (by kernel_rfl) (fun _ _ _ h => h) (yieldsIf_load_mid (by rfl) _ _ rfl XB 15 rfl (csL fresh) _ (fun w' h => by obtain ⟨zs, h⟩ := h; exact pr_r (h.at 1 rfl)) hu2 rfl hi2) hH ?_
  try simp only [Act.put, List.setIfInBounds_toArray, List.set_cons_zero, List.set_cons_succ]
  refine wpAnyH_take (i := 5) (oi := { dst := some 11, op := Op.binOp BinOp.eql 27 (Operand.tmp 8) (Operand.tmp 10) 27, type := 4, pos := "law.go:133", after := #[{ on := 2, ground := Ground.data }, { on := 4, ground := Ground.data }, { on := 6, ground := Ground.gcOnly Departure.lateStores }], guard := none }) (v := .bool true) rfl (by kernel_rfl) (by kernel_rfl) (by kernel_rfl) (fun _ _ _ h => h) (Or.inl ⟨by rfl, fun w' h => by go_simp⟩) hH ?_
  try simp only [Act.put, List.setIfInBounds_toArray, List.set_cons_zero, List.set_cons_succ]
  refine wpAnyH_ready (rs := [6]) (by kernel_rfl) (by simp) ?_
  refine AllReadyH.cons (o := { dst := none, op := Op.store 29 (Operand.tmp 0) (Operand.tmp 6), type := 0, pos := "law.go:133", after := #[{ on := 0, ground := Ground.data }, { on := 0, ground := Ground.phase }, { on := 1, ground := Ground.textOnly Departure.lateStores }, { on := 2, ground := Ground.textOnly Departure.lateStores }, { on := 3, ground := Ground.textOnly Departure.lateStores }, { on := 4, ground := Ground.textOnly Departure.lateStores }, { on := 5, ground := Ground.textOnly Departure.lateStores }], guard := none }) rfl (fun K hK => ?_) AllReadyH.nil
  refine op_putC (zs := prL ⟨0, false, 0, 0, 0, 0, 0, 0, 0, 0, 0, 0, 0, 0, 0⟩ ⟨0, false, 0, 0, 0, 0, 0, 0, 0, 0, 0, 0, 0, 0, 0⟩) (prL fresh fresh) rfl (sizePr _ _) (prL_one _ _) rfl _ _ rfl _ rfl rfl (hC.at 0 rfl) ?_
  intro wz nz gz
  have hZ := hC.store 0 rfl nz gz
  refine hK.out _ _ ⟨_, hZ⟩ (fun hH => ?_)
  simp only [Act.put]
  refine wpAnyH_take (i := 7) (oi := { dst := some 1, op := Op.assign (Operand.tmp 11), type := 4, pos := "law.go:133", after := #[{ on := 5, ground := Ground.data }, { on := 6, ground := Ground.chain }, { on := 0, ground := Ground.phase }, { on := 1, ground := Ground.phase }, { on := 2, ground := Ground.phase }, { on := 3, ground := Ground.phase }, { on := 4, ground := Ground.phase }, { on := 5, ground := Ground.phase }, { on := 6, ground := Ground.phase }], guard := none }) (v := .bool true) rfl (by kernel_rfl) (by kernel_rfl) (by kernel_rfl) (fun _ _ _ h => h) (Or.inl ⟨by rfl, fun w' h => by go_simp⟩) hH ?_
  try simp only [Act.put, List.setIfInBounds_toArray, List.set_cons_zero, List.set_cons_succ]
  refine wpAnyH_done (by kernel_rfl) ?_ _
  have NZ : Hid (Blk w.heap.size 29 (prL fresh fresh) wz) := nz
  have BZ : Hid (Below w.heap.size w wz) := hZ.bb
  clear hH hK gz hZ hC nz
  go_wp2_with fail
  refine ret_blk_tmp rfl rfl w.heap.size 29 (prL fresh fresh) _ rfl NZ.out Tryd.underlying29 rfl (sizePr _ _) ?_
  exact ⟨rfl, BZ.out⟩
end Go.Proofs.YtmbbigkpeefjjabDoor
