/-
  Ours: lockbox.readDetail.
-/
import Derived.Test.YtnjpmihffenkcaaDoorLbRln
import Derived.Deep.QuietTactic
import Derived.BigQuiet
import Derived.Deep.RegionHeld
namespace Go.Proofs.YtnjpmihffenkcaaDoor
open Go.RowKit LbM LbF
theorem ret_blk_tmp2 {P : Program} {fn : Func} {R : Ending → World → Prop} {a : Act} {w : World} {p u s : Tmp} {ty : TypeId} (h : fn.results = #[.cell p ty, .tmp u, .tmp s]) (hdf : a.defers = [])
    (g : Nat) (t : TypeId) (cs : List Value) (d : TypeDesc) (hp : a.tmps.getD p undef = .pointer (some ⟨g, 0, none⟩)) (hg : Blk g t cs w)
    (hu : P.underlying ty = some d) (hd : (match d with | .struct _ | .array _ _ => true | _ => false) = true) (hi : (P.info? ty).map (·.size) = some cs.length)
    (hR : R (.returned (.tuple #[.agg cs.toArray, a.tmps.getD u undef, a.tmps.getD s undef])) w) : bodyPost P fn R .ret a w := by
  refine bodyPost_ret_by ?_ hdf hR
  simp only [results, h]
  have hp' : a.tmps[p]?.getD undef = .pointer (some ⟨g, 0, none⟩) := by simpa using hp
  simp [hp', asAddr, Result.andThen, run_loadVar_row w g t ty cs.toArray (0, 0) d hg hu hd (by simpa using hi)]
theorem op_putC {ops : Array Oper} {op : Oper} {a : Act} {wr : World} {K : Act → World → Prop} {Q : Exit → Act → World → Prop} {E : Prop} {T : TypeId} {zs : List Value} (vs : List Value) (hl : vs.length = zs.length) (hi : (Tryd.prog.info? T).map (·.size) = some vs.length) (h1 : ∀ v ∈ vs, v.oneCell' = true) (hgd : op.guard = Option.none) (x y : Operand) (ho : op.op = .store T x y)
    (G : Nat) (hx : a.eval x = .pointer (some ⟨G, 0, Option.none⟩)) (hy : a.eval y = .agg vs.toArray) (hb : Blk G T zs wr)
    (h : ∀ w', Blk G T vs w' → wr.grownBy w' (some G) → K (a.put op.dst undef) w') : if Region.wanted op (yielded ops a.tmps) = true then Oper.wp Tryd.prog op a wr K Q else E := by
  have hwd : Region.wanted op (yielded ops a.tmps) = true := by simp [Region.wanted, hgd]
  rw [if_pos hwd]
  unfold Oper.wp execOp
  simp only [ho, hx, hy, Instr.storeAt, Instr.sureAddr, Sem.run_bind, Sem.run_pure, Result.andThen_ok, run_storeVar_blk wr G 0 T T zs vs hb (by omega) hi h1]
  have nb := setRow_heap wr G _ (zs.take 0 ++ vs ++ zs.drop (0 + vs.length)).toArray T _ hb
  have g := setRow_grown wr G (zs.take 0 ++ vs ++ zs.drop (0 + vs.length)).toArray
  have e : zs.take 0 ++ vs ++ zs.drop (0 + vs.length) = vs := by rw [Nat.zero_add, hl, List.drop_length]; simp
  rw [e] at nb g ⊢
  exact h _ nb g
abbrev fltV (c : Nat) (i : Nat) : Value := .iface 65 (.agg #[.int .i64 (c : Int), .int .i64 (i : Int)])
/-- What readDetail answers. -/
def DetAns (i : Nat) (bs : List Nat) (v : Value) (w : World) (e : Ending) (w' : World) : Prop := Below w.heap.size w w' ∧ match rdDet i bs with
  | .ok (x, r) => ∃ vr, e = .returned (.tuple #[.agg #[.int .i64 x.ln, .int .i64 x.am], vr, .nilIface]) ∧ ∀ w0, RdB w0 v bs → RdB w0 vr r
  | .error c => e = .returned (.tuple #[.agg #[.int .i64 0, .int .i64 0], .slice none 0 0, fltV c i])
theorem cell_up2 {w w' : World} {x : Addr} {v : Value} (b : Below w.heap.size w w') (h : w.cell? x = some v) : w'.cell? x = some v := (b.cell (World.block_lt_of_cell? _ _ h)).trans h
theorem rowL_at {base : Nat} {w : World} {v : Value} {ns : List Nat} (h : RowV 2 base w v (nvL ns)) (h0 : 0 < ns.length) : ∃ g cap, v = .slice (some ⟨g, 0, none⟩) ns.length cap ∧ base ≤ g ∧ ∀ (i x : Nat), ns[i]? = some x → w.cell? ⟨g, i, none⟩ = some (.int .i64 (x : Int)) := by
  obtain ⟨g, cap, e, h1, h2, h3⟩ := RowV.own h (by rw [List.length_map]; exact h0)
  subst e
  rw [List.length_map] at h1
  refine ⟨g, cap, by rw [List.length_map], h.block_ge rfl, fun i x hx => ?_⟩
  obtain ⟨hi, rfl⟩ := List.getElem?_eq_some_iff.1 hx
  rw [h2 i (by rw [List.length_map]; exact hi), List.getElem_map]
  rfl
set_option maxRecDepth 20000 in
set_option maxHeartbeats 8000000 in
theorem readDetail_at (i : Nat) (bs : List Nat) (v : Value) (w : World) (hw : FormW w) (tp : TabP w) (hl : bs.length ≤ 1000000) (h : RdB w v bs) (h8 : ∀ x ∈ bs, x < 256) : Calls Tryd.prog 63 #[v, .int .i64 (i : Int)] w (DetAns i bs v w) := by
  have bal : Below w.heap.size w (w.alloc (.cells #[.int .i64 0, .int .i64 0] 43)) := below_alloc w _
  have RL : Hid (∀ w', Below w.heap.size w w' → Calls Tryd.prog 60 #[v, .int .i64 1] w' (LinAns 1 bs v w')) := fun w' q => readLine_at 1 (by decide) bs v w' (hw.later q) hl (Rd.later h q) h8
  have CN : Hid (∀ (N : Nat) (w' : World), N ≤ 999999 → Below w.heap.size w w' → Calls Tryd.prog 36 #[.int .i64 (N : Int)] w' fun e w2 => e = .returned (.tuple #[.int .i64 ((cd6 N : Nat) : Int), .bool true]) ∧ Below w'.heap.size w' w2) := fun N w' hN q => checkNum_at N hN w' (tp.below q)
  have W0 : Hid (Blk w.heap.size 43 [.int .i64 0, .int .i64 0] (w.alloc (.cells #[.int .i64 0, .int .i64 0] 43)) ∧ Below w.heap.size w (w.alloc (.cells #[.int .i64 0, .int .i64 0] 43))) := ⟨Blk.new 43 [.int .i64 0, .int .i64 0] w, bal⟩
  generalize hans : DetAns i bs v w = ANS
  have HA : Hid (DetAns i bs v w = ANS) := hans
  clear h hw tp hl h8 bal hans
  go_enter Tryd.func63, Tryd.ntmps63
  go_upto_region 1 with fail
  generalize w.alloc (.cells #[.int .i64 0, .int .i64 0] 43) = w1 at *
  go_wp2_with fail
  refine (RL.out w1 W0.out.2).mono ?_
  rintro e w2 ⟨b2, hm⟩
  have W2 : Hid (Blk w.heap.size 43 [.int .i64 0, .int .i64 0] w2 ∧ Below w.heap.size w w2) := ⟨W0.out.1.below b2, below_trans W0.out.2 b2⟩
  clear b2
  cases hq : rdL 1 bs with
  | none =>
    rw [hq] at hm
    subst hm
    have HD : Hid (rdDet i bs = .error 200) := by show _ = _; unfold rdDet; rw [hq]
    clear hq
    go_wp2_with (refine step_store rfl 43 _ _ rfl w.heap.size 0 43 [.int .i64 0, .int .i64 0] [.int .i64 0, .int .i64 0] rfl rfl W2.out.1 (Nat.le_refl _) (sizeIt ⟨0, 0⟩) (oneIt ⟨0, 0⟩) ?_; intro w5 nb5 g5)
    refine ret_blk_tmp2 rfl rfl w.heap.size 43 [.int .i64 0, .int .i64 0] _ rfl nb5 Tryd.underlying43 rfl (sizeIt ⟨0, 0⟩) ?_
    rw [← HA.out]
    refine ⟨below_row W2.out.2 g5 (Nat.le_refl _), ?_⟩
    rw [HD.out]
    rfl
  | some p =>
    obtain ⟨ns, r⟩ := p
    rw [hq] at hm
    obtain ⟨va, vr, rfl, rown, rrd⟩ := hm
    obtain ⟨eb, hfit⟩ := rdL_iff.1 hq
    obtain ⟨s, l, c, a, rfl, hs, hll, hc, ha⟩ := four (w1 := 4) (w2 := 6) (w3 := 1) (w4 := 12) hfit
    have HQ : Hid (rdL 1 bs = some ([s, l, c, a], r)) := hq
    obtain ⟨g, cap, rfl, hbg, hcell⟩ := rowL_at rown (by simp)
    have k0 := hcell 0 s rfl
    have k1 := hcell 1 l rfl
    have k2 := hcell 2 c rfl
    have k3 := hcell 3 a rfl
    have W3 : Hid (Blk w.heap.size 43 [.int .i64 0, .int .i64 0] w2 ∧ Below w.heap.size w w2 ∧ ∀ w0, RdB w0 v bs → RdB w0 vr r) := ⟨W2.out.1, W2.out.2, rrd⟩
    have l63 : l ≤ 999999 := by omega
    have s63 : s ≤ 9999 := by omega
    have c63 : c ≤ 9 := by omega
    have a63 : a ≤ 999999999999 := by omega
    clear rown rrd eb hfit hq hcell hs hll hc ha W2
    go_wp2_with fail
    go_quiet (fail)
    have W4 : Hid (Blk w.heap.size 43 [.int .i64 0, .int .i64 0] (w2.drewN nq) ∧ Below w.heap.size w (w2.drewN nq) ∧ (w2.drewN nq).cell? ⟨g, 1, none⟩ = some (.int .i64 (l : Int)) ∧ (w2.drewN nq).cell? ⟨g, 3, none⟩ = some (.int .i64 (a : Int))) := ⟨W3.out.1.drewN nq, below_drewN W3.out.2.1 nq, k1, k3⟩
    have RR : Hid (∀ w0, RdB w0 v bs → RdB w0 vr r) := W3.out.2.2
    clear W3 k0 k1 k2 k3
    generalize w2.drewN nq = w4 at *
    go_upto_region 5 with fail
    refine wp_region_held_drew (S := fun w' => w'.cell? ⟨g, 1, none⟩ = some (.int .i64 (l : Int)) ∧ w'.cell? ⟨g, 3, none⟩ = some (.int .i64 (a : Int))) (by kernel_rfl) (⟨W4.out.2.2.1, W4.out.2.2.2⟩) (fun hH => ?_)
    refine wpAnyH_take (i := 0) (oi := { dst := some 33, op := Op.move (Operand.tmp 7), type := 79, pos := "batch.go:105", after := #[], guard := none }) (v := .slice (some ⟨g, 0, none⟩) 4 cap) rfl (by kernel_rfl) (by kernel_rfl) (by kernel_rfl) (fun _ _ _ h => h) (Or.inl ⟨by rfl, fun w' hs => by go_simp⟩) hH ?_
    try simp only [Act.put, List.setIfInBounds_toArray, List.set_cons_zero, List.set_cons_succ]
    refine wpAnyH_take (i := 1) (oi := { dst := some 34, op := Op.indexAddr 79 (Operand.tmp 33) (Operand.const (Value.int IntKind.i64 1)), type := 0, pos := "batch.go:105", after := #[{ on := 0, ground := Ground.data }], guard := none }) (v := .pointer (some ⟨g, 1, none⟩)) rfl (by kernel_rfl) (by kernel_rfl) (by kernel_rfl) (fun _ _ _ h => h) (Or.inl ⟨by rfl, fun w' hs => by go_simp⟩) hH ?_
    try simp only [Act.put, List.setIfInBounds_toArray, List.set_cons_zero, List.set_cons_succ]
    refine wpAnyH_take (i := 2) (oi := { dst := some 35, op := Op.load 2 (Operand.tmp 34), type := 2, pos := "batch.go:105", after := #[{ on := 1, ground := Ground.data }], guard := none }) (v := .int .i64 (l : Int)) rfl (by kernel_rfl) (by kernel_rfl) (by kernel_rfl) (fun _ _ _ h => h) (Or.inl ⟨by rfl, fun w' hs => by have c := hs.1; go_simp⟩) hH ?_
    try simp only [Act.put, List.setIfInBounds_toArray, List.set_cons_zero, List.set_cons_succ]
    refine wpAnyH_take (i := 3) (oi := { dst := some 36, op := Op.move (Operand.tmp 7), type := 79, pos := "batch.go:105", after := #[], guard := none }) (v := .slice (some ⟨g, 0, none⟩) 4 cap) rfl (by kernel_rfl) (by kernel_rfl) (by kernel_rfl) (fun _ _ _ h => h) (Or.inl ⟨by rfl, fun w' hs => by go_simp⟩) hH ?_
    try simp only [Act.put, List.setIfInBounds_toArray, List.set_cons_zero, List.set_cons_succ]
    refine wpAnyH_take (i := 4) (oi := { dst := some 37, op := Op.indexAddr 79 (Operand.tmp 36) (Operand.const (Value.int IntKind.i64 3)), type := 0, pos := "batch.go:105", after := #[{ on := 3, ground := Ground.data }], guard := none }) (v := .pointer (some ⟨g, 3, none⟩)) rfl (by kernel_rfl) (by kernel_rfl) (by kernel_rfl) (fun _ _ _ h => h) (Or.inl ⟨by rfl, fun w' hs => by go_simp⟩) hH ?_
    try simp only [Act.put, List.setIfInBounds_toArray, List.set_cons_zero, List.set_cons_succ]
    refine wpAnyH_take (i := 5) (oi := { dst := some 38, op := Op.load 2 (Operand.tmp 37), type := 2, pos := "batch.go:105", after := #[{ on := 4, ground := Ground.data }], guard := none }) (v := .int .i64 (a : Int)) rfl (by kernel_rfl) (by kernel_rfl) (by kernel_rfl) (fun _ _ _ h => h) (Or.inl ⟨by rfl, fun w' hs => by have c := hs.2; go_simp⟩) hH ?_
    try simp only [Act.put, List.setIfInBounds_toArray, List.set_cons_zero, List.set_cons_succ]
    refine wpAnyH_take (i := 6) (oi := { dst := some 39, op := Op.build 43 #[(0, Operand.tmp 35), (1, Operand.tmp 38)], type := 43, pos := "batch.go:105", after := #[{ on := 2, ground := Ground.data }, { on := 5, ground := Ground.data }], guard := none }) (v := .agg #[.int .i64 (l : Int), .int .i64 (a : Int)]) rfl (by kernel_rfl) (by kernel_rfl) (by kernel_rfl) (fun _ _ _ h => h) (Or.inl ⟨by rfl, fun w' hs => by go_simp⟩) hH ?_
    try simp only [Act.put, List.setIfInBounds_toArray, List.set_cons_zero, List.set_cons_succ]
    refine wpAnyH_ready (rs := [7]) (by kernel_rfl) (by simp) ?_
    refine AllReadyH.cons (o := { dst := some 12, op := Op.alloc 43, type := 0, pos := "batch.go:105", after := #[], guard := none }) rfl (fun Kx hK => ?_) AllReadyH.nil
    go_simp
    refine hK.out _ _ ⟨cell_up2 (below_trans (Below.drew (Below.refl _ _)) (below_alloc _ _)) W4.out.2.2.1, cell_up2 (below_trans (Below.drew (Below.refl _ _)) (below_alloc _ _)) W4.out.2.2.2⟩ (fun hH => ?_)
    try simp only [Act.put, List.setIfInBounds_toArray, List.set_cons_zero, List.set_cons_succ]
    refine wpAnyH_ready (rs := [8]) (by kernel_rfl) (by simp) ?_
    refine AllReadyH.cons (o := { dst := none, op := Op.store 43 (Operand.tmp 12) (Operand.tmp 39), type := 0, pos := "batch.go:105", after := #[{ on := 7, ground := Ground.data }, { on := 6, ground := Ground.data }, { on := 0, ground := Ground.phase }, { on := 1, ground := Ground.phase }, { on := 2, ground := Ground.phase }, { on := 3, ground := Ground.phase }, { on := 4, ground := Ground.phase }, { on := 5, ground := Ground.phase }, { on := 6, ground := Ground.phase }, { on := 7, ground := Ground.phase }], guard := none }) rfl (fun Kx hK => ?_) AllReadyH.nil
    refine op_putC (zs := [.int .i64 0, .int .i64 0]) [.int .i64 (l : Int), .int .i64 (a : Int)] rfl (sizeIt ⟨0, 0⟩) (oneIt ⟨(l : Int), (a : Int)⟩) rfl _ _ rfl w4.heap.size rfl rfl (Blk.new 43 [.int .i64 0, .int .i64 0] w4.drew) ?_
    intro w5 nb5 g5
    refine hK.out _ _ ⟨cell_up2 (below_row (below_alloc w4.drew (.cells #[.int .i64 0, .int .i64 0] 43)) g5 (Nat.le_refl _)) W4.out.2.2.1, cell_up2 (below_row (below_alloc w4.drew (.cells #[.int .i64 0, .int .i64 0] 43)) g5 (Nat.le_refl _)) W4.out.2.2.2⟩ (fun hH => ?_)
    try simp only [Act.put]
    refine wpAnyH_done (by kernel_rfl) ?_ _
    have b5 : Below w4.heap.size w4 w5 := below_row (below_trans (Below.drew (Below.refl _ _)) (below_alloc w4.drew (.cells #[.int .i64 0, .int .i64 0] 43))) g5 (Nat.le_refl _)
    have W5 : Hid (Blk w4.heap.size 43 [.int .i64 (l : Int), .int .i64 (a : Int)] w5 ∧ Blk w.heap.size 43 [.int .i64 0, .int .i64 0] w5 ∧ Below w.heap.size w w5) := ⟨nb5, W4.out.1.below b5, below_trans W4.out.2.1 b5⟩
    have c0 := W5.out.1.cell 0 _ rfl
    have c1 := W5.out.1.cell 1 _ rfl
    clear nb5 g5 b5 hH W4
    have HDQ : Hid (rdDet i bs = if l = 0 ∨ a = 0 then .error 200 else if c ≠ cd6 l then .error 201 else if s ≠ i then .error 202 else .ok ((⟨(l : Int), (a : Int)⟩ : It), r)) := by show _ = _; unfold rdDet; rw [HQ.out]
    obtain ⟨dn, hdn⟩ : ∃ dn, w4.heap.size = dn := ⟨_, rfl⟩
    clear hdn
    by_cases hl0 : (l : Int) = 0
    · have e0 : ((l : Int) == 0) = true := by simp [hl0]
      have NO : Hid (rdDet i bs = .error 200) := by show _ = _; rw [HDQ.out, if_pos (.inl (by omega))]
      clear hl0
      go_wp2_with (refine step_store rfl 43 _ _ rfl w.heap.size 0 43 [.int .i64 0, .int .i64 0] [.int .i64 0, .int .i64 0] rfl rfl W5.out.2.1 (Nat.le_refl _) (sizeIt ⟨0, 0⟩) (oneIt ⟨0, 0⟩) ?_; intro w7 nb7 g7)
      refine ret_blk_tmp2 rfl rfl w.heap.size 43 [.int .i64 0, .int .i64 0] _ rfl nb7 Tryd.underlying43 rfl (sizeIt ⟨0, 0⟩) ?_
      rw [← HA.out]
      refine ⟨below_row W5.out.2.2 g7 (Nat.le_refl _), ?_⟩
      rw [NO.out]
      rfl
    · by_cases ha0 : (a : Int) = 0
      · have e0 : ((l : Int) == 0) = false := by simp; omega
        have e1 : ((a : Int) == 0) = true := by simp [ha0]
        have NO : Hid (rdDet i bs = .error 200) := by show _ = _; rw [HDQ.out, if_pos (.inr (by omega))]
        clear ha0 hl0
        go_wp2_with (refine step_store rfl 43 _ _ rfl w.heap.size 0 43 [.int .i64 0, .int .i64 0] [.int .i64 0, .int .i64 0] rfl rfl W5.out.2.1 (Nat.le_refl _) (sizeIt ⟨0, 0⟩) (oneIt ⟨0, 0⟩) ?_; intro w7 nb7 g7)
        refine ret_blk_tmp2 rfl rfl w.heap.size 43 [.int .i64 0, .int .i64 0] _ rfl nb7 Tryd.underlying43 rfl (sizeIt ⟨0, 0⟩) ?_
        rw [← HA.out]
        refine ⟨below_row W5.out.2.2 g7 (Nat.le_refl _), ?_⟩
        rw [NO.out]
        rfl
      · have e0 : ((l : Int) == 0) = false := by simp; omega
        have e1 : ((a : Int) == 0) = false := by simp; omega
        have HLA : Hid (¬ (l = 0 ∨ a = 0)) := by show ¬ _; omega
        clear hl0 ha0
        go_wp2_with fail
        refine (CN.out l w5 l63 W5.out.2.2).mono ?_
        rintro e w6 ⟨rfl, b6⟩
        have W6 : Hid (Blk w4.heap.size 43 [.int .i64 (l : Int), .int .i64 (a : Int)] w6 ∧ Blk w.heap.size 43 [.int .i64 0, .int .i64 0] w6 ∧ Below w.heap.size w w6) := ⟨W5.out.1.below b6, W5.out.2.1.below b6, below_trans W5.out.2.2 b6⟩
        clear b6 W5 c0 c1
        by_cases hcd : c = cd6 l
        · have e2 : ((c : Int) != ((cd6 l : Nat) : Int)) = false := by rw [hcd]; simp
          have HCD : Hid (c = cd6 l) := hcd
          clear hcd
          by_cases hsi : s = i
          · have e3 : ((s : Int) != (i : Int)) = false := by rw [hsi]; simp
            have YES : Hid (rdDet i bs = .ok ((⟨(l : Int), (a : Int)⟩ : It), r)) := by show _ = _; rw [HDQ.out, if_neg HLA.out, if_neg (by simpa using HCD.out), if_neg (by simpa using hsi)]
            clear hsi HCD HLA
            generalize cd6 l = cdl at *
            go_wp2_with (first
              | (refine step_load rfl 43 _ rfl w4.heap.size 0 rfl [.int .i64 (l : Int), .int .i64 (a : Int)] _ (Blk.all W6.out.1) Tryd.underlying43 rfl (sizeIt ⟨0, 0⟩) ?_)
              | (refine step_store rfl 43 _ _ rfl w.heap.size 0 43 [.int .i64 0, .int .i64 0] [.int .i64 (l : Int), .int .i64 (a : Int)] rfl rfl W6.out.2.1 (Nat.le_refl _) (sizeIt ⟨0, 0⟩) (oneIt ⟨(l : Int), (a : Int)⟩) ?_; intro w7 nb7 g7))
            refine ret_blk_tmp2 rfl rfl w.heap.size 43 [.int .i64 (l : Int), .int .i64 (a : Int)] _ rfl nb7 Tryd.underlying43 rfl (sizeIt ⟨0, 0⟩) ?_
            rw [← HA.out]
            refine ⟨below_row W6.out.2.2 g7 (Nat.le_refl _), ?_⟩
            rw [YES.out]
            exact ⟨_, rfl, RR.out⟩
          · have e3 : ((s : Int) != (i : Int)) = true := by simp; omega
            have NO : Hid (rdDet i bs = .error 202) := by show _ = _; rw [HDQ.out, if_neg HLA.out, if_neg (by simpa using HCD.out), if_pos hsi]
            clear hsi HCD HLA
            generalize cd6 l = cdl at *
            go_wp2_with (refine step_store rfl 43 _ _ rfl w.heap.size 0 43 [.int .i64 0, .int .i64 0] [.int .i64 0, .int .i64 0] rfl rfl W6.out.2.1 (Nat.le_refl _) (sizeIt ⟨0, 0⟩) (oneIt ⟨0, 0⟩) ?_; intro w7 nb7 g7)
            refine ret_blk_tmp2 rfl rfl w.heap.size 43 [.int .i64 0, .int .i64 0] _ rfl nb7 Tryd.underlying43 rfl (sizeIt ⟨0, 0⟩) ?_
            rw [← HA.out]
            refine ⟨below_row W6.out.2.2 g7 (Nat.le_refl _), ?_⟩
            rw [NO.out]
            rfl
        · have e2 : ((c : Int) != ((cd6 l : Nat) : Int)) = true := by simp; omega
          have NO : Hid (rdDet i bs = .error 201) := by show _ = _; rw [HDQ.out, if_neg HLA.out, if_pos hcd]
          clear hcd HLA
          generalize cd6 l = cdl at *
          go_wp2_with (refine step_store rfl 43 _ _ rfl w.heap.size 0 43 [.int .i64 0, .int .i64 0] [.int .i64 0, .int .i64 0] rfl rfl W6.out.2.1 (Nat.le_refl _) (sizeIt ⟨0, 0⟩) (oneIt ⟨0, 0⟩) ?_; intro w7 nb7 g7)
          refine ret_blk_tmp2 rfl rfl w.heap.size 43 [.int .i64 0, .int .i64 0] _ rfl nb7 Tryd.underlying43 rfl (sizeIt ⟨0, 0⟩) ?_
          rw [← HA.out]
          refine ⟨below_row W6.out.2.2 g7 (Nat.le_refl _), ?_⟩
          rw [NO.out]
          rfl
end Go.Proofs.YtnjpmihffenkcaaDoor
