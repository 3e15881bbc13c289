/-
  Ours: newest (gen_jounew.py: THE SEAT's OWN NUMBERS).
-/
import Derived.Test.YtcmfehabcklbpaaDoorJouBoth
import Derived.Deep.RegionHeld
namespace Go.Proofs.YtcmfehabcklbpaaDoor
open Go.RowKit JM

namespace JM
abbrev Hd := Nat × Nat × List Nat × Nat
/-- One file more: its header, if it has one, wins with a greater epoch. -/
def nwS (r : Option Hd) (k : Nat) (h : Option (Nat × List Nat × Nat)) : Option Hd := match h with
  | none => r
  | some (ep, sn, n) => match r with
    | none => some (k, ep, sn, n)
    | some (f, e0, s0, n0) => if e0 < ep then some (k, ep, sn, n) else some (f, e0, s0, n0)
def newest (b0 b1 : List Nat) : Option Hd := nwS (nwS none 0 (hdF b0)) 1 (hdF b1)
def fileOf (r : Option Hd) : Nat := match r with
  | none => 0
  | some (f, _) => f
end JM
/-- The newest header so far, as it lies. -/
def HdIs (base : Nat) (r : Option Hd) (hv : List Value) (w : World) : Prop := match r with
  | none => hv = hdZ
  | some (_, ep, sn, n) => ∃ a c, hv = hdL ep (.slice a sn.length c) n ∧ OwnT base w (.slice a sn.length c) sn
structure NS (w : World) (r : Option Hd) (hv : List Value) (wr : World) : Prop where
  b : Below w.heap.size w wr
  k : Blk (w.heap.size + 1) 88 hv wr
  v : HdIs (w.heap.size + 2) r hv wr
theorem HdIs.later {base : Nat} {r : Option Hd} {hv : List Value} {w w' : World} (h : HdIs base r hv w) (hb : Below w.heap.size w w') : HdIs base r hv w' := by
  unfold HdIs at *
  split
  · exact h
  · obtain ⟨a, c, e, o⟩ := h; exact ⟨a, c, e, o.later hb⟩
theorem HdIs.kept {base g : Nat} {r : Option Hd} {hv : List Value} {w w' : World} (h : HdIs base r hv w) (hg : w.grownBy w' (some g)) (hne : ∀ x p, OwnT base w x p → x.ownBlock ≠ some g) : HdIs base r hv w' := by
  unfold HdIs at *
  split
  · exact h
  · obtain ⟨a, c, e, o⟩ := h; exact ⟨a, c, e, o.kept hg (fun g' hg' e' => by injection e' with e'; subst e'; exact hne _ _ o hg')⟩
theorem NS.later {w wr w1 : World} {r : Option Hd} {hv : List Value} (h : NS w r hv wr) (hb : Below wr.heap.size wr w1) : NS w r hv w1 := ⟨below_trans h.b hb, h.k.below hb, h.v.later hb⟩
theorem NS.new {w wr w1 : World} {r : Option Hd} {hv : List Value} (h : NS w r hv wr) (o : Obj) (hg : (wr.alloc o).grownBy w1 (some wr.heap.size)) : NS w r hv w1 := by
  have h1 : NS w r hv (wr.alloc o) := h.later (below_alloc _ _)
  have lt := h.k.lt
  have hs := h.b.size
  have hv0 : HdIs (w.heap.size + 2) r hv w1 := by
    have h2 := h.v
    unfold HdIs at *
    split
    · exact h2
    · obtain ⟨a, c, e, o'⟩ := h2
      exact ⟨a, c, e, (o'.later (below_alloc _ _)).kept hg (fun g' hg' e' => by injection e' with e'; have := o'.block_lt hg'; omega)⟩
  exact ⟨below_row h1.b hg (by omega), h1.k.grown hg (by omega), hv0⟩
theorem hv_len {base : Nat} {r : Option Hd} {hv : List Value} {w : World} (h : HdIs base r hv w) : hv.length = 3 ∧ ∀ v ∈ hv, v.oneCell' = true := by
  unfold HdIs at h
  split at h
  · subst h; exact ⟨rfl, hdZ_one⟩
  · obtain ⟨a, c, rfl, -⟩ := h; exact ⟨rfl, hdL_one _ _ _ _ _⟩
theorem infoHd : (Tryd.prog.info? 88).map (·.size) = some 3 := by kernel_rfl
theorem hv_info {hv : List Value} (h : hv.length = 3) : (Tryd.prog.info? 88).map (·.size) = some hv.length := by rw [h]; exact infoHd
theorem ret_tmp_blk_tmp {P : Program} {fn : Func} {R : Ending → World → Prop} {a : Act} {w : World} {s p u : Tmp} {ty : TypeId} (h : fn.results = #[.tmp s, .cell p ty, .tmp u]) (hdf : a.defers = [])
    (g : Nat) (t : TypeId) (cs : List Value) (d : TypeDesc) (hp : a.tmps.getD p undef = .pointer (some ⟨g, 0, none⟩)) (hg : Blk g t cs w)
    (hu : P.underlying ty = some d) (hd : (match d with | .struct _ | .array _ _ => true | _ => false) = true) (hi : (P.info? ty).map (·.size) = some cs.length)
    (hR : R (.returned (.tuple #[a.tmps.getD s undef, .agg cs.toArray, a.tmps.getD u undef])) w) : bodyPost P fn R .ret a w := by
  refine bodyPost_ret_by ?_ hdf hR
  simp only [results, h]
  have hp' : a.tmps[p]?.getD undef = .pointer (some ⟨g, 0, none⟩) := by simpa using hp
  simp [hp', asAddr, Result.andThen, run_loadVar_row w g t ty cs.toArray (0, 0) d hg hu hd (by simpa using hi)]
theorem op_putJ {ops : Array Oper} {op : Oper} {a : Act} {wr : World} {K : Act → World → Prop} {Q : Exit → Act → World → Prop} {E : Prop} {T : TypeId} {zs : List Value} (vs : List Value) (hl : vs.length = zs.length) (hi : (Tryd.prog.info? T).map (·.size) = some vs.length) (h1 : ∀ v ∈ vs, v.oneCell' = true) (hgd : op.guard = Option.none) (x y : Operand) (ho : op.op = .store T x y)
    (G : Nat) (hx : a.eval x = .pointer (some ⟨G, 0, Option.none⟩)) (hy : a.eval y = .agg vs.toArray) (hb : Blk G T zs wr)
    (h : ∀ w', Blk G T vs w' → wr.grownBy w' (some G) → K (a.put op.dst undef) w') : if Region.wanted op (yielded ops a.tmps) = true then Oper.wp Tryd.prog op a wr K Q else E := by
  have hwd : Region.wanted op (yielded ops a.tmps) = true := by simp [Region.wanted, hgd]
  rw [if_pos hwd]
  unfold Oper.wp execOp
  simp only [ho, hx, hy, Instr.storeAt, Instr.sureAddr, Sem.run_bind, Sem.run_pure, Result.andThen_ok, run_storeVar_blk wr G 0 T T zs vs hb (by omega) hi h1]
  have nb := setRow_heap wr G _ (zs.take 0 ++ vs ++ zs.drop (0 + vs.length)).toArray T _ hb
  have g := setRow_grown wr G (zs.take 0 ++ vs ++ zs.drop (0 + vs.length)).toArray
  have e : zs.take 0 ++ vs ++ zs.drop (0 + vs.length) = vs := by rw [Nat.zero_add, hl, List.drop_length]; simp
  rw [e] at nb g ⊢
  exact h _ nb g

theorem two_under : Tryd.prog.underlying 83 = some (.array 2 22) := by kernel_rfl
theorem one_under : Tryd.prog.underlying 22 = some (.slice 5) := by kernel_rfl
theorem one_info : (Tryd.prog.info? 22).map (·.size) = some 1 := by kernel_rfl
/-- What newest answers. -/
def NwAns (w : World) (r : Option Hd) (e : Ending) (w' : World) : Prop := Below w.heap.size w w' ∧ ∃ hv, e = .returned (.tuple #[.int .i64 ((fileOf r : Nat) : Int), .agg hv.toArray, .bool r.isSome]) ∧ HdIs w.heap.size r hv w'
theorem HdIs.mono {base base' : Nat} {r : Option Hd} {hv : List Value} {w : World} (h : HdIs base r hv w) (hb : base' ≤ base) : HdIs base' r hv w := by
  unfold HdIs at *
  split
  · exact h
  · obtain ⟨a, c, e, o⟩ := h; exact ⟨a, c, e, o.mono hb⟩
def nwK (b0 b1 : List Nat) : Nat → Option Hd
  | 0 => none
  | 1 => nwS none 0 (hdF b0)
  | _ => newest b0 b1

set_option maxRecDepth 100000 in
set_option maxHeartbeats 2000000 in
theorem newest_at (b0 b1 : List Nat) (a0 a1 : Option Addr) (c0 c1 : Nat) (w : World) (hb0 : ∀ b ∈ b0, b < 256) (hb1 : ∀ b ∈ b1, b < 256) (hl0 : b0.length ≤ 1000000000000) (hl1 : b1.length ≤ 1000000000000) (h0 : RdB w (.slice a0 b0.length c0) b0) (h1 : RdB w (.slice a1 b1.length c1) b1) (hT : TabS w) :
    Calls Tryd.prog 45 #[.agg #[.slice a0 b0.length c0, .slice a1 b1.length c1]] w (NwAns w (newest b0 b1)) := by
  have RH0 : Hid (∀ w1, Below w.heap.size w w1 → Calls Tryd.prog 50 #[.slice a0 b0.length c0] w1 (HdAns w1 (hdF b0))) := fun w1 hb => readHeader_at b0 _ w1 hb0 hl0 (h0.later hb) (hT.below hb)
  have RH1 : Hid (∀ w1, Below w.heap.size w w1 → Calls Tryd.prog 50 #[.slice a1 b1.length c1] w1 (HdAns w1 (hdF b1))) := fun w1 hb => readHeader_at b1 _ w1 hb1 hl1 (h1.later hb) (hT.below hb)
  have N0 : Hid (NS w none hdZ ((w.alloc (.cells #[.slice a0 b0.length c0, .slice a1 b1.length c1] 83)).alloc (.cells #[.int .i64 0, .slice none 0 0, .int .i64 0] 88))) := ⟨below_trans (below_alloc _ _) (below_alloc _ _), Blk.new2 88 hdZ w _, rfl⟩
  clear h0 h1 hT hb0 hb1 hl0 hl1
  have ix0 : ∀ w, (Instr.index 83 (.agg #[.slice a0 b0.length c0, .slice a1 b1.length c1]) (.int .i64 0)).run Tryd.prog w = .ok (.slice a0 b0.length c0) w := fun w => run_index_one 83 22 2 (.slice 5) _ 0 _ two_under (by omega) one_under rfl one_info rfl w
  have ix1 : ∀ w, (Instr.index 83 (.agg #[.slice a0 b0.length c0, .slice a1 b1.length c1]) (.int .i64 1)).run Tryd.prog w = .ok (.slice a1 b1.length c1) w := fun w => run_index_one 83 22 2 (.slice 5) _ 1 _ two_under (by omega) one_under rfl one_info rfl w
  unfold NwAns
  go_enter Tryd.func45, Tryd.ntmps45
  go_wp2_with fail
  go_loopw [2, 4, 10] (fun vf vb vk wr => ∃ k : Nat, vk = .int .i64 (k : Int) ∧ k ≤ 2 ∧ ∃ R hv, vf = .int .i64 ((fileOf R : Nat) : Int) ∧ vb = .bool R.isSome ∧ Hid (R = nwK b0 b1 k) ∧ Hid (NS w R hv wr)) (fun _ _ vk _ => 2 - (intOf vk).toNat)
  case atStart => exact ⟨0, rfl, by omega, none, hdZ, rfl, rfl, rfl, N0⟩
  case round =>
    obtain ⟨k, rfl, hk, R, hv, rfl, rfl, HR, HN⟩ := hrel
    clear N0
    obtain rfl | rfl | rfl : k = 0 ∨ k = 1 ∨ k = 2 := by omega
    · have RHk : Hid (Calls Tryd.prog 50 #[.slice a0 b0.length c0] wr (HdAns wr (hdF b0))) := RH0.out wr HN.out.b
      cases hh : hdF b0 with
      | none =>
        rw [hh] at RHk
        go_wp2_with fail
        refine RHk.out.mono ?_
        rintro e w1 ⟨b1, rfl⟩
        have N1 : Hid (NS w R hv w1) := HN.out.later b1
        clear b1 HN RHk RH0 RH1
        go_wp2_with (first
          | ((with_reducible refine at_store ?_); refine step_store rfl 88 _ _ rfl w1.heap.size 0 88 hdZ hdZ rfl rfl (Blk.new 88 hdZ w1) (Nat.le_refl _) rfl hdZ_one ?_; intro w2 nb g2; have N2 : Hid (NS w R hv w2) := N1.out.new _ g2; clear nb g2 N1))
        go_roundw
        case rel => exact ⟨1, by go_num, by omega, R, hv, rfl, rfl, by show _ = _; rw [HR.out]; simp only [nwK, hh, nwS], N2⟩
        case measure => simp [intOf]

      | some q =>
        obtain ⟨ep, sn, n⟩ := q
        rw [hh] at RHk
        have hR0 : R = none := HR.out
        subst hR0
        obtain rfl : hv = hdZ := HN.out.v
        have HR1 : Hid (some (0, ep, sn, n) = nwK b0 b1 1) := by show _ = _; simp only [nwK, hh, nwS]
        clear HR hh
        go_wp2_with fail
        refine RHk.out.mono ?_
        rintro e w1 ⟨b1, a, c, rfl, o1⟩
        have N1 : Hid (NS w none hdZ w1) := HN.out.later b1
        have O1 : Hid (OwnT (w.heap.size + 2) w1 (.slice a sn.length c) sn) := o1.mono HN.out.k.lt
        have LW : Hid (w.heap.size + 2 ≤ w1.heap.size) := N1.out.k.lt
        clear b1 o1 HN RHk RH0 RH1
        go_upto_region 6 with (first
          | ((with_reducible refine at_store ?_); refine step_store rfl 88 _ _ rfl w1.heap.size 0 88 hdZ (hdL ep (.slice a sn.length c) n) rfl rfl (Blk.new 88 hdZ w1) (Nat.le_refl _) rfl (hdL_one _ _ _ _ _) ?_; intro w2 nb g2; have N2 : Hid (NS w none hdZ w2) := N1.out.new _ g2; have K2 : Hid (Blk w1.heap.size 88 (hdL ep (.slice a sn.length c) n) w2 ∧ OwnT (w.heap.size + 2) w2 (.slice a sn.length c) sn) := ⟨blk_put (Nat.le_refl _) nb, (O1.out.later (below_alloc _ _)).kept g2 (fun g' hg' e' => by injection e' with e'; have := O1.out.block_lt hg'; omega)⟩; have k0 := K2.out.1.cell 0 _ rfl; have q0 := N2.out.k.cell 0 _ rfl; clear nb g2 N1))
        clear k0 q0
        refine wp_region_held_drew (S := fun w' => (∃ zs, zs.length = 3 ∧ Blk (w.heap.size + 1) 88 zs w') ∧ Below w.heap.size w w' ∧ Blk w1.heap.size 88 (hdL ep (.slice a sn.length c) n) w' ∧ OwnT (w.heap.size + 2) w' (.slice a sn.length c) sn) (by kernel_rfl) (⟨⟨_, (hv_len N2.out.v).1, N2.out.k.below (Below.drew (Below.refl _ _))⟩, below_trans N2.out.b (Below.drew (Below.refl _ _)), K2.out.1.below (Below.drew (Below.refl _ _)), K2.out.2.later (Below.drew (Below.refl _ _))⟩) (fun hH => ?_)
        refine wpAnyH_take (i := 0) (oi := { dst := some 31, op := Op.move (Operand.tmp 5), type := 3, pos := "recover.go:50", after := #[], guard := none }) (v := .int .i64 0) rfl (by kernel_rfl) (by kernel_rfl) (by kernel_rfl) (fun _ _ _ h => h) (Or.inl ⟨by rfl, fun w' hs => by go_simp⟩) hH ?_
        try simp only [Act.put, List.setIfInBounds_toArray, List.set_cons_zero, List.set_cons_succ]
        refine wpAnyH_take (i := 1) (oi := { dst := some 32, op := Op.load 88 (Operand.tmp 7), type := 88, pos := "recover.go:50", after := #[{ on := 2, ground := Ground.gcOnly Departure.lateStores }], guard := none }) (v := .agg (hdL ep (.slice a sn.length c) n).toArray) rfl (by kernel_rfl) (by kernel_rfl) (by kernel_rfl) (fun _ _ _ h => h) (yieldsIf_load_mid (by rfl) _ _ rfl _ 0 rfl (hdL ep (.slice a sn.length c) n) _ (fun w' h => h.2.2.1.all) Tryd.underlying88 rfl rfl) hH ?_
        try simp only [Act.put, List.setIfInBounds_toArray, List.set_cons_zero, List.set_cons_succ]
        refine wpAnyH_take (i := 2) (oi := { dst := some 2, op := Op.assign (Operand.tmp 31), type := 3, pos := "recover.go:50", after := #[{ on := 0, ground := Ground.data }, { on := 0, ground := Ground.phase }, { on := 1, ground := Ground.textOnly Departure.lateStores }], guard := none }) (v := .int .i64 0) rfl (by kernel_rfl) (by kernel_rfl) (by kernel_rfl) (fun _ _ _ h => h) (Or.inl ⟨by rfl, fun w' hs => by go_simp⟩) hH ?_
        try simp only [Act.put, List.setIfInBounds_toArray, List.set_cons_zero, List.set_cons_succ]
        refine wpAnyH_ready (rs := [3]) (by kernel_rfl) (by simp) ?_
        refine AllReadyH.cons (o := { dst := none, op := Op.store 88 (Operand.tmp 3) (Operand.tmp 32), type := 0, pos := "recover.go:50", after := #[{ on := 1, ground := Ground.data }, { on := 2, ground := Ground.chain }, { on := 0, ground := Ground.phase }, { on := 1, ground := Ground.phase }, { on := 2, ground := Ground.phase }], guard := none }) rfl (fun K hK => ?_) AllReadyH.nil
        obtain ⟨zs, zl, zb⟩ := hH.1
        refine op_putJ (hdL ep (.slice a sn.length c) n) (by rw [zl]; rfl) infoHd (hdL_one _ _ _ _ _) rfl _ _ rfl (w.heap.size + 1) rfl rfl zb ?_
        intro w9 b9 g9
        have N9 : Hid (NS w (some (0, ep, sn, n)) (hdL ep (.slice a sn.length c) n) w9) := ⟨below_row hH.2.1 g9 (by omega), b9, a, c, rfl, hH.2.2.2.kept g9 (fun g' hg' e' => by injection e' with e'; have := hH.2.2.2.block_ge hg'; omega)⟩
        refine hK.out _ _ ⟨⟨_, rfl, b9⟩, N9.out.b, hH.2.2.1.grown g9 (by have := LW.out; omega), N9.out.v.elim fun a' h => h.elim fun c' h => by obtain ⟨e1, o1⟩ := h; have e1 := congrArg (fun l => l[1]?) e1; simp [hdL] at e1; obtain ⟨rfl, rfl⟩ := e1; exact o1⟩ (fun hH => ?_)
        refine wpAnyH_take (i := 4) (oi := { dst := some 4, op := Op.assign (Operand.const (Value.bool true)), type := 4, pos := "recover.go:50", after := #[{ on := 3, ground := Ground.chain }, { on := 0, ground := Ground.phase }, { on := 1, ground := Ground.phase }, { on := 2, ground := Ground.phase }, { on := 3, ground := Ground.phase }], guard := none }) (v := .bool true) rfl (by kernel_rfl) (by kernel_rfl) (by kernel_rfl) (fun _ _ _ h => h) (Or.inl ⟨by rfl, fun w' hs => by go_simp⟩) hH ?_
        try simp only [Act.put, List.setIfInBounds_toArray, List.set_cons_zero, List.set_cons_succ]
        refine wpAnyH_done (by kernel_rfl) ?_ _
        clear hH hK b9 g9 zb zl N2 K2
        go_wp2_with fail
        go_roundw
        case rel => exact ⟨1, by go_num, by omega, some (0, ep, sn, n), hdL ep (.slice a sn.length c) n, rfl, rfl, HR1, N9⟩
        case measure => simp [intOf]

    · have RHk : Hid (Calls Tryd.prog 50 #[.slice a1 b1.length c1] wr (HdAns wr (hdF b1))) := RH1.out wr HN.out.b
      cases hh : hdF b1 with
      | none =>
        rw [hh] at RHk
        go_wp2_with fail
        refine RHk.out.mono ?_
        rintro e w1 ⟨b1, rfl⟩
        have N1 : Hid (NS w R hv w1) := HN.out.later b1
        clear b1 HN RHk RH0 RH1
        go_wp2_with (first
          | ((with_reducible refine at_store ?_); refine step_store rfl 88 _ _ rfl w1.heap.size 0 88 hdZ hdZ rfl rfl (Blk.new 88 hdZ w1) (Nat.le_refl _) rfl hdZ_one ?_; intro w2 nb g2; have N2 : Hid (NS w R hv w2) := N1.out.new _ g2; clear nb g2 N1))
        go_roundw
        case rel => exact ⟨2, by go_num, by omega, R, hv, rfl, rfl, by show _ = _; rw [HR.out]; simp only [nwK, newest, hh, nwS], N2⟩
        case measure => simp [intOf]

      | some q =>
        obtain ⟨ep, sn, n⟩ := q
        rw [hh] at RHk
        cases R with
        | none =>
          obtain rfl : hv = hdZ := HN.out.v
          have HR1 : Hid (some (1, ep, sn, n) = nwK b0 b1 2) := by
            have h2 : none = nwS none 0 (hdF b0) := HR.out
            show _ = nwS (nwS none 0 (hdF b0)) 1 (hdF b1)
            rw [← h2, hh]; rfl
          clear HR hh
          go_wp2_with fail
          refine RHk.out.mono ?_
          rintro e w1 ⟨b1, a, c, rfl, o1⟩
          have N1 : Hid (NS w none hdZ w1) := HN.out.later b1
          have O1 : Hid (OwnT (w.heap.size + 2) w1 (.slice a sn.length c) sn) := o1.mono HN.out.k.lt
          have LW : Hid (w.heap.size + 2 ≤ w1.heap.size) := N1.out.k.lt
          clear b1 o1 HN RHk RH0 RH1
          go_upto_region 6 with (first
            | ((with_reducible refine at_store ?_); refine step_store rfl 88 _ _ rfl w1.heap.size 0 88 hdZ (hdL ep (.slice a sn.length c) n) rfl rfl (Blk.new 88 hdZ w1) (Nat.le_refl _) rfl (hdL_one _ _ _ _ _) ?_; intro w2 nb g2; have N2 : Hid (NS w none hdZ w2) := N1.out.new _ g2; have K2 : Hid (Blk w1.heap.size 88 (hdL ep (.slice a sn.length c) n) w2 ∧ OwnT (w.heap.size + 2) w2 (.slice a sn.length c) sn) := ⟨blk_put (Nat.le_refl _) nb, (O1.out.later (below_alloc _ _)).kept g2 (fun g' hg' e' => by injection e' with e'; have := O1.out.block_lt hg'; omega)⟩; have k0 := K2.out.1.cell 0 _ rfl; have q0 := N2.out.k.cell 0 _ rfl; clear nb g2 N1))
          clear k0 q0
          refine wp_region_held_drew (S := fun w' => (∃ zs, zs.length = 3 ∧ Blk (w.heap.size + 1) 88 zs w') ∧ Below w.heap.size w w' ∧ Blk w1.heap.size 88 (hdL ep (.slice a sn.length c) n) w' ∧ OwnT (w.heap.size + 2) w' (.slice a sn.length c) sn) (by kernel_rfl) (⟨⟨_, (hv_len N2.out.v).1, N2.out.k.below (Below.drew (Below.refl _ _))⟩, below_trans N2.out.b (Below.drew (Below.refl _ _)), K2.out.1.below (Below.drew (Below.refl _ _)), K2.out.2.later (Below.drew (Below.refl _ _))⟩) (fun hH => ?_)
          refine wpAnyH_take (i := 0) (oi := { dst := some 31, op := Op.move (Operand.tmp 5), type := 3, pos := "recover.go:50", after := #[], guard := none }) (v := .int .i64 1) rfl (by kernel_rfl) (by kernel_rfl) (by kernel_rfl) (fun _ _ _ h => h) (Or.inl ⟨by rfl, fun w' hs => by go_simp⟩) hH ?_
          try simp only [Act.put, List.setIfInBounds_toArray, List.set_cons_zero, List.set_cons_succ]
          refine wpAnyH_take (i := 1) (oi := { dst := some 32, op := Op.load 88 (Operand.tmp 7), type := 88, pos := "recover.go:50", after := #[{ on := 2, ground := Ground.gcOnly Departure.lateStores }], guard := none }) (v := .agg (hdL ep (.slice a sn.length c) n).toArray) rfl (by kernel_rfl) (by kernel_rfl) (by kernel_rfl) (fun _ _ _ h => h) (yieldsIf_load_mid (by rfl) _ _ rfl _ 0 rfl (hdL ep (.slice a sn.length c) n) _ (fun w' h => h.2.2.1.all) Tryd.underlying88 rfl rfl) hH ?_
          try simp only [Act.put, List.setIfInBounds_toArray, List.set_cons_zero, List.set_cons_succ]
          refine wpAnyH_take (i := 2) (oi := { dst := some 2, op := Op.assign (Operand.tmp 31), type := 3, pos := "recover.go:50", after := #[{ on := 0, ground := Ground.data }, { on := 0, ground := Ground.phase }, { on := 1, ground := Ground.textOnly Departure.lateStores }], guard := none }) (v := .int .i64 1) rfl (by kernel_rfl) (by kernel_rfl) (by kernel_rfl) (fun _ _ _ h => h) (Or.inl ⟨by rfl, fun w' hs => by go_simp⟩) hH ?_
          try simp only [Act.put, List.setIfInBounds_toArray, List.set_cons_zero, List.set_cons_succ]
          refine wpAnyH_ready (rs := [3]) (by kernel_rfl) (by simp) ?_
          refine AllReadyH.cons (o := { dst := none, op := Op.store 88 (Operand.tmp 3) (Operand.tmp 32), type := 0, pos := "recover.go:50", after := #[{ on := 1, ground := Ground.data }, { on := 2, ground := Ground.chain }, { on := 0, ground := Ground.phase }, { on := 1, ground := Ground.phase }, { on := 2, ground := Ground.phase }], guard := none }) rfl (fun K hK => ?_) AllReadyH.nil
          obtain ⟨zs, zl, zb⟩ := hH.1
          refine op_putJ (hdL ep (.slice a sn.length c) n) (by rw [zl]; rfl) infoHd (hdL_one _ _ _ _ _) rfl _ _ rfl (w.heap.size + 1) rfl rfl zb ?_
          intro w9 b9 g9
          have N9 : Hid (NS w (some (1, ep, sn, n)) (hdL ep (.slice a sn.length c) n) w9) := ⟨below_row hH.2.1 g9 (by omega), b9, a, c, rfl, hH.2.2.2.kept g9 (fun g' hg' e' => by injection e' with e'; have := hH.2.2.2.block_ge hg'; omega)⟩
          refine hK.out _ _ ⟨⟨_, rfl, b9⟩, N9.out.b, hH.2.2.1.grown g9 (by have := LW.out; omega), N9.out.v.elim fun a' h => h.elim fun c' h => by obtain ⟨e1, o1⟩ := h; have e1 := congrArg (fun l => l[1]?) e1; simp [hdL] at e1; obtain ⟨rfl, rfl⟩ := e1; exact o1⟩ (fun hH => ?_)
          refine wpAnyH_take (i := 4) (oi := { dst := some 4, op := Op.assign (Operand.const (Value.bool true)), type := 4, pos := "recover.go:50", after := #[{ on := 3, ground := Ground.chain }, { on := 0, ground := Ground.phase }, { on := 1, ground := Ground.phase }, { on := 2, ground := Ground.phase }, { on := 3, ground := Ground.phase }], guard := none }) (v := .bool true) rfl (by kernel_rfl) (by kernel_rfl) (by kernel_rfl) (fun _ _ _ h => h) (Or.inl ⟨by rfl, fun w' hs => by go_simp⟩) hH ?_
          try simp only [Act.put, List.setIfInBounds_toArray, List.set_cons_zero, List.set_cons_succ]
          refine wpAnyH_done (by kernel_rfl) ?_ _
          clear hH hK b9 g9 zb zl N2 K2
          go_wp2_with fail
          go_roundw
          case rel => exact ⟨2, by go_num, by omega, some (1, ep, sn, n), hdL ep (.slice a sn.length c) n, rfl, rfl, HR1, N9⟩
          case measure => simp [intOf]

        | some r0 =>
          obtain ⟨f, e0, t0, n0⟩ := r0
          obtain ⟨a', c', rfl, -⟩ := HN.out.v
          have h2 : some (f, e0, t0, n0) = nwS none 0 (hdF b0) := HR.out
          by_cases hlt : e0 < ep
          · have HR1 : Hid (some (1, ep, sn, n) = nwK b0 b1 2) := by
              show _ = nwS (nwS none 0 (hdF b0)) 1 (hdF b1)
              rw [← h2, hh]; show _ = if e0 < ep then _ else _; rw [if_pos hlt]
            have d1 : decide (e0 < ep) = true := decide_eq_true hlt
            clear HR hh h2 hlt
            go_wp2_with fail
            refine RHk.out.mono ?_
            rintro e w1 ⟨b1, a, c, rfl, o1⟩
            have N1 : Hid (NS w (some (f, e0, t0, n0)) (hdL e0 (.slice a' t0.length c') n0) w1) := HN.out.later b1
            have O1 : Hid (OwnT (w.heap.size + 2) w1 (.slice a sn.length c) sn) := o1.mono HN.out.k.lt
            have LW : Hid (w.heap.size + 2 ≤ w1.heap.size) := N1.out.k.lt
            clear b1 o1 HN RHk RH0 RH1
            go_upto_region 6 with (first
              | ((with_reducible refine at_store ?_); refine step_store rfl 88 _ _ rfl w1.heap.size 0 88 hdZ (hdL ep (.slice a sn.length c) n) rfl rfl (Blk.new 88 hdZ w1) (Nat.le_refl _) rfl (hdL_one _ _ _ _ _) ?_; intro w2 nb g2; have N2 : Hid (NS w (some (f, e0, t0, n0)) (hdL e0 (.slice a' t0.length c') n0) w2) := N1.out.new _ g2; have K2 : Hid (Blk w1.heap.size 88 (hdL ep (.slice a sn.length c) n) w2 ∧ OwnT (w.heap.size + 2) w2 (.slice a sn.length c) sn) := ⟨blk_put (Nat.le_refl _) nb, (O1.out.later (below_alloc _ _)).kept g2 (fun g' hg' e' => by injection e' with e'; have := O1.out.block_lt hg'; omega)⟩; have k0 := K2.out.1.cell 0 _ rfl; have q0 := N2.out.k.cell 0 _ rfl; clear nb g2 N1))
            clear k0 q0
            refine wp_region_held_drew (S := fun w' => (∃ zs, zs.length = 3 ∧ Blk (w.heap.size + 1) 88 zs w') ∧ Below w.heap.size w w' ∧ Blk w1.heap.size 88 (hdL ep (.slice a sn.length c) n) w' ∧ OwnT (w.heap.size + 2) w' (.slice a sn.length c) sn) (by kernel_rfl) (⟨⟨_, (hv_len N2.out.v).1, N2.out.k.below (Below.drew (Below.refl _ _))⟩, below_trans N2.out.b (Below.drew (Below.refl _ _)), K2.out.1.below (Below.drew (Below.refl _ _)), K2.out.2.later (Below.drew (Below.refl _ _))⟩) (fun hH => ?_)
            refine wpAnyH_take (i := 0) (oi := { dst := some 31, op := Op.move (Operand.tmp 5), type := 3, pos := "recover.go:50", after := #[], guard := none }) (v := .int .i64 1) rfl (by kernel_rfl) (by kernel_rfl) (by kernel_rfl) (fun _ _ _ h => h) (Or.inl ⟨by rfl, fun w' hs => by go_simp⟩) hH ?_
            try simp only [Act.put, List.setIfInBounds_toArray, List.set_cons_zero, List.set_cons_succ]
            refine wpAnyH_take (i := 1) (oi := { dst := some 32, op := Op.load 88 (Operand.tmp 7), type := 88, pos := "recover.go:50", after := #[{ on := 2, ground := Ground.gcOnly Departure.lateStores }], guard := none }) (v := .agg (hdL ep (.slice a sn.length c) n).toArray) rfl (by kernel_rfl) (by kernel_rfl) (by kernel_rfl) (fun _ _ _ h => h) (yieldsIf_load_mid (by rfl) _ _ rfl _ 0 rfl (hdL ep (.slice a sn.length c) n) _ (fun w' h => h.2.2.1.all) Tryd.underlying88 rfl rfl) hH ?_
            try simp only [Act.put, List.setIfInBounds_toArray, List.set_cons_zero, List.set_cons_succ]
            refine wpAnyH_take (i := 2) (oi := { dst := some 2, op := Op.assign (Operand.tmp 31), type := 3, pos := "recover.go:50", after := #[{ on := 0, ground := Ground.data }, { on := 0, ground := Ground.phase }, { on := 1, ground := Ground.textOnly Departure.lateStores }], guard := none }) (v := .int .i64 1) rfl (by kernel_rfl) (by kernel_rfl) (by kernel_rfl) (fun _ _ _ h => h) (Or.inl ⟨by rfl, fun w' hs => by go_simp⟩) hH ?_
            try simp only [Act.put, List.setIfInBounds_toArray, List.set_cons_zero, List.set_cons_succ]
            refine wpAnyH_ready (rs := [3]) (by kernel_rfl) (by simp) ?_
            refine AllReadyH.cons (o := { dst := none, op := Op.store 88 (Operand.tmp 3) (Operand.tmp 32), type := 0, pos := "recover.go:50", after := #[{ on := 1, ground := Ground.data }, { on := 2, ground := Ground.chain }, { on := 0, ground := Ground.phase }, { on := 1, ground := Ground.phase }, { on := 2, ground := Ground.phase }], guard := none }) rfl (fun K hK => ?_) AllReadyH.nil
            obtain ⟨zs, zl, zb⟩ := hH.1
            refine op_putJ (hdL ep (.slice a sn.length c) n) (by rw [zl]; rfl) infoHd (hdL_one _ _ _ _ _) rfl _ _ rfl (w.heap.size + 1) rfl rfl zb ?_
            intro w9 b9 g9
            have N9 : Hid (NS w (some (1, ep, sn, n)) (hdL ep (.slice a sn.length c) n) w9) := ⟨below_row hH.2.1 g9 (by omega), b9, a, c, rfl, hH.2.2.2.kept g9 (fun g' hg' e' => by injection e' with e'; have := hH.2.2.2.block_ge hg'; omega)⟩
            refine hK.out _ _ ⟨⟨_, rfl, b9⟩, N9.out.b, hH.2.2.1.grown g9 (by have := LW.out; omega), N9.out.v.elim fun a' h => h.elim fun c' h => by obtain ⟨e1, o1⟩ := h; have e1 := congrArg (fun l => l[1]?) e1; simp [hdL] at e1; obtain ⟨rfl, rfl⟩ := e1; exact o1⟩ (fun hH => ?_)
            refine wpAnyH_take (i := 4) (oi := { dst := some 4, op := Op.assign (Operand.const (Value.bool true)), type := 4, pos := "recover.go:50", after := #[{ on := 3, ground := Ground.chain }, { on := 0, ground := Ground.phase }, { on := 1, ground := Ground.phase }, { on := 2, ground := Ground.phase }, { on := 3, ground := Ground.phase }], guard := none }) (v := .bool true) rfl (by kernel_rfl) (by kernel_rfl) (by kernel_rfl) (fun _ _ _ h => h) (Or.inl ⟨by rfl, fun w' hs => by go_simp⟩) hH ?_
            try simp only [Act.put, List.setIfInBounds_toArray, List.set_cons_zero, List.set_cons_succ]
            refine wpAnyH_done (by kernel_rfl) ?_ _
            clear hH hK b9 g9 zb zl N2 K2
            go_wp2_with fail
            go_roundw
            case rel => exact ⟨2, by go_num, by omega, some (1, ep, sn, n), hdL ep (.slice a sn.length c) n, rfl, rfl, HR1, N9⟩
            case measure => simp [intOf]

          · have HR1 : Hid (some (f, e0, t0, n0) = nwK b0 b1 2) := by
              show _ = nwS (nwS none 0 (hdF b0)) 1 (hdF b1)
              rw [← h2, hh]; show _ = if e0 < ep then _ else _; rw [if_neg hlt]
            have d1 : decide (e0 < ep) = false := decide_eq_false hlt
            clear HR hh h2 hlt
            go_wp2_with fail
            refine RHk.out.mono ?_
            rintro e w1 ⟨b1, a, c, rfl, o1⟩
            have N1 : Hid (NS w (some (f, e0, t0, n0)) (hdL e0 (.slice a' t0.length c') n0) w1) := HN.out.later b1
            have O1 : Hid (OwnT (w.heap.size + 2) w1 (.slice a sn.length c) sn) := o1.mono HN.out.k.lt
            have LW : Hid (w.heap.size + 2 ≤ w1.heap.size) := N1.out.k.lt
            clear b1 o1 HN RHk RH0 RH1
            go_wp2_with (first
              | ((with_reducible refine at_store ?_); refine step_store rfl 88 _ _ rfl w1.heap.size 0 88 hdZ (hdL ep (.slice a sn.length c) n) rfl rfl (Blk.new 88 hdZ w1) (Nat.le_refl _) rfl (hdL_one _ _ _ _ _) ?_; intro w2 nb g2; have N2 : Hid (NS w (some (f, e0, t0, n0)) (hdL e0 (.slice a' t0.length c') n0) w2) := N1.out.new _ g2; have K2 : Hid (Blk w1.heap.size 88 (hdL ep (.slice a sn.length c) n) w2 ∧ OwnT (w.heap.size + 2) w2 (.slice a sn.length c) sn) := ⟨blk_put (Nat.le_refl _) nb, (O1.out.later (below_alloc _ _)).kept g2 (fun g' hg' e' => by injection e' with e'; have := O1.out.block_lt hg'; omega)⟩; have k0 := K2.out.1.cell 0 _ rfl; have q0 := N2.out.k.cell 0 _ rfl; clear nb g2 N1))
            go_roundw
            case rel => exact ⟨2, by go_num, by omega, (some (f, e0, t0, n0)), (hdL e0 (.slice a' t0.length c') n0), rfl, rfl, HR1, N2⟩
            case measure => simp [intOf]

    · have HV : Hid (hv.length = 3) := (hv_len HN.out.v).1
      clear RH0 RH1
      go_upto_region 8 with fail
      refine wp_region_held_drew (S := fun w' => NS w R hv w') (by kernel_rfl) (HN.out.later (Below.drew (Below.refl _ _))) (fun hH => ?_)
      refine wpAnyH_take (i := 0) (oi := { dst := some 34, op := Op.move (Operand.tmp 2), type := 3, pos := "recover.go:53", after := #[], guard := none }) (v := .int .i64 ((fileOf R : Nat) : Int)) rfl (by kernel_rfl) (by kernel_rfl) (by kernel_rfl) (fun _ _ _ h => h) (Or.inl ⟨by rfl, fun w' hs => by go_simp⟩) hH ?_
      try simp only [Act.put, List.setIfInBounds_toArray, List.set_cons_zero, List.set_cons_succ]
      refine wpAnyH_take (i := 1) (oi := { dst := some 35, op := Op.load 88 (Operand.tmp 3), type := 88, pos := "recover.go:53", after := #[{ on := 3, ground := Ground.gcOnly Departure.lateStores }], guard := none }) (v := .agg (hv).toArray) rfl (by kernel_rfl) (by kernel_rfl) (by kernel_rfl) (fun _ _ _ h => h) (yieldsIf_load_mid (by rfl) _ _ rfl _ 0 rfl (hv) _ (fun w' h => h.k.all) Tryd.underlying88 rfl (hv_info HV.out)) hH ?_
      try simp only [Act.put, List.setIfInBounds_toArray, List.set_cons_zero, List.set_cons_succ]
      refine wpAnyH_take (i := 2) (oi := { dst := some 36, op := Op.move (Operand.tmp 4), type := 4, pos := "recover.go:53", after := #[{ on := 4, ground := Ground.gcOnly Departure.lateStores }], guard := none }) (v := .bool R.isSome) rfl (by kernel_rfl) (by kernel_rfl) (by kernel_rfl) (fun _ _ _ h => h) (Or.inl ⟨by rfl, fun w' hs => by go_simp⟩) hH ?_
      try simp only [Act.put, List.setIfInBounds_toArray, List.set_cons_zero, List.set_cons_succ]
      refine wpAnyH_take (i := 3) (oi := { dst := some 2, op := Op.assign (Operand.tmp 34), type := 3, pos := "recover.go:53", after := #[{ on := 0, ground := Ground.data }, { on := 0, ground := Ground.phase }, { on := 1, ground := Ground.textOnly Departure.lateStores }, { on := 2, ground := Ground.textOnly Departure.lateStores }], guard := none }) (v := .int .i64 ((fileOf R : Nat) : Int)) rfl (by kernel_rfl) (by kernel_rfl) (by kernel_rfl) (fun _ _ _ h => h) (Or.inl ⟨by rfl, fun w' hs => by go_simp⟩) hH ?_
      try simp only [Act.put, List.setIfInBounds_toArray, List.set_cons_zero, List.set_cons_succ]
      refine wpAnyH_ready (rs := [4]) (by kernel_rfl) (by simp) ?_
      refine AllReadyH.cons (o := { dst := none, op := Op.store 88 (Operand.tmp 3) (Operand.tmp 35), type := 0, pos := "recover.go:53", after := #[{ on := 1, ground := Ground.data }, { on := 3, ground := Ground.chain }, { on := 0, ground := Ground.phase }, { on := 1, ground := Ground.phase }, { on := 2, ground := Ground.textOnly Departure.lateStores }, { on := 3, ground := Ground.phase }], guard := none }) rfl (fun K hK => ?_) AllReadyH.nil
      refine op_putJ hv rfl (hv_info HV.out) (hv_len HN.out.v).2 rfl _ _ rfl (w.heap.size + 1) rfl rfl hH.k ?_
      intro w9 b9 g9
      have N9 : Hid (NS w R hv w9) := ⟨below_row hH.b g9 (by omega), b9, hH.v.kept g9 (fun x p o e => by have := o.block_ge e; omega)⟩
      refine hK.out _ _ N9.out (fun hH => ?_)
      refine wpAnyH_take (i := 5) (oi := { dst := some 4, op := Op.assign (Operand.tmp 36), type := 4, pos := "recover.go:53", after := #[{ on := 2, ground := Ground.data }, { on := 4, ground := Ground.chain }, { on := 0, ground := Ground.phase }, { on := 1, ground := Ground.phase }, { on := 2, ground := Ground.phase }, { on := 3, ground := Ground.phase }, { on := 4, ground := Ground.phase }], guard := none }) (v := .bool R.isSome) rfl (by kernel_rfl) (by kernel_rfl) (by kernel_rfl) (fun _ _ _ h => h) (Or.inl ⟨by rfl, fun w' hs => by go_simp⟩) hH ?_
      try simp only [Act.put, List.setIfInBounds_toArray, List.set_cons_zero, List.set_cons_succ]
      refine wpAnyH_done (by kernel_rfl) ?_ _
      clear hH hK b9 g9
      go_wp2_with fail
      refine ret_tmp_blk_tmp rfl rfl (w.heap.size + 1) 88 hv _ rfl N9.out.k Tryd.underlying88 rfl (hv_info HV.out) ?_
      have HR2 : R = newest b0 b1 := HR.out
      rw [← HR2]
      exact ⟨N9.out.b, hv, rfl, N9.out.v.mono (by omega)⟩

end Go.Proofs.YtcmfehabcklbpaaDoor
