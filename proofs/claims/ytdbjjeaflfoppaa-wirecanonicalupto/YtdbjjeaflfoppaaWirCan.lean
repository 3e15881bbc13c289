/-
  Ours: WireCanonical's walk (gen_wcan.py: THE SEAT's OWN NUMBERS).
-/
import Derived.Test.YtdbjjeaflfoppaaWirCanM
import Derived.Test.YtdbjjeaflfoppaaWirTold
namespace Go.Proofs.Ytdbjjeaflfoppaa
open Go.RowKit WsM

theorem step_loadGC {P : Program} {ops : Array Oper} {rest : List Oper} {op : Oper} {a : Act} {w : World} {Q : Exit → Act → World → Prop} (hw : Region.wanted op (yielded ops a.tmps) = true) (ty : TypeId) (x : Operand) (ho : op.op = .load ty x)
    (G o : Nat) (hx : a.eval x = .pointer (some ⟨G, o, none⟩)) (cs : List Value) (d : TypeDesc) (hc : w.rangeAt G o cs)
    (hu : P.underlying ty = some d) (hd : d.isRow = true) (hi : (P.info? ty).map (·.size) = some cs.length)
    (h : wpList P ops Q rest (a.put op.dst (.agg cs.toArray)) w) : wpList P ops Q (op :: rest) a w :=
  BigFrame.wpList_want hw fun _ hK => wp_load_mid ty x ho G o hx cs d hc hu hd hi (hK _ _ h)
theorem at_loadGC {P : Program} {ops : Array Oper} {rest : List Oper} {a : Act} {w : World} {Q : Exit → Act → World → Prop} {dst : Option Tmp} (ty : TypeId) {t : TypeId} {x : Operand} {pos : String} {af : Array Edge} {gd : Nat × Bool}
    (h : wpList P ops Q ({ dst := dst, op := .load ty x, type := t, pos := pos, after := af, guard := some gd } :: rest) a w) : wpList P ops Q ({ dst := dst, op := .load ty x, type := t, pos := pos, after := af, guard := some gd } :: rest) a w := h
/-- What a Decode answers, where the value, if there is one, is told as the bytes that were read. -/
def CanAns (K : Nat) (FE : FuncId) (bs : List Nat) (W : World) (e : Ending) (w' : World) : Prop :=
  ∃ (C : List Value) (k : Bool), e = .returned (.tuple #[.agg C.toArray, .bool k]) ∧ C.length = K ∧ (∀ u ∈ C, u.oneCell' = true) ∧ Below W.heap.size W w' ∧ (k = true → ∀ W', Below w'.heap.size w' W' → Calls Try.prog FE #[.agg C.toArray] W' (NewB W' bs))
theorem canOp_at (bs : List Nat) (hb : ∀ c ∈ bs, c < 256) (hl : bs.length ≤ 1048576) (v : Value) (W : World) (h : RdB W v bs) : Calls Try.prog 17 #[v] W (CanAns 7 19 bs W) := by
  refine (decodeOp_at bs hb (by omega) v W h).mono fun e w' ⟨h1, h2⟩ => ?_
  have B : (decO bs).2 = true → (decO bs).1.Ok ∧ opL (decO bs).1 = bs := decO_back hb (by omega)
  generalize decO bs = dd at *
  obtain ⟨⟨f0, f1, f2, f3, f4, f5, f6⟩, k⟩ := dd
  refine ⟨[.int .i64 f0, .int .i64 f1, .int .i64 f2, .int .i64 f3, .int .i64 f4, .int .i64 f5, .string f6], k, h1, rfl, (fun u hu => by simp at hu; rcases hu with rfl | rfl | rfl | rfl | rfl | rfl | rfl <;> rfl), h2, fun hk W' _ => ?_⟩
  obtain ⟨ok, e2⟩ := B hk
  have := encodeOp_at _ ok W'
  rw [e2] at this
  exact this
theorem canRecord_at (bs : List Nat) (hb : ∀ c ∈ bs, c < 256) (hl : bs.length ≤ 1048576) (v : Value) (W : World) (h : RdB W v bs) : Calls Try.prog 20 #[v] W (CanAns 9 7 bs W) := by
  refine (decodeRecord_at bs hb (by omega) v W h).mono fun e w' ⟨⟨va, h1, hv⟩, h2⟩ => ?_
  have B : (decR bs).2 = true → (decR bs).1.2.1.Ok ∧ I64s (decR bs).1.2.2 ∧ (decR bs).1.2.2.length ≤ bs.length ∧ recL (decR bs).1.1 (decR bs).1.2.1 (decR bs).1.2.2 = bs := decR_back hb (by omega)
  generalize decR bs = dd at *
  obtain ⟨⟨kk, ⟨f0, f1, f2, f3, f4, f5, f6⟩, xs⟩, k⟩ := dd
  simp only at B hv h1
  obtain ⟨a, c, ev, -, -⟩ := (RowV.rd hv).len
  generalize (List.map (Value.int .i64) xs).length = n at ev
  subst ev
  refine ⟨[.int .i64 kk, .int .i64 f0, .int .i64 f1, .int .i64 f2, .int .i64 f3, .int .i64 f4, .int .i64 f5, .string f6, .slice a n c], k, h1, rfl, (fun u hu => by simp at hu; rcases hu with rfl | rfl | rfl | rfl | rfl | rfl | rfl | rfl | rfl <;> rfl), h2, fun hk W' hW => ?_⟩
  obtain ⟨ok, ix, lx, e2⟩ := B hk
  have := encodeRecord_at kk _ ok xs ix _ W' (Rd.later (RowV.rd hv) hW) (by omega)
  rw [e2] at this
  exact this
theorem canNotice_at (bs : List Nat) (hb : ∀ c ∈ bs, c < 256) (hl : bs.length ≤ 1048576) (v : Value) (W : World) (h : RdB W v bs) : Calls Try.prog 21 #[v] W (CanAns 6 12 bs W) := by
  refine (decodeNt_at bs hb (by omega) v W h).mono fun e w' ⟨⟨C, k, h1, lc, oc, an⟩, h2⟩ => ⟨C, k, h1, lc, oc, h2, fun hk W' _ => ?_⟩
  rcases an with ⟨_, x, m, ok, eb⟩ | ⟨h, _⟩
  · have m' : C = ntL x := m
    subst m'
    rw [eb]
    exact encNotice_yes x ok.1 W'
  · rw [h] at hk; cases hk
theorem canLoan_at (bs : List Nat) (hb : ∀ c ∈ bs, c < 256) (hl : bs.length ≤ 1048576) (v : Value) (W : World) (h : RdB W v bs) : Calls Try.prog 22 #[v] W (CanAns 46 23 bs W) := by
  refine (decodeLn_at bs hb (by omega) v W h).mono fun e w' ⟨⟨C, k, h1, lc, oc, an⟩, h2⟩ => ⟨C, k, h1, lc, oc, h2, fun hk W' hW => ?_⟩
  rcases an with ⟨_, x, ⟨a, n, c, rfl, rd, _⟩, ok, eb⟩ | ⟨h, _⟩
  · have l1 := pl_le x ok
    rw [← eb] at l1
    have := encLoan_at x ok _ W' (rd.later hW) (by omega) (by rw [← eb]; omega)
    rw [← eb] at this
    exact this
  · rw [h] at hk; cases hk
theorem MemP.po {wb ub : Nat} {x : Po} {C : List Value} {w : World} (h : MemP wb ub x C w) : ∃ vl vn, C = [.int .i64 x.td, vl, vn] ∧ RdPo w vl vn x := by
  obtain ⟨a, n, c, b, m, d, pvs, e, t, -, -, r, -⟩ := h
  exact ⟨_, _, e, ⟨⟨pvs, t.len, owns_rd (zip_K _ _) t.row, fun i hi => (t.pl i hi).1⟩, r⟩⟩
theorem canState_at (bs : List Nat) (hb : ∀ c ∈ bs, c < 256) (hl : bs.length ≤ 1048576) (v : Value) (W : World) (h : RdB W v bs) : Calls Try.prog 24 #[v] W (CanAns 3 13 bs W) := by
  refine (decodePo_at bs hb (by omega) v W h).mono fun e w' ⟨⟨C, k, h1, lc, oc, an⟩, h2⟩ => ⟨C, k, h1, lc, oc, h2, fun hk W' hW => ?_⟩
  rcases an with ⟨_, x, m, ok, eb⟩ | ⟨h, _⟩
  · obtain ⟨l1, l2, l3⟩ := po_le x ok
    rw [← eb] at l1 l2 l3
    obtain ⟨vl, vn, rfl, rd⟩ := m.po
    have := encState_at x ok vl vn W' (rd.later hW) (by omega) (by omega) (fun l hl' => by have := l3 l hl'; omega) (by rw [← eb]; omega)
    rw [← eb] at this
    exact this
  · rw [h] at hk; cases hk
theorem szcOp {C : List Value} (h : C.length = 7) : (Try.prog.info? 23).map (·.size) = some C.length := by rw [h]; kernel_rfl
theorem szcRecord {C : List Value} (h : C.length = 9) : (Try.prog.info? 26).map (·.size) = some C.length := by rw [h]; kernel_rfl
theorem szcNotice {C : List Value} (h : C.length = 6) : (Try.prog.info? 28).map (·.size) = some C.length := by rw [h]; kernel_rfl
theorem szcLoan {C : List Value} (h : C.length = 46) : (Try.prog.info? 65).map (·.size) = some C.length := by rw [h]; kernel_rfl
theorem szcState {C : List Value} (h : C.length = 3) : (Try.prog.info? 32).map (·.size) = some C.length := by rw [h]; kernel_rfl

theorem rd14 : Go.Proofs.Ytdbjjeaflfoppaa.rd [14] ((0 : Nat) : Int) = some (14, 1) := (rd_iff [14] 0 14 1 (by simp) (by simp)).2 ⟨[], by rw [put_small (by omega)]; rfl, by rw [put_small (by omega)]; rfl, by decide⟩
set_option maxRecDepth 40000 in
set_option maxHeartbeats 8000000 in
theorem wireCanonical_any (bs : List Nat) (hb : ∀ c ∈ bs, c < 256) (hl : bs.length ≤ 1048576) (v : Value) (w : World) (hr : RdB w v bs) :
    Calls Try.prog 4 #[v] w fun e w' => e = .returned (.bool true) ∧ Below w.heap.size w w' := by
  have IN : Hid (∀ W vc, RdB W vc [14] → Calls Try.prog 16 #[vc, .int .i64 0] W fun e w' => e = .returned (.tuple #[.int .i64 7, .int .i64 1, .bool true]) ∧ w' = W) := fun W vc h => by
    have := int_at [14] ((0 : Nat) : Int) vc W (by simp) (by simp) (by decide) (by decide) h
    rw [rd14] at this
    exact this
  have CP : Hid (∀ W, Below w.heap.size w W → Calls Try.prog 18 #[v] W fun e w' => ∃ v', e = .returned v' ∧ RdB w' v' bs ∧ Below W.heap.size W w') := fun W h => (copied_at bs v W (by omega) (Rd.later hr h)).mono fun e w' ⟨v', h1, h2, h3⟩ => ⟨v', h1, RowV.rd h2, h3⟩
  have SM : Hid (∀ W v1, Below w.heap.size w W → RdB W v1 bs → Calls Try.prog 10 #[v1, v] W fun e w' => e = .returned (.bool true) ∧ Below W.heap.size W w') := fun W v1 h1 h2 => (same_at bs bs v1 v W (by omega) h2 (Rd.later hr h1)).mono fun e w' ⟨g1, n, g2⟩ => ⟨by rw [g1, decide_eq_true rfl], by rw [g2]; exact below_drewN (Below.refl _ _) n⟩
  have DOp : Hid (∀ W vc, RdB W vc bs → Calls Try.prog 17 #[vc] W (CanAns 7 19 bs W)) := fun W vc h => canOp_at bs hb hl vc W h
  have DRecord : Hid (∀ W vc, RdB W vc bs → Calls Try.prog 20 #[vc] W (CanAns 9 7 bs W)) := fun W vc h => canRecord_at bs hb hl vc W h
  have DNotice : Hid (∀ W vc, RdB W vc bs → Calls Try.prog 21 #[vc] W (CanAns 6 12 bs W)) := fun W vc h => canNotice_at bs hb hl vc W h
  have DLoan : Hid (∀ W vc, RdB W vc bs → Calls Try.prog 22 #[vc] W (CanAns 46 23 bs W)) := fun W vc h => canLoan_at bs hb hl vc W h
  have DState : Hid (∀ W vc, RdB W vc bs → Calls Try.prog 24 #[vc] W (CanAns 3 13 bs W)) := fun W vc h => canState_at bs hb hl vc W h
  clear hb hl hr
  go_enter Try.func4, Try.ntmps4
  go_wp2_with fail
  refine (IN.out _ _ (RowV.rd (newB_one w 14))).mono ?_
  rintro e w1 ⟨rfl, rfl⟩
  have B0 : Hid (Below w.heap.size w (w.alloc (.cells #[.int .u8 14] 5))) := below_alloc _ _
  generalize w.alloc (.cells #[.int .u8 14] 5) = W0 at *
  go_upto_region 4 with fail
  go_wp2_with fail
  refine (CP.out _ B0.out).mono ?_
  rintro e wa0 ⟨va0, rfl, ra0, ba0⟩
  have BA0 : Hid (Below w.heap.size w wa0) := below_trans B0.out ba0
  have RA0 : Hid (RdB wa0 va0 bs) := ra0
  clear ra0 ba0 B0
  go_wp2_with fail
  refine (DOp.out _ _ RA0.out).mono ?_
  rintro e wb0 ⟨C0, k0, rfl, lc, oc, bb0, en0⟩
  have LC0 : Hid (C0.length = 7) := lc
  have OC0 : Hid (∀ u ∈ C0, u.oneCell' = true) := oc
  have BB0 : Hid (Below w.heap.size w wb0) := below_trans BA0.out bb0
  have EN0 : Hid (k0 = true → ∀ W', Below wb0.heap.size wb0 W' → Calls Try.prog 19 #[.agg C0.toArray] W' (NewB W' bs)) := en0
  clear lc oc bb0 en0 BA0 RA0
  obtain ⟨E0, hE0⟩ : ∃ E, wb0.heap.size = E := ⟨_, rfl⟩
  have NN0 : Hid (Blk E0 23 [.int .i64 0, .int .i64 0, .int .i64 0, .int .i64 0, .int .i64 0, .int .i64 0, .string ⟨#[]⟩] (wb0.alloc (.cells #[.int .i64 0, .int .i64 0, .int .i64 0, .int .i64 0, .int .i64 0, .int .i64 0, .string ⟨#[]⟩] 23))) := by rw [← hE0]; exact Blk.new _ _ _
  have NB0 : Hid (Below wb0.heap.size wb0 (wb0.alloc (.cells #[.int .i64 0, .int .i64 0, .int .i64 0, .int .i64 0, .int .i64 0, .int .i64 0, .string ⟨#[]⟩] 23))) := below_alloc _ _
  have HE0 : Hid (wb0.heap.size ≤ E0) := Nat.le_of_eq hE0
  go_upto_region 5 with ((with_reducible refine at_store ?_); (try rw [hE0]); refine step_store rfl 23 _ _ rfl E0 0 23 [.int .i64 0, .int .i64 0, .int .i64 0, .int .i64 0, .int .i64 0, .int .i64 0, .string ⟨#[]⟩] C0 rfl rfl NN0.out (by rw [LC0.out]; show 0 + 7 ≤ 7; omega) (szcOp LC0.out) OC0.out ?_; intro wc0 nb gb; rw [store_all (by rw [LC0.out]; rfl)] at nb)
  have KB0 : Hid (Blk E0 23 C0 wc0) := nb
  have BC0 : Hid (Below wb0.heap.size wb0 wc0) := below_past2 NB0.out gb HE0.out
  have BD0 : Hid (Below w.heap.size w wc0) := below_trans BB0.out BC0.out
  clear nb gb NN0 NB0 HE0 hE0 BB0
  rename_i K1 a1 K2 a2
  have JN0 : Hid (∀ (d3 d4 d5 d6 d11 d12 d13 d14 d15 d16 d17 d18 d19 d20 d21 d22 d23 d24 d25 d26 d27 d28 d29 d30 d31 d32 d33 d34 d35 d36 d37 d38 d39 d40 : Value) (W : World), Below w.heap.size w W → K1 { tmps := #[v, undef, .bool false, d3, d4, d5, d6, undef, undef, undef, undef, d11, d12, d13, d14, d15, d16, d17, d18, d19, d20, d21, d22, d23, d24, d25, d26, d27, d28, d29, d30, d31, d32, d33, d34, d35, d36, d37, d38, d39, d40, undef, undef, undef, undef, undef, undef, undef, undef, undef, undef, undef, undef, undef, undef, undef, undef, undef, undef, undef, undef, undef, undef, undef, undef, undef, undef, undef, undef, undef, undef, undef, undef, undef, undef, undef, undef, undef, undef, undef, undef, undef, undef, undef, undef, undef, undef, undef, undef, undef, undef, undef, undef, undef, undef, undef, undef], defers := [] } W) := by
    clear a2 KB0 BC0 BD0 EN0 LC0 OC0
    intro d3 d4 d5 d6 d11 d12 d13 d14 d15 d16 d17 d18 d19 d20 d21 d22 d23 d24 d25 d26 d27 d28 d29 d30 d31 d32 d33 d34 d35 d36 d37 d38 d39 d40 WX0 bx0
    have BX0 : Hid (Below w.heap.size w WX0) := bx0
    clear bx0
    refine a1 _ _ ?_
    clear a1
    go_wp2_with fail
    refine (CP.out _ BX0.out).mono ?_
    rintro e wa1 ⟨va1, rfl, ra1, ba1⟩
    have BA1 : Hid (Below w.heap.size w wa1) := below_trans BX0.out ba1
    have RA1 : Hid (RdB wa1 va1 bs) := ra1
    clear ra1 ba1 BX0
    go_wp2_with fail
    refine (DRecord.out _ _ RA1.out).mono ?_
    rintro e wb1 ⟨C1, k1, rfl, lc, oc, bb1, en1⟩
    have LC1 : Hid (C1.length = 9) := lc
    have OC1 : Hid (∀ u ∈ C1, u.oneCell' = true) := oc
    have BB1 : Hid (Below w.heap.size w wb1) := below_trans BA1.out bb1
    have EN1 : Hid (k1 = true → ∀ W', Below wb1.heap.size wb1 W' → Calls Try.prog 7 #[.agg C1.toArray] W' (NewB W' bs)) := en1
    clear lc oc bb1 en1 BA1 RA1
    obtain ⟨E1, hE1⟩ : ∃ E, wb1.heap.size = E := ⟨_, rfl⟩
    have NN1 : Hid (Blk E1 26 [.int .i64 0, .int .i64 0, .int .i64 0, .int .i64 0, .int .i64 0, .int .i64 0, .int .i64 0, .string ⟨#[]⟩, .slice none 0 0] (wb1.alloc (.cells #[.int .i64 0, .int .i64 0, .int .i64 0, .int .i64 0, .int .i64 0, .int .i64 0, .int .i64 0, .string ⟨#[]⟩, .slice none 0 0] 26))) := by rw [← hE1]; exact Blk.new _ _ _
    have NB1 : Hid (Below wb1.heap.size wb1 (wb1.alloc (.cells #[.int .i64 0, .int .i64 0, .int .i64 0, .int .i64 0, .int .i64 0, .int .i64 0, .int .i64 0, .string ⟨#[]⟩, .slice none 0 0] 26))) := below_alloc _ _
    have HE1 : Hid (wb1.heap.size ≤ E1) := Nat.le_of_eq hE1
    go_upto_region 8 with ((with_reducible refine at_store ?_); (try rw [hE1]); refine step_store rfl 26 _ _ rfl E1 0 26 [.int .i64 0, .int .i64 0, .int .i64 0, .int .i64 0, .int .i64 0, .int .i64 0, .int .i64 0, .string ⟨#[]⟩, .slice none 0 0] C1 rfl rfl NN1.out (by rw [LC1.out]; show 0 + 9 ≤ 9; omega) (szcRecord LC1.out) OC1.out ?_; intro wc1 nb gb; rw [store_all (by rw [LC1.out]; rfl)] at nb)
    have KB1 : Hid (Blk E1 26 C1 wc1) := nb
    have BC1 : Hid (Below wb1.heap.size wb1 wc1) := below_past2 NB1.out gb HE1.out
    have BD1 : Hid (Below w.heap.size w wc1) := below_trans BB1.out BC1.out
    clear nb gb NN1 NB1 HE1 hE1 BB1
    rename_i K1 a1 K2 a2
    have JN1 : Hid (∀ (d3 d4 d5 d6 d7 d11 d12 d13 d14 d15 d16 d17 d18 d19 d20 d21 d22 d23 d24 d25 d26 d27 d28 d29 d30 d31 d32 d33 d34 d35 d36 d37 d38 d39 d40 d41 d42 d43 d44 d45 d46 d47 d48 d49 d50 d51 d52 d53 d54 : Value) (W : World), Below w.heap.size w W → K1 { tmps := #[v, undef, .bool false, d3, d4, d5, d6, d7, undef, undef, undef, d11, d12, d13, d14, d15, d16, d17, d18, d19, d20, d21, d22, d23, d24, d25, d26, d27, d28, d29, d30, d31, d32, d33, d34, d35, d36, d37, d38, d39, d40, d41, d42, d43, d44, d45, d46, d47, d48, d49, d50, d51, d52, d53, d54, undef, undef, undef, undef, undef, undef, undef, undef, undef, undef, undef, undef, undef, undef, undef, undef, undef, undef, undef, undef, undef, undef, undef, undef, undef, undef, undef, undef, undef, undef, undef, undef, undef, undef, undef, undef, undef, undef, undef, undef, undef, undef], defers := [] } W) := by
      clear a2 KB1 BC1 BD1 EN1 LC1 OC1
      intro d3 d4 d5 d6 d7 d11 d12 d13 d14 d15 d16 d17 d18 d19 d20 d21 d22 d23 d24 d25 d26 d27 d28 d29 d30 d31 d32 d33 d34 d35 d36 d37 d38 d39 d40 d41 d42 d43 d44 d45 d46 d47 d48 d49 d50 d51 d52 d53 d54 WX1 bx1
      have BX1 : Hid (Below w.heap.size w WX1) := bx1
      clear bx1
      refine a1 _ _ ?_
      clear a1
      go_wp2_with fail
      refine (CP.out _ BX1.out).mono ?_
      rintro e wa2 ⟨va2, rfl, ra2, ba2⟩
      have BA2 : Hid (Below w.heap.size w wa2) := below_trans BX1.out ba2
      have RA2 : Hid (RdB wa2 va2 bs) := ra2
      clear ra2 ba2 BX1
      go_wp2_with fail
      refine (DNotice.out _ _ RA2.out).mono ?_
      rintro e wb2 ⟨C2, k2, rfl, lc, oc, bb2, en2⟩
      have LC2 : Hid (C2.length = 6) := lc
      have OC2 : Hid (∀ u ∈ C2, u.oneCell' = true) := oc
      have BB2 : Hid (Below w.heap.size w wb2) := below_trans BA2.out bb2
      have EN2 : Hid (k2 = true → ∀ W', Below wb2.heap.size wb2 W' → Calls Try.prog 12 #[.agg C2.toArray] W' (NewB W' bs)) := en2
      clear lc oc bb2 en2 BA2 RA2
      obtain ⟨E2, hE2⟩ : ∃ E, wb2.heap.size = E := ⟨_, rfl⟩
      have NN2 : Hid (Blk E2 28 [.int .i64 0, .int .i64 0, .int .i64 0, .int .i64 0, .int .i64 0, .bool false] (wb2.alloc (.cells #[.int .i64 0, .int .i64 0, .int .i64 0, .int .i64 0, .int .i64 0, .bool false] 28))) := by rw [← hE2]; exact Blk.new _ _ _
      have NB2 : Hid (Below wb2.heap.size wb2 (wb2.alloc (.cells #[.int .i64 0, .int .i64 0, .int .i64 0, .int .i64 0, .int .i64 0, .bool false] 28))) := below_alloc _ _
      have HE2 : Hid (wb2.heap.size ≤ E2) := Nat.le_of_eq hE2
      go_upto_region 11 with ((with_reducible refine at_store ?_); (try rw [hE2]); refine step_store rfl 28 _ _ rfl E2 0 28 [.int .i64 0, .int .i64 0, .int .i64 0, .int .i64 0, .int .i64 0, .bool false] C2 rfl rfl NN2.out (by rw [LC2.out]; show 0 + 6 ≤ 6; omega) (szcNotice LC2.out) OC2.out ?_; intro wc2 nb gb; rw [store_all (by rw [LC2.out]; rfl)] at nb)
      have KB2 : Hid (Blk E2 28 C2 wc2) := nb
      have BC2 : Hid (Below wb2.heap.size wb2 wc2) := below_past2 NB2.out gb HE2.out
      have BD2 : Hid (Below w.heap.size w wc2) := below_trans BB2.out BC2.out
      clear nb gb NN2 NB2 HE2 hE2 BB2
      rename_i K1 a1 K2 a2
      have JN2 : Hid (∀ (d3 d4 d5 d6 d7 d8 d11 d12 d13 d14 d15 d16 d17 d18 d19 d20 d21 d22 d23 d24 d25 d26 d27 d28 d29 d30 d31 d32 d33 d34 d35 d36 d37 d38 d39 d40 d41 d42 d43 d44 d45 d46 d47 d48 d49 d50 d51 d52 d53 d54 d55 d56 d57 d58 d59 d60 d61 d62 d63 d64 d65 d66 d67 d68 : Value) (W : World), Below w.heap.size w W → K1 { tmps := #[v, undef, .bool false, d3, d4, d5, d6, d7, d8, undef, undef, d11, d12, d13, d14, d15, d16, d17, d18, d19, d20, d21, d22, d23, d24, d25, d26, d27, d28, d29, d30, d31, d32, d33, d34, d35, d36, d37, d38, d39, d40, d41, d42, d43, d44, d45, d46, d47, d48, d49, d50, d51, d52, d53, d54, d55, d56, d57, d58, d59, d60, d61, d62, d63, d64, d65, d66, d67, d68, undef, undef, undef, undef, undef, undef, undef, undef, undef, undef, undef, undef, undef, undef, undef, undef, undef, undef, undef, undef, undef, undef, undef, undef, undef, undef, undef, undef], defers := [] } W) := by
        clear a2 KB2 BC2 BD2 EN2 LC2 OC2
        intro d3 d4 d5 d6 d7 d8 d11 d12 d13 d14 d15 d16 d17 d18 d19 d20 d21 d22 d23 d24 d25 d26 d27 d28 d29 d30 d31 d32 d33 d34 d35 d36 d37 d38 d39 d40 d41 d42 d43 d44 d45 d46 d47 d48 d49 d50 d51 d52 d53 d54 d55 d56 d57 d58 d59 d60 d61 d62 d63 d64 d65 d66 d67 d68 WX2 bx2
        have BX2 : Hid (Below w.heap.size w WX2) := bx2
        clear bx2
        refine a1 _ _ ?_
        clear a1
        go_wp2_with fail
        refine (CP.out _ BX2.out).mono ?_
        rintro e wa3 ⟨va3, rfl, ra3, ba3⟩
        have BA3 : Hid (Below w.heap.size w wa3) := below_trans BX2.out ba3
        have RA3 : Hid (RdB wa3 va3 bs) := ra3
        clear ra3 ba3 BX2
        go_wp2_with fail
        refine (DLoan.out _ _ RA3.out).mono ?_
        rintro e wb3 ⟨C3, k3, rfl, lc, oc, bb3, en3⟩
        have LC3 : Hid (C3.length = 46) := lc
        have OC3 : Hid (∀ u ∈ C3, u.oneCell' = true) := oc
        have BB3 : Hid (Below w.heap.size w wb3) := below_trans BA3.out bb3
        have EN3 : Hid (k3 = true → ∀ W', Below wb3.heap.size wb3 W' → Calls Try.prog 23 #[.agg C3.toArray] W' (NewB W' bs)) := en3
        clear lc oc bb3 en3 BA3 RA3
        obtain ⟨E3, hE3⟩ : ∃ E, wb3.heap.size = E := ⟨_, rfl⟩
        have NN3 : Hid (Blk E3 65 [.int .i64 0, .int .i64 0, .int .i64 0, .int .i64 0, .int .i64 0, .int .i64 0, .int .i64 0, .slice none 0 0, .int .i64 0, .int .i64 0, .int .i64 0, .int .i64 0, .int .i64 0, .int .i64 0, .int .i64 0, .int .i64 0, .int .i64 0, .int .i64 0, .int .i64 0, .int .i64 0, .int .i64 0, .bool false, .int .i64 0, .int .i64 0, .int .i64 0, .int .i64 0, .int .i64 0, .int .i64 0, .int .i64 0, .int .i64 0, .int .i64 0, .int .i64 0, .int .i64 0, .int .i64 0, .int .i64 0, .int .i64 0, .int .i64 0, .int .i64 0, .int .i64 0, .int .i64 0, .int .i64 0, .int .i64 0, .int .i64 0, .bool false, .int .i64 0, .int .i64 0] (wb3.alloc (.cells #[.int .i64 0, .int .i64 0, .int .i64 0, .int .i64 0, .int .i64 0, .int .i64 0, .int .i64 0, .slice none 0 0, .int .i64 0, .int .i64 0, .int .i64 0, .int .i64 0, .int .i64 0, .int .i64 0, .int .i64 0, .int .i64 0, .int .i64 0, .int .i64 0, .int .i64 0, .int .i64 0, .int .i64 0, .bool false, .int .i64 0, .int .i64 0, .int .i64 0, .int .i64 0, .int .i64 0, .int .i64 0, .int .i64 0, .int .i64 0, .int .i64 0, .int .i64 0, .int .i64 0, .int .i64 0, .int .i64 0, .int .i64 0, .int .i64 0, .int .i64 0, .int .i64 0, .int .i64 0, .int .i64 0, .int .i64 0, .int .i64 0, .bool false, .int .i64 0, .int .i64 0] 65))) := by rw [← hE3]; exact Blk.new _ _ _
        have NB3 : Hid (Below wb3.heap.size wb3 (wb3.alloc (.cells #[.int .i64 0, .int .i64 0, .int .i64 0, .int .i64 0, .int .i64 0, .int .i64 0, .int .i64 0, .slice none 0 0, .int .i64 0, .int .i64 0, .int .i64 0, .int .i64 0, .int .i64 0, .int .i64 0, .int .i64 0, .int .i64 0, .int .i64 0, .int .i64 0, .int .i64 0, .int .i64 0, .int .i64 0, .bool false, .int .i64 0, .int .i64 0, .int .i64 0, .int .i64 0, .int .i64 0, .int .i64 0, .int .i64 0, .int .i64 0, .int .i64 0, .int .i64 0, .int .i64 0, .int .i64 0, .int .i64 0, .int .i64 0, .int .i64 0, .int .i64 0, .int .i64 0, .int .i64 0, .int .i64 0, .int .i64 0, .int .i64 0, .bool false, .int .i64 0, .int .i64 0] 65))) := below_alloc _ _
        have HE3 : Hid (wb3.heap.size ≤ E3) := Nat.le_of_eq hE3
        go_upto_region 14 with ((with_reducible refine at_store ?_); (try rw [hE3]); refine step_store rfl 65 _ _ rfl E3 0 65 [.int .i64 0, .int .i64 0, .int .i64 0, .int .i64 0, .int .i64 0, .int .i64 0, .int .i64 0, .slice none 0 0, .int .i64 0, .int .i64 0, .int .i64 0, .int .i64 0, .int .i64 0, .int .i64 0, .int .i64 0, .int .i64 0, .int .i64 0, .int .i64 0, .int .i64 0, .int .i64 0, .int .i64 0, .bool false, .int .i64 0, .int .i64 0, .int .i64 0, .int .i64 0, .int .i64 0, .int .i64 0, .int .i64 0, .int .i64 0, .int .i64 0, .int .i64 0, .int .i64 0, .int .i64 0, .int .i64 0, .int .i64 0, .int .i64 0, .int .i64 0, .int .i64 0, .int .i64 0, .int .i64 0, .int .i64 0, .int .i64 0, .bool false, .int .i64 0, .int .i64 0] C3 rfl rfl NN3.out (by rw [LC3.out]; show 0 + 46 ≤ 46; omega) (szcLoan LC3.out) OC3.out ?_; intro wc3 nb gb; rw [store_all (by rw [LC3.out]; rfl)] at nb)
        have KB3 : Hid (Blk E3 65 C3 wc3) := nb
        have BC3 : Hid (Below wb3.heap.size wb3 wc3) := below_past2 NB3.out gb HE3.out
        have BD3 : Hid (Below w.heap.size w wc3) := below_trans BB3.out BC3.out
        clear nb gb NN3 NB3 HE3 hE3 BB3
        rename_i K1 a1 K2 a2
        have JN3 : Hid (∀ (d3 d4 d5 d6 d7 d8 d9 d11 d12 d13 d14 d15 d16 d17 d18 d19 d20 d21 d22 d23 d24 d25 d26 d27 d28 d29 d30 d31 d32 d33 d34 d35 d36 d37 d38 d39 d40 d41 d42 d43 d44 d45 d46 d47 d48 d49 d50 d51 d52 d53 d54 d55 d56 d57 d58 d59 d60 d61 d62 d63 d64 d65 d66 d67 d68 d69 d70 d71 d72 d73 d74 d75 d76 d77 d78 d79 d80 d81 d82 : Value) (W : World), Below w.heap.size w W → K1 { tmps := #[v, undef, .bool false, d3, d4, d5, d6, d7, d8, d9, undef, d11, d12, d13, d14, d15, d16, d17, d18, d19, d20, d21, d22, d23, d24, d25, d26, d27, d28, d29, d30, d31, d32, d33, d34, d35, d36, d37, d38, d39, d40, d41, d42, d43, d44, d45, d46, d47, d48, d49, d50, d51, d52, d53, d54, d55, d56, d57, d58, d59, d60, d61, d62, d63, d64, d65, d66, d67, d68, d69, d70, d71, d72, d73, d74, d75, d76, d77, d78, d79, d80, d81, d82, undef, undef, undef, undef, undef, undef, undef, undef, undef, undef, undef, undef, undef, undef], defers := [] } W) := by
          clear a2 KB3 BC3 BD3 EN3 LC3 OC3
          intro d3 d4 d5 d6 d7 d8 d9 d11 d12 d13 d14 d15 d16 d17 d18 d19 d20 d21 d22 d23 d24 d25 d26 d27 d28 d29 d30 d31 d32 d33 d34 d35 d36 d37 d38 d39 d40 d41 d42 d43 d44 d45 d46 d47 d48 d49 d50 d51 d52 d53 d54 d55 d56 d57 d58 d59 d60 d61 d62 d63 d64 d65 d66 d67 d68 d69 d70 d71 d72 d73 d74 d75 d76 d77 d78 d79 d80 d81 d82 WX3 bx3
          have BX3 : Hid (Below w.heap.size w WX3) := bx3
          clear bx3
          refine a1 _ _ ?_
          clear a1
          go_wp2_with fail
          refine (CP.out _ BX3.out).mono ?_
          rintro e wa4 ⟨va4, rfl, ra4, ba4⟩
          have BA4 : Hid (Below w.heap.size w wa4) := below_trans BX3.out ba4
          have RA4 : Hid (RdB wa4 va4 bs) := ra4
          clear ra4 ba4 BX3
          go_wp2_with fail
          refine (DState.out _ _ RA4.out).mono ?_
          rintro e wb4 ⟨C4, k4, rfl, lc, oc, bb4, en4⟩
          have LC4 : Hid (C4.length = 3) := lc
          have OC4 : Hid (∀ u ∈ C4, u.oneCell' = true) := oc
          have BB4 : Hid (Below w.heap.size w wb4) := below_trans BA4.out bb4
          have EN4 : Hid (k4 = true → ∀ W', Below wb4.heap.size wb4 W' → Calls Try.prog 13 #[.agg C4.toArray] W' (NewB W' bs)) := en4
          clear lc oc bb4 en4 BA4 RA4
          obtain ⟨E4, hE4⟩ : ∃ E, wb4.heap.size = E := ⟨_, rfl⟩
          have NN4 : Hid (Blk E4 32 [.int .i64 0, .slice none 0 0, .slice none 0 0] (wb4.alloc (.cells #[.int .i64 0, .slice none 0 0, .slice none 0 0] 32))) := by rw [← hE4]; exact Blk.new _ _ _
          have NB4 : Hid (Below wb4.heap.size wb4 (wb4.alloc (.cells #[.int .i64 0, .slice none 0 0, .slice none 0 0] 32))) := below_alloc _ _
          have HE4 : Hid (wb4.heap.size ≤ E4) := Nat.le_of_eq hE4
          go_upto_region 17 with ((with_reducible refine at_store ?_); (try rw [hE4]); refine step_store rfl 32 _ _ rfl E4 0 32 [.int .i64 0, .slice none 0 0, .slice none 0 0] C4 rfl rfl NN4.out (by rw [LC4.out]; show 0 + 3 ≤ 3; omega) (szcState LC4.out) OC4.out ?_; intro wc4 nb gb; rw [store_all (by rw [LC4.out]; rfl)] at nb)
          have KB4 : Hid (Blk E4 32 C4 wc4) := nb
          have BC4 : Hid (Below wb4.heap.size wb4 wc4) := below_past2 NB4.out gb HE4.out
          have BD4 : Hid (Below w.heap.size w wc4) := below_trans BB4.out BC4.out
          clear nb gb NN4 NB4 HE4 hE4 BB4
          cases k4 with
          | false =>
            go_wp2_with fail
            go_ret
            exact ⟨rfl, BD4.out⟩
          | true =>
            go_wp2_with ((with_reducible refine at_loadGC 32 ?_); refine step_loadGC rfl 32 _ rfl E4 0 rfl C4 _ KB4.out.all Try.underlying32 rfl (szcState LC4.out) ?_)
            refine (EN4.out (by trivial) _ BC4.out).mono ?_
            rintro e wd ⟨ve, rfl, re, be⟩
            have BE : Hid (Below w.heap.size w wd) := below_trans BD4.out be
            have RE : Hid (RdB wd ve bs) := RowV.rd re
            clear re be BD4 BC4 KB4
            go_wp2_with fail
            refine (SM.out _ _ BE.out RE.out).mono ?_
            rintro e wf ⟨rfl, bf⟩
            have BF : Hid (Below w.heap.size w wf) := below_trans BE.out bf
            clear bf BE RE
            go_wp2_with fail
            go_ret
            exact ⟨rfl, BF.out⟩
        clear a1
        cases k3 with
        | false =>
          go_wp2_with fail
          exact JN3.out _ _ _ _ _ _ _ _ _ _ _ _ _ _ _ _ _ _ _ _ _ _ _ _ _ _ _ _ _ _ _ _ _ _ _ _ _ _ _ _ _ _ _ _ _ _ _ _ _ _ _ _ _ _ _ _ _ _ _ _ _ _ _ _ _ _ _ _ _ _ _ _ _ _ _ _ _ _ _ _ BD3.out
        | true =>
          go_wp2_with ((with_reducible refine at_loadGC 65 ?_); refine step_loadGC rfl 65 _ rfl E3 0 rfl C3 _ KB3.out.all Try.underlying65 rfl (szcLoan LC3.out) ?_)
          refine (EN3.out (by trivial) _ BC3.out).mono ?_
          rintro e wd ⟨ve, rfl, re, be⟩
          have BE : Hid (Below w.heap.size w wd) := below_trans BD3.out be
          have RE : Hid (RdB wd ve bs) := RowV.rd re
          clear re be BD3 BC3 KB3
          go_wp2_with fail
          refine (SM.out _ _ BE.out RE.out).mono ?_
          rintro e wf ⟨rfl, bf⟩
          have BF : Hid (Below w.heap.size w wf) := below_trans BE.out bf
          clear bf BE RE
          go_wp2_with fail
          exact JN3.out _ _ _ _ _ _ _ _ _ _ _ _ _ _ _ _ _ _ _ _ _ _ _ _ _ _ _ _ _ _ _ _ _ _ _ _ _ _ _ _ _ _ _ _ _ _ _ _ _ _ _ _ _ _ _ _ _ _ _ _ _ _ _ _ _ _ _ _ _ _ _ _ _ _ _ _ _ _ _ _ BF.out
      clear a1
      cases k2 with
      | false =>
        go_wp2_with fail
        exact JN2.out _ _ _ _ _ _ _ _ _ _ _ _ _ _ _ _ _ _ _ _ _ _ _ _ _ _ _ _ _ _ _ _ _ _ _ _ _ _ _ _ _ _ _ _ _ _ _ _ _ _ _ _ _ _ _ _ _ _ _ _ _ _ _ _ _ BD2.out
      | true =>
        go_wp2_with ((with_reducible refine at_loadGC 28 ?_); refine step_loadGC rfl 28 _ rfl E2 0 rfl C2 _ KB2.out.all Try.underlying28 rfl (szcNotice LC2.out) ?_)
        refine (EN2.out (by trivial) _ BC2.out).mono ?_
        rintro e wd ⟨ve, rfl, re, be⟩
        have BE : Hid (Below w.heap.size w wd) := below_trans BD2.out be
        have RE : Hid (RdB wd ve bs) := RowV.rd re
        clear re be BD2 BC2 KB2
        go_wp2_with fail
        refine (SM.out _ _ BE.out RE.out).mono ?_
        rintro e wf ⟨rfl, bf⟩
        have BF : Hid (Below w.heap.size w wf) := below_trans BE.out bf
        clear bf BE RE
        go_wp2_with fail
        exact JN2.out _ _ _ _ _ _ _ _ _ _ _ _ _ _ _ _ _ _ _ _ _ _ _ _ _ _ _ _ _ _ _ _ _ _ _ _ _ _ _ _ _ _ _ _ _ _ _ _ _ _ _ _ _ _ _ _ _ _ _ _ _ _ _ _ _ BF.out
    clear a1
    cases k1 with
    | false =>
      go_wp2_with fail
      exact JN1.out _ _ _ _ _ _ _ _ _ _ _ _ _ _ _ _ _ _ _ _ _ _ _ _ _ _ _ _ _ _ _ _ _ _ _ _ _ _ _ _ _ _ _ _ _ _ _ _ _ _ BD1.out
    | true =>
      go_wp2_with ((with_reducible refine at_loadGC 26 ?_); refine step_loadGC rfl 26 _ rfl E1 0 rfl C1 _ KB1.out.all Try.underlying26 rfl (szcRecord LC1.out) ?_)
      refine (EN1.out (by trivial) _ BC1.out).mono ?_
      rintro e wd ⟨ve, rfl, re, be⟩
      have BE : Hid (Below w.heap.size w wd) := below_trans BD1.out be
      have RE : Hid (RdB wd ve bs) := RowV.rd re
      clear re be BD1 BC1 KB1
      go_wp2_with fail
      refine (SM.out _ _ BE.out RE.out).mono ?_
      rintro e wf ⟨rfl, bf⟩
      have BF : Hid (Below w.heap.size w wf) := below_trans BE.out bf
      clear bf BE RE
      go_wp2_with fail
      exact JN1.out _ _ _ _ _ _ _ _ _ _ _ _ _ _ _ _ _ _ _ _ _ _ _ _ _ _ _ _ _ _ _ _ _ _ _ _ _ _ _ _ _ _ _ _ _ _ _ _ _ _ BF.out
  clear a1
  cases k0 with
  | false =>
    go_wp2_with fail
    exact JN0.out _ _ _ _ _ _ _ _ _ _ _ _ _ _ _ _ _ _ _ _ _ _ _ _ _ _ _ _ _ _ _ _ _ _ _ BD0.out
  | true =>
    go_wp2_with ((with_reducible refine at_loadGC 23 ?_); refine step_loadGC rfl 23 _ rfl E0 0 rfl C0 _ KB0.out.all Try.underlying23 rfl (szcOp LC0.out) ?_)
    refine (EN0.out (by trivial) _ BC0.out).mono ?_
    rintro e wd ⟨ve, rfl, re, be⟩
    have BE : Hid (Below w.heap.size w wd) := below_trans BD0.out be
    have RE : Hid (RdB wd ve bs) := RowV.rd re
    clear re be BD0 BC0 KB0
    go_wp2_with fail
    refine (SM.out _ _ BE.out RE.out).mono ?_
    rintro e wf ⟨rfl, bf⟩
    have BF : Hid (Below w.heap.size w wf) := below_trans BE.out bf
    clear bf BE RE
    go_wp2_with fail
    exact JN0.out _ _ _ _ _ _ _ _ _ _ _ _ _ _ _ _ _ _ _ _ _ _ _ _ _ _ _ _ _ _ _ _ _ _ _ BF.out
end Go.Proofs.Ytdbjjeaflfoppaa
