/-
  Ours: a notice as it is sent, told, and once it was sent (gen_ob1.py: THE SEAT's OWN NUMBERS).
-/
import Derived.Test.YteppdlaoeoeplaaObEnt
import Derived.Deep.RegionHeld
namespace Go.Proofs.Yteppdlaoeoeplaa
open Go.RowKit ObM LedM PolM
set_option linter.unusedSimpArgs false

theorem op_putO {ops : Array Oper} {op : Oper} {a : Act} {wr : World} {K : Act → World → Prop} {Q : Exit → Act → World → Prop} {E : Prop} {T : TypeId} {zs : List Value} (vs : List Value) (hl : vs.length = zs.length) (hi : (Try.prog.info? T).map (·.size) = some vs.length) (h1 : ∀ v ∈ vs, v.oneCell' = true) (hgd : op.guard = Option.none) (x y : Operand) (ho : op.op = .store T x y)
    (G : Nat) (hx : a.eval x = .pointer (some ⟨G, 0, Option.none⟩)) (hy : a.eval y = .agg vs.toArray) (hb : Blk G T zs wr)
    (h : ∀ w', Blk G T vs w' → wr.grownBy w' (some G) → K (a.put op.dst undef) w') : if Region.wanted op (yielded ops a.tmps) = true then Oper.wp Try.prog op a wr K Q else E := by
  have hwd : Region.wanted op (yielded ops a.tmps) = true := by simp [Region.wanted, hgd]
  rw [if_pos hwd]
  unfold Oper.wp execOp
  simp only [ho, hx, hy, Instr.storeAt, Instr.sureAddr, Sem.run_bind, Sem.run_pure, Result.andThen_ok, run_storeVar_blk wr G 0 T T zs vs hb (by omega) hi h1]
  have nb := setRow_heap wr G _ (zs.take 0 ++ vs ++ zs.drop (0 + vs.length)).toArray T _ hb
  have g := setRow_grown wr G (zs.take 0 ++ vs ++ zs.drop (0 + vs.length)).toArray
  have e : zs.take 0 ++ vs ++ zs.drop (0 + vs.length) = vs := by rw [Nat.zero_add, hl, List.drop_length]; simp
  rw [e] at nb g ⊢
  exact h _ nb g
theorem below_undrew {w w1 : World} (b : Below w.drew.heap.size w.drew w1) : Below w.heap.size w w1 := ⟨b.os, b.tape, b.output, b.size, b.block⟩
def zPk : List Value := [.bool false, .int .i64 0, .slice none 0 0]
theorem pkO_one (id : Int) (a : Option Addr) (n c : Nat) : ∀ v ∈ [Value.bool false, .int .i64 id, .slice a n c], v.oneCell' = true := fun v hv => by simp at hv; rcases hv with rfl | rfl | rfl <;> rfl

set_option maxRecDepth 20000 in
set_option maxHeartbeats 1000000 in
theorem packet_at (e : En) (w : World) (hr : RdB w e.bv e.bs) (hl : e.bs.length ≤ 140737488351232) :
    Calls Try.prog 35 #[enV e] w fun x w' => ∃ a n c, x = .returned (.agg #[.bool false, .int .i64 e.id, .slice a n c]) ∧ RowB 5 w.heap.size w' (.slice a n c) e.bs ∧ Below w.heap.size w w' := by
  obtain ⟨Q, hQ⟩ : ∃ Q, w.heap.size = Q := ⟨_, rfl⟩
  have HQ : Hid (w.heap.size = Q) := hQ
  have B0 : Hid (Blk Q 78 (enL e) ((w.alloc (.cells #[.int .i64 e.id, .int .i64 e.att, .int .i64 e.nx, .slice e.ba e.bn e.bc] 78)).alloc (.cells #[.bool false, .int .i64 0, .slice none 0 0] 67)) ∧ Blk (Q + 1) 67 zPk ((w.alloc (.cells #[.int .i64 e.id, .int .i64 e.att, .int .i64 e.nx, .slice e.ba e.bn e.bc] 78)).alloc (.cells #[.bool false, .int .i64 0, .slice none 0 0] 67)) ∧ Below w.heap.size w ((w.alloc (.cells #[.int .i64 e.id, .int .i64 e.att, .int .i64 e.nx, .slice e.ba e.bn e.bc] 78)).alloc (.cells #[.bool false, .int .i64 0, .slice none 0 0] 67))) := by
    refine ⟨?_, ?_, below_trans (below_alloc _ _) (below_alloc _ _)⟩
    · rw [← hQ]; exact (Blk.new _ (enL e) w).old _
    · rw [← hQ]; exact Blk.new2 _ zPk w _
  have CL : Hid (Calls Try.prog 42 #[.slice e.ba e.bn e.bc] ((w.alloc (.cells #[.int .i64 e.id, .int .i64 e.att, .int .i64 e.nx, .slice e.ba e.bn e.bc] 78)).alloc (.cells #[.bool false, .int .i64 0, .slice none 0 0] 67)).drew (NewS ((w.alloc (.cells #[.int .i64 e.id, .int .i64 e.att, .int .i64 e.nx, .slice e.ba e.bn e.bc] 78)).alloc (.cells #[.bool false, .int .i64 0, .slice none 0 0] 67)).drew e.bs)) := clone_at _ _ _ hl (Rd.later hr (Below.drew B0.out.2.2))
  clear hr hl
  go_enter Try.func35, Try.ntmps35
  go_upto_region 1 with fail
  clear hQ
  generalize (w.alloc (.cells #[.int .i64 e.id, .int .i64 e.att, .int .i64 e.nx, .slice e.ba e.bn e.bc] 78)).alloc (.cells #[.bool false, .int .i64 0, .slice none 0 0] 67) = w0 at *
  refine wp_region_held_drew (S := fun w' => Blk Q 78 (enL e) w') (by kernel_rfl) (B0.out.1) (fun hH => ?_)
  refine wpAnyH_take (i := 0) (oi := { dst := some 3, op := Op.fieldAddr 78 (Operand.tmp 1) 0, type := 0, pos := "entry.go:26", after := #[], guard := none }) (v := .pointer (some ⟨Q, 0, none⟩)) rfl (by kernel_rfl) (by kernel_rfl) (by kernel_rfl) (fun _ _ _ h => h) (Or.inl ⟨by rfl, fun w' hs => by go_simp⟩) hH ?_
  try simp only [Act.put, List.setIfInBounds_toArray, List.set_cons_zero, List.set_cons_succ]
  refine wpAnyH_take (i := 1) (oi := { dst := some 4, op := Op.fieldAddr 72 (Operand.tmp 3) 0, type := 0, pos := "entry.go:26", after := #[{ on := 0, ground := Ground.data }], guard := none }) (v := .pointer (some ⟨Q, 0, none⟩)) rfl (by kernel_rfl) (by kernel_rfl) (by kernel_rfl) (fun _ _ _ h => h) (Or.inl ⟨by rfl, fun w' hs => by go_simp⟩) hH ?_
  try simp only [Act.put, List.setIfInBounds_toArray, List.set_cons_zero, List.set_cons_succ]
  refine wpAnyH_take (i := 2) (oi := { dst := some 5, op := Op.load 3 (Operand.tmp 4), type := 3, pos := "entry.go:26", after := #[{ on := 1, ground := Ground.data }], guard := none }) (v := .int .i64 e.id) rfl (by kernel_rfl) (by kernel_rfl) (by kernel_rfl) (fun _ _ _ h => h) (Or.inl ⟨by rfl, fun w' hs => by have c := hs.cell 0 _ rfl; go_simp⟩) hH ?_
  try simp only [Act.put, List.setIfInBounds_toArray, List.set_cons_zero, List.set_cons_succ]
  refine wpAnyH_take (i := 3) (oi := { dst := some 6, op := Op.fieldAddr 78 (Operand.tmp 1) 0, type := 0, pos := "entry.go:26", after := #[], guard := none }) (v := .pointer (some ⟨Q, 0, none⟩)) rfl (by kernel_rfl) (by kernel_rfl) (by kernel_rfl) (fun _ _ _ h => h) (Or.inl ⟨by rfl, fun w' hs => by go_simp⟩) hH ?_
  try simp only [Act.put, List.setIfInBounds_toArray, List.set_cons_zero, List.set_cons_succ]
  refine wpAnyH_take (i := 4) (oi := { dst := some 7, op := Op.fieldAddr 72 (Operand.tmp 6) 3, type := 0, pos := "entry.go:26", after := #[{ on := 3, ground := Ground.data }], guard := none }) (v := .pointer (some ⟨Q, 3, none⟩)) rfl (by kernel_rfl) (by kernel_rfl) (by kernel_rfl) (fun _ _ _ h => h) (Or.inl ⟨by rfl, fun w' hs => by go_simp⟩) hH ?_
  try simp only [Act.put, List.setIfInBounds_toArray, List.set_cons_zero, List.set_cons_succ]
  refine wpAnyH_take (i := 5) (oi := { dst := some 8, op := Op.load 28 (Operand.tmp 7), type := 28, pos := "entry.go:26", after := #[{ on := 4, ground := Ground.data }], guard := none }) (v := e.bv) rfl (by kernel_rfl) (by kernel_rfl) (by kernel_rfl) (fun _ _ _ h => h) (Or.inl ⟨by rfl, fun w' hs => by have c := hs.cell 3 _ rfl; go_simp⟩) hH ?_
  try simp only [Act.put, List.setIfInBounds_toArray, List.set_cons_zero, List.set_cons_succ]
  refine wpAnyH_ready (rs := [6]) (by kernel_rfl) (by simp) ?_
  refine AllReadyH.cons (o := { dst := some 9, op := Op.call { callee := Callee.value (Operand.func 42), args := #[Operand.tmp 8], argTypes := #[28] }, type := 28, pos := "entry.go:26", after := #[{ on := 5, ground := Ground.data }], guard := none }) rfl (fun Kx hK => ?_) AllReadyH.nil
  go_simp
  refine CL.out.mono ?_
  rintro x w1 ⟨a1, n1, c1, rfl, r1, b1⟩
  replace b1 := below_undrew b1
  have B1 : Hid (Blk Q 78 (enL e) w1 ∧ Blk (Q + 1) 67 zPk w1 ∧ Below w.heap.size w w1 ∧ RowB 5 w0.heap.size w1 (.slice a1 n1 c1) e.bs) := ⟨B0.out.1.below b1, B0.out.2.1.below b1, below_trans B0.out.2.2 b1, r1⟩
  clear r1 b1
  refine hK.out _ _ B1.out.1 (fun hH => ?_)
  try simp only [Act.put, List.setIfInBounds_toArray, List.set_cons_zero, List.set_cons_succ]
  refine wpAnyH_take (i := 7) (oi := { dst := some 10, op := Op.build 67 #[(1, Operand.tmp 5), (2, Operand.tmp 9)], type := 67, pos := "entry.go:26", after := #[{ on := 2, ground := Ground.data }, { on := 6, ground := Ground.data }], guard := none }) (v := .agg #[.bool false, .int .i64 e.id, .slice a1 n1 c1]) rfl (by kernel_rfl) (by kernel_rfl) (by kernel_rfl) (fun _ _ _ h => h) (Or.inl ⟨by rfl, fun w' hs => by go_simp⟩) hH ?_
  try simp only [Act.put, List.setIfInBounds_toArray, List.set_cons_zero, List.set_cons_succ]
  refine wpAnyH_ready (rs := [8]) (by kernel_rfl) (by simp) ?_
  refine AllReadyH.cons (o := { dst := none, op := Op.store 67 (Operand.tmp 2) (Operand.tmp 10), type := 0, pos := "entry.go:26", after := #[{ on := 7, ground := Ground.data }, { on := 6, ground := Ground.chain }, { on := 0, ground := Ground.phase }, { on := 1, ground := Ground.phase }, { on := 2, ground := Ground.phase }, { on := 3, ground := Ground.phase }, { on := 4, ground := Ground.phase }, { on := 5, ground := Ground.phase }, { on := 6, ground := Ground.phase }, { on := 7, ground := Ground.phase }], guard := none }) rfl (fun Kx hK => ?_) AllReadyH.nil
  refine op_putO (zs := zPk) [.bool false, .int .i64 e.id, .slice a1 n1 c1] rfl sizePk (pkO_one _ _ _ _) rfl _ _ rfl (Q + 1) rfl rfl B1.out.2.1 ?_
  intro w2 B2 g2
  have D2 : Hid (Blk (Q + 1) 67 [.bool false, .int .i64 e.id, .slice a1 n1 c1] w2 ∧ Below w.heap.size w w2 ∧ RowB 5 w0.heap.size w2 (.slice a1 n1 c1) e.bs) := by
    refine ⟨B2, below_row B1.out.2.2.1 g2 (by have := HQ.out; omega), RowV.kept B1.out.2.2.2 g2 (fun g hg q => ?_)⟩
    have := RowV.block_ge B1.out.2.2.2 hg
    have := B0.out.2.1.lt
    injection q with q
    omega
  have E2 : Blk Q 78 (enL e) w2 := B1.out.1.grown g2 (fun q => by injection q with q; omega)
  clear B2 g2 B1
  refine hK.out _ _ E2 (fun hH => ?_)
  clear E2
  try simp only [Act.put, List.setIfInBounds_toArray, List.set_cons_zero, List.set_cons_succ]
  refine wpAnyH_done (by kernel_rfl) ?_ _
  clear hH hK
  go_wp2_with fail
  refine ret_blk rfl rfl (Q + 1) 67 _ _ rfl D2.out.1 Try.underlying67 rfl sizePk ?_
  exact ⟨a1, n1, c1, rfl, RowV.mono D2.out.2.2 B0.out.2.2.size, D2.out.2.1⟩
end Go.Proofs.Yteppdlaoeoeplaa
