/-
  Ours: the box where it lies; New, Ack, Add (gen_ob2.py: THE SEAT's OWN NUMBERS).
-/
import Derived.Test.YteppdlaoeoeplaaObOwn
namespace Go.Proofs.Yteppdlaoeoeplaa
open Go.RowKit ObM LedM PolM
set_option linter.unusedSimpArgs false

def Bd (B : Nat → Prop) (w : World) (a : Option Addr) (n c : Nat) (bs : List Nat) : Prop := RdB w (.slice a n c) bs ∧ ∀ g, (Value.slice a n c).ownBlock = some g → B g
theorem Bd.kp {B M : Nat → Prop} {w w' : World} {a : Option Addr} {n c : Nat} {bs : List Nat} (h : Bd B w a n c bs) (k : Kp M w w') (hm : ∀ g, B g → ¬ M g) : Bd B w' a n c bs := ⟨h.1.kp k (fun g e => hm g (h.2 g e)), h.2⟩
theorem Bd.mono {B B' : Nat → Prop} {w : World} {a : Option Addr} {n c : Nat} {bs : List Nat} (h : Bd B w a n c bs) (hb : ∀ g, B g → B' g) : Bd B' w a n c bs := ⟨h.1, fun g e => hb g (h.2 g e)⟩
/-- A box: R its struct, bm its map, B the blocks where its bytes lie, l its rules. -/
structure BoxV (R bm : Nat) (B : Nat → Prop) (l : List Int) (L : List En) (w : World) : Prop where
  blk : Blk R 53 (polL l (.slice none 0 0) ++ [.map (some bm)]) w
  ll : l.length = 17
  mp : MapAt bm L w
  rise : Rise L
  bd : ∀ e ∈ L, Bd B w e.ba e.bn e.bc e.bs ∧ e.bs.length ≤ 140737488351232
  ok : ∀ e ∈ L, 1 ≤ e.id ∧ e.id ≤ 9223372036854775807 ∧ i64 e.nx
  b : ∀ g, B g → g < w.heap.size ∧ g ≠ bm ∧ g ≠ R
section
variable {R bm : Nat} {B : Nat → Prop} {l : List Int} {L : List En} {w w' : World}
theorem BoxV.cm (h : BoxV R bm B l L w) : w.cell? ⟨R, 18, none⟩ = some (.map (some bm)) := h.blk.cell 18 _ (by
  rw [List.getElem?_append_right (by rw [polL_len h.ll]; omega), polL_len h.ll]; rfl)
theorem BoxV.ne (h : BoxV R bm B l L w) : R ≠ bm := by
  obtain ⟨es, c, hb, _⟩ := h.mp
  exact ne_map h.blk hb
theorem BoxV.below (h : BoxV R bm B l L w) (b : Below w.heap.size w w') : BoxV R bm B l L w' :=
  ⟨h.blk.below b, h.ll, h.mp.same (b.block bm h.mp.lt), h.rise, fun e he => ⟨(h.bd e he).1.kp (Kp.of_below b (fun _ => False)) (fun _ _ q => q), (h.bd e he).2⟩, h.ok, fun g hg => ⟨Nat.lt_of_lt_of_le (h.b g hg).1 b.size, (h.b g hg).2⟩⟩
/-- The box stays where others write. -/
theorem BoxV.kp {M : Nat → Prop} (h : BoxV R bm B l L w) (k : Kp M w w') (hR : ¬ M R) (hm : ¬ M bm) (hB : ∀ g, B g → ¬ M g) : BoxV R bm B l L w' :=
  ⟨h.blk.kp k hR, h.ll, h.mp.same (k.block bm h.mp.lt hm), h.rise, fun e he => ⟨(h.bd e he).1.kp k hB, (h.bd e he).2⟩, h.ok, fun g hg => ⟨Nat.lt_of_lt_of_le (h.b g hg).1 k.size, (h.b g hg).2⟩⟩
theorem BoxV.ids (h : BoxV R bm B l L w) : ∀ e ∈ L, -9223372036854775808 ≤ e.id ∧ e.id ≤ 9223372036854775807 := fun e he => by have := h.ok e he; omega
end
/-- What a call leaves. -/
structure OPost (R bm : Nat) (B : Nat → Prop) (l : List Int) (w : World) (L' : List En) (B' : Nat → Prop) (w' : World) : Prop where
  box : BoxV R bm B' l L' w'
  b : ∀ g, B' g → B g ∨ w.heap.size ≤ g
  b' : ∀ g, B g → B' g
  k : Kp (fun g => g = bm) w w'
theorem OPost.refl {R bm : Nat} {B : Nat → Prop} {l : List Int} {L : List En} {w w' : World} (h : BoxV R bm B l L w) (b : Below w.heap.size w w') : OPost R bm B l w L B w' := ⟨h.below b, fun _ q => .inl q, fun _ q => q, Kp.of_below b _⟩
theorem OPost.trans {R bm : Nat} {B B1 B2 : Nat → Prop} {l : List Int} {L1 L2 : List En} {w w1 w2 : World} (h : OPost R bm B l w L1 B1 w1) (k : OPost R bm B1 l w1 L2 B2 w2) : OPost R bm B l w L2 B2 w2 :=
  ⟨k.box, fun g hg => (k.b g hg).elim (fun q => h.b g q) (fun q => .inr (Nat.le_trans h.k.size q)), fun g hg => k.b' g (h.b' g hg), h.k.trans k.k (fun _ _ q => q)⟩
/-- The map alone is written. -/
theorem BoxV.wrote {R bm : Nat} {B B' : Nat → Prop} {l : List Int} {L L' : List En} {w w' : World} (h : BoxV R bm B l L w) (g : w.grownBy w' (some bm)) (hm : MapAt bm L' w') (hr : Rise L') (hB' : ∀ g, B' g → g < w.heap.size ∧ g ≠ bm ∧ g ≠ R)
    (hb : ∀ e ∈ L', Bd B' w e.ba e.bn e.bc e.bs ∧ e.bs.length ≤ 140737488351232) (ho : ∀ e ∈ L', 1 ≤ e.id ∧ e.id ≤ 9223372036854775807 ∧ i64 e.nx) : BoxV R bm B' l L' w' := by
  have k : Kp (fun x => some bm = some x) w w' := Kp.of_grown g
  exact ⟨h.blk.grown g (fun q => h.ne (by injection q with q; exact q.symm)), h.ll, hm, hr, fun e he => ⟨(hb e he).1.kp k (fun x hx q => (hB' x hx).2.1 (by injection q with q; exact q.symm)), (hb e he).2⟩, ho, fun x hx => ⟨Nat.lt_of_lt_of_le (hB' x hx).1 g.size, (hB' x hx).2⟩⟩
theorem kp_grown {bm : Nat} {w w' : World} (g : w.grownBy w' (some bm)) : Kp (fun x => x = bm) w w' := (Kp.of_grown g).mono (fun x _ q => by injection q with q; exact q.symm)
theorem BoxV.wiped {R bm : Nat} {B : Nat → Prop} {l : List Int} {L : List En} {w w' : World} {k : Int} (h : BoxV R bm B l L w) (g : w.grownBy w' (some bm)) (hm : MapAt bm (wipe L k) w') : OPost R bm B l w (wipe L k) B w' :=
  ⟨h.wrote g hm (wipe_rise h.rise) h.b (fun e he => h.bd e (List.mem_filter.1 he).1) (fun e he => h.ok e (List.mem_filter.1 he).1), fun _ q => .inl q, fun _ q => q, kp_grown g⟩
theorem BoxV.added {R bm : Nat} {B : Nat → Prop} {l : List Int} {L : List En} {w w4 w5 : World} {id now : Int} {a : Option Addr} {n c : Nat} {bs : List Nat} (h0 : BoxV R bm B l L w) (h : BoxV R bm B l L w4) (b : Below w.heap.size w w4) (hr : RowB 5 w.heap.size w4 (.slice a n c) bs) (hn : lk L id = none) (hid : 1 ≤ id ∧ id ≤ 9223372036854775807) (hnow : i64 now) (hl : bs.length ≤ 140737488351232)
    (m : MapAt bm (⟨id, 0, now, a, n, c, bs⟩ :: L) w5) (g : w4.grownBy w5 (some bm)) : ∃ B' x, OPost R bm B l w (ins L x) B' w5 ∧ x.id = id ∧ x.att = 0 ∧ x.nx = now ∧ x.bs = bs := by
  have hne : ∀ y ∈ L, y.id ≠ id := lk_none hn
  refine ⟨fun q => B q ∨ (Value.slice a n c).ownBlock = some q, ⟨id, 0, now, a, n, c, bs⟩, ⟨?_, fun q hq => hq.imp (fun q => q) (fun q => RowV.block_ge hr q), fun q hq => .inl hq, (Kp.of_below b _).trans (kp_grown g) (fun _ _ q => q)⟩, rfl, rfl, rfl, rfl⟩
  refine h.wrote g (m.perm (ins_perm (e := ⟨id, 0, now, a, n, c, bs⟩) hne).symm) (ins_rise h.rise) (fun q hq => ?_) (fun e he => ?_) (fun e he => ?_)
  · rcases hq with hq | hq
    · exact h.b q hq
    · have h1 := RowV.block_ge hr hq
      have h2 := h0.blk.lt
      have h3 := h0.mp.lt
      exact ⟨RowV.block_lt hr hq, by omega, by omega⟩
  · rcases (ins_mem (e := ⟨id, 0, now, a, n, c, bs⟩) hne).1 he with rfl | he
    · exact ⟨⟨RowV.rd hr, fun q hq => .inr hq⟩, hl⟩
    · exact ⟨(h.bd e he).1.mono (fun q hq => .inl hq), (h.bd e he).2⟩
  · rcases (ins_mem (e := ⟨id, 0, now, a, n, c, bs⟩) hne).1 he with rfl | he
    · exact ⟨hid.1, hid.2, hnow⟩
    · exact h.ok e he

section
variable {P : Program}
theorem at_build {ops : Array Oper} {rest : List Oper} {a : Act} {w : World} {Q : Exit → Act → World → Prop} {dst : Option Tmp} (ty : TypeId) {t : TypeId} {ps : Array (Nat × Operand)} {pos : String} {af : Array Edge}
    (h : wpList P ops Q ({ dst := dst, op := .build ty ps, type := t, pos := pos, after := af, guard := none } :: rest) a w) : wpList P ops Q ({ dst := dst, op := .build ty ps, type := t, pos := pos, after := af, guard := none } :: rest) a w := h
theorem step_build2 {ops : Array Oper} {rest : List Oper} {op : Oper} {a : Act} {w : World} {Q : Exit → Act → World → Prop} (hgd : op.guard = none) (ty : TypeId) (i j : Nat) (x y : Operand) (ho : op.op = .build ty #[(i, x), (j, y)]) (u z : Value) (hx : a.eval x = u) (hy : a.eval y = z) (v : Value)
    (hr : (Instr.build ty #[(i, u), (j, z)]).run P w = .ok v w) (h : wpList P ops Q rest (a.put op.dst v) w) : wpList P ops Q (op :: rest) a w :=
  wpList_plain hgd fun _ hK => by
    unfold Oper.wp execOp
    simp only [ho, hx, hy, List.map_toArray, List.map_cons, List.map_nil, Sem.run_bind, Sem.run_pure, Result.andThen_ok, hr]
    exact hK _ _ h
end
theorem built_box (a0 a1 a2 a3 a4 a5 a6 a7 a8 a9 a10 a11 a12 a13 a14 a15 a16 : Int) (b : Nat) : Try.prog.built 53 [(0, .agg #[.int .i64 a0, .int .i64 a1, .int .i64 a2, .int .i64 a3, .int .i64 a4, .int .i64 a5, .int .i64 a6, .int .i64 a7, .int .i64 a8, .int .i64 a9, .int .i64 a10, .int .i64 a11, .int .i64 a12, .int .i64 a13, .int .i64 a14, .int .i64 a15, .int .i64 a16, .slice none 0 0]), (1, Value.map (some b))] = some (polL [a0, a1, a2, a3, a4, a5, a6, a7, a8, a9, a10, a11, a12, a13, a14, a15, a16] (.slice none 0 0) ++ [Value.map (some b)]).toArray := by kernel_rfl
theorem build_box (l : List Int) (hl : l.length = 17) (b : Nat) (w : World) : (Instr.build 53 #[(0, PV l (.slice none 0 0)), (1, .map (some b))]).run Try.prog w = .ok (.agg (polL l (.slice none 0 0) ++ [Value.map (some b)]).toArray) w := by
  match l, hl with
  | [a0, a1, a2, a3, a4, a5, a6, a7, a8, a9, a10, a11, a12, a13, a14, a15, a16], _ => exact run_build w _ _ _ (built_box a0 a1 a2 a3 a4 a5 a6 a7 a8 a9 a10 a11 a12 a13 a14 a15 a16 b)
set_option maxRecDepth 20000 in
set_option maxHeartbeats 1000000 in
theorem new_at (l hs : List Int) (s : Value) (w : World) (hl : l.length = 17) (hr : Rd w s (bkL hs)) (hb : hs.length ≤ 1152921504606846976) :
    Calls Try.prog 11 #[PV l s] w fun e w' => ∃ R bm, e = .returned (.pointer (some ⟨R, 0, none⟩)) ∧ BoxV R bm (fun _ => False) (rul l hs) [] w' ∧ Below w.heap.size w w' ∧ w.heap.size ≤ R ∧ w.heap.size ≤ bm := by
  have WH : Hid (∀ w', Below w.heap.size w w' → Calls Try.prog 16 #[PV l s] w' fun e w'' => e = .returned (PV (rul l hs) (.slice none 0 0)) ∧ Below w'.heap.size w' w'') := fun w' b => without_at l hs s w' hl (hr.later b) hb
  show Calls _ _ #[.agg (polL l s).toArray] _ _
  have BP : Hid (Blk w.heap.size 24 (polL l s) (w.alloc (.cells (polL l s).toArray 24))) := Blk.new _ _ _
  have BB : Hid (Below w.heap.size w (w.alloc (.cells (polL l s).toArray 24))) := below_alloc _ _
  have SZ : Hid ((Try.prog.info? 24).map (·.size) = some (polL l s).length) := by show _ = _; rw [polL_len hl]; exact sizeP
  have RL : Hid ((rul l hs).length = 17) := rul_len hl
  clear hr hl hb
  generalize rul l hs = rl at *
  have MM : ∀ w, (Instr.makeMap 51 none).run Try.prog w = .ok (.map (some w.heap.size)) (w.alloc (.map #[] 0)) := fun w => rfl
  go_enter Try.func11, Try.ntmps11
  go_wp2_with (refine step_load rfl 24 _ rfl w.heap.size 0 rfl (polL l s) _ (Blk.all BP.out) Try.underlying24 rfl SZ.out ?_)
  refine (WH.out _ BB.out).mono ?_
  rintro e w1 ⟨rfl, b1⟩
  have B1 : Hid (Below w.heap.size w w1) := below_trans BB.out b1
  clear b1 BB BP SZ WH
  go_wp2_with (first
    | ((with_reducible refine at_build 53 ?_); refine step_build2 rfl 53 0 1 _ _ rfl (PV rl (.slice none 0 0)) (.map (some w1.heap.size)) rfl rfl _ (build_box rl RL.out _ _) ?_))
  go_ret
  have b2 := below_alloc w1 (.map #[] 0)
  have b3 := below_alloc (w1.alloc (.map #[] 0)) (.cells (polL rl (.slice none 0 0) ++ [Value.map (some w1.heap.size)]).toArray 53)
  refine ⟨w1.heap.size + 1, w1.heap.size, rfl, ⟨Blk.new2 _ _ _ _, RL.out, (MapAt.new w1 0).same (b3.block w1.heap.size (by simp)), List.Pairwise.nil, (fun e he => by cases he), (fun e he => by cases he), fun _ h => h.elim⟩, below_trans (below_trans B1.out b2) b3, ?_, B1.out.size⟩
  have := B1.out.size
  omega

set_option maxRecDepth 20000 in
set_option maxHeartbeats 1000000 in
theorem ack_at (R bm : Nat) (B : Nat → Prop) (l : List Int) (L : List En) (id : Int) (w : World) (h : BoxV R bm B l L w) :
    Calls Try.prog 20 #[.pointer (some ⟨R, 0, none⟩), .int .i64 id] w fun e w' => e = .returned (.bool (lk L id).isSome) ∧ OPost R bm B l w (wipe L id) B w' := by
  have cm := h.cm
  have lk2 := h.mp.look2 h.rise id
  have HB : Hid (BoxV R bm B l L w) := h
  have NZ : Hid (Blk w.heap.size 78 (enL zEn) (w.alloc (.cells #[.int .i64 0, .int .i64 0, .int .i64 0, .slice none 0 0] 78))) := Blk.new _ _ _
  have ltR : R < w.heap.size := h.blk.lt
  obtain ⟨x, hx⟩ : ∃ x, (lk L id).getD zEn = x := ⟨_, rfl⟩
  rw [hx] at lk2
  generalize (lk L id).isSome = bb at *
  clear h hx
  go_enter Try.func20, Try.ntmps20
  go_upto_region 2 with (first
    | ((with_reducible refine at_store ?_); refine step_store rfl 78 _ _ rfl w.heap.size 0 78 (enL zEn) (enL x) rfl rfl NZ.out (show 0 + 4 ≤ 4 by decide) sizeEn (enL_one _) ?_; intro w2 nb2 g2))
  have B2 : Hid (BoxV R bm B l L w2 ∧ Below w.heap.size w w2) := by
    have b : Below w.heap.size w w2 := below_row (below_alloc _ _) g2 (Nat.le_refl _)
    exact ⟨HB.out.below b, b⟩
  clear nb2 g2 NZ cm lk2
  have cm2 := B2.out.1.cm
  obtain ⟨w3, h3, m3, g3⟩ := B2.out.1.mp.del B2.out.1.rise id 0
  have P3 : Hid (OPost R bm B l w (wipe L id) B w3) := (OPost.refl HB.out B2.out.2).trans (B2.out.1.wiped g3 m3)
  clear m3 g3
  go_wp2_with fail
  go_ret
  exact ⟨rfl, P3.out⟩

/-- What Add answers. -/
def addE (L : List En) (id : Int) : Int := if id < 1 then 2 else if (lk L id).isSome then 110 else 0
def AddAns (R bm : Nat) (B : Nat → Prop) (l : List Int) (L : List En) (id now : Int) (bs : List Nat) (w : World) (e : Ending) (w' : World) : Prop :=
  e = .returned (.int .i64 (addE L id)) ∧ ((addE L id ≠ 0 ∧ OPost R bm B l w L B w') ∨ (addE L id = 0 ∧ 1 ≤ id ∧ lk L id = none ∧ ∃ B' x, OPost R bm B l w (ins L x) B' w' ∧ x.id = id ∧ x.att = 0 ∧ x.nx = now ∧ x.bs = bs))
set_option maxRecDepth 20000 in
set_option maxHeartbeats 1000000 in
theorem add_at (R bm : Nat) (B : Nat → Prop) (l : List Int) (L : List En) (id now : Int) (a : Option Addr) (n c : Nat) (bs : List Nat) (w : World) (h : BoxV R bm B l L w) (hid : i64 id) (hnow : i64 now) (hr : RdB w (.slice a n c) bs) (hl : bs.length ≤ 140737488351232) :
    Calls Try.prog 17 #[.pointer (some ⟨R, 0, none⟩), .int .i64 id, .slice a n c, .int .i64 now] w (AddAns R bm B l L id now bs w) := by
  have HB : Hid (BoxV R bm B l L w) := h
  by_cases h1 : id < 1
  · have e0 : addE L id = 2 := if_pos h1
    have FIN : Hid (∀ w', OPost R bm B l w L B w' → AddAns R bm B l L id now bs w (.returned (.int .i64 2)) w') := fun w' p => ⟨by rw [e0], .inl ⟨by rw [e0]; decide, p⟩⟩
    generalize AddAns R bm B l L id now bs w = P at *
    clear h hr hid hnow e0
    go_enter Try.func17, Try.ntmps17
    go_wp2_with fail
    exact FIN.out _ (OPost.refl HB.out (Below.refl _ _))
  have d1 : ¬ (id < 1) := h1
  have cm := h.cm
  have lk2 := h.mp.look2 h.rise id
  have NZ : Hid (Blk w.heap.size 78 (enL zEn) (w.alloc (.cells #[.int .i64 0, .int .i64 0, .int .i64 0, .slice none 0 0] 78))) := Blk.new _ _ _
  have ltR : R < w.heap.size := h.blk.lt
  obtain ⟨x, hx⟩ : ∃ x, (lk L id).getD zEn = x := ⟨_, rfl⟩
  rw [hx] at lk2
  by_cases h2 : (lk L id).isSome = true
  · have e0 : addE L id = 110 := by unfold addE; rw [if_neg h1, if_pos h2]
    have FIN : Hid (∀ w', OPost R bm B l w L B w' → AddAns R bm B l L id now bs w (.returned (.int .i64 110)) w') := fun w' p => ⟨by rw [e0], .inl ⟨by rw [e0]; decide, p⟩⟩
    generalize AddAns R bm B l L id now bs w = P at *
    rw [h2] at lk2
    clear h hr hid hnow hx h2 h1 e0
    go_enter Try.func17, Try.ntmps17
    go_upto_region 4 with (first
      | ((with_reducible refine at_store ?_); refine step_store rfl 78 _ _ rfl w.heap.size 0 78 (enL zEn) (enL x) rfl rfl NZ.out (show 0 + 4 ≤ 4 by decide) sizeEn (enL_one _) ?_; intro w2 nb2 g2))
    have B2 : Hid (Below w.heap.size w w2) := below_row (below_alloc _ _) g2 (Nat.le_refl _)
    clear nb2 g2 NZ cm lk2
    go_wp2_with fail
    exact FIN.out _ (OPost.refl HB.out B2.out)
  · have e0 : addE L id = 0 := by unfold addE; rw [if_neg h1, if_neg h2]
    have LN : Hid (lk L id = none) := by
      cases hq : lk L id with
      | none => rfl
      | some y => rw [hq] at h2; exact absurd rfl h2
    have e2 : (lk L id).isSome = false := by rw [LN.out]; rfl
    have FIN : Hid (∀ w', (∃ B' x, OPost R bm B l w (ins L x) B' w' ∧ x.id = id ∧ x.att = 0 ∧ x.nx = now ∧ x.bs = bs) → AddAns R bm B l L id now bs w (.returned (.int .i64 0)) w') := fun w' p => ⟨by rw [e0], .inr ⟨e0, by omega, LN.out, p⟩⟩
    generalize AddAns R bm B l L id now bs w = P at *
    rw [e2] at lk2
    have HD : Hid ((1 ≤ id ∧ id ≤ 9223372036854775807) ∧ i64 now ∧ bs.length ≤ 140737488351232) := ⟨⟨by omega, hid.2⟩, hnow, hl⟩
    have NE : Hid (∀ w', Below w.heap.size w w' → Calls Try.prog 29 #[.int .i64 id, .slice a n c, .int .i64 now] w' fun x w'' => ∃ a' n' c', x = .returned (enV ⟨id, 0, now, a', n', c', bs⟩) ∧ RowB 5 w'.heap.size w'' (.slice a' n' c') bs ∧ Below w'.heap.size w' w'') := fun w' b => newEntry_at id now a n c bs w' (Rd.later hr b) hl
    have W0 : Hid (BoxV R bm B l L w) := h
    clear h hr hid hnow hx h2 h1 e0 e2
    go_enter Try.func17, Try.ntmps17
    go_upto_region 4 with (first
      | ((with_reducible refine at_store ?_); refine step_store rfl 78 _ _ rfl w.heap.size 0 78 (enL zEn) (enL x) rfl rfl NZ.out (show 0 + 4 ≤ 4 by decide) sizeEn (enL_one _) ?_; intro w3 nb2 g2))
    have W3 : Hid (BoxV R bm B l L w3 ∧ Below w.heap.size w w3) := by
      have b : Below w.heap.size w w3 := below_row (below_alloc _ _) g2 (Nat.le_refl _)
      exact ⟨HB.out.below b, b⟩
    have cm3 := W3.out.1.cm
    clear nb2 g2 NZ cm lk2
    go_upto_region 6 with fail
    refine wp_region_held_drew (S := fun w' => w'.cell? ⟨R, 18, none⟩ = some (.map (some bm))) (by kernel_rfl) (W3.out.1.cm) (fun hH => ?_)
    refine wpAnyH_take (i := 0) (oi := { dst := some 23, op := Op.move (Operand.tmp 0), type := 33, pos := "outbox.go:31", after := #[], guard := none }) (v := .pointer (some ⟨R, 0, none⟩)) rfl (by kernel_rfl) (by kernel_rfl) (by kernel_rfl) (fun _ _ _ h => h) (Or.inl ⟨by rfl, fun w' hs => by go_simp⟩) hH ?_
    try simp only [Act.put, List.setIfInBounds_toArray, List.set_cons_zero, List.set_cons_succ]
    refine wpAnyH_take (i := 1) (oi := { dst := some 24, op := Op.nilCheck (Operand.tmp 23), type := 0, pos := "outbox.go:31", after := #[{ on := 0, ground := Ground.data }], guard := none }) (v := .pointer (some ⟨R, 0, none⟩)) rfl (by kernel_rfl) (by kernel_rfl) (by kernel_rfl) (fun _ _ _ h => h) (Or.inl ⟨by rfl, fun w' hs => by go_simp⟩) hH ?_
    try simp only [Act.put, List.setIfInBounds_toArray, List.set_cons_zero, List.set_cons_succ]
    refine wpAnyH_take (i := 2) (oi := { dst := some 25, op := Op.fieldAddr 53 (Operand.tmp 24) 1, type := 0, pos := "outbox.go:31", after := #[{ on := 1, ground := Ground.data }], guard := none }) (v := .pointer (some ⟨R, 18, none⟩)) rfl (by kernel_rfl) (by kernel_rfl) (by kernel_rfl) (fun _ _ _ h => h) (Or.inl ⟨by rfl, fun w' hs => by go_simp⟩) hH ?_
    try simp only [Act.put, List.setIfInBounds_toArray, List.set_cons_zero, List.set_cons_succ]
    refine wpAnyH_take (i := 3) (oi := { dst := some 26, op := Op.load 51 (Operand.tmp 25), type := 51, pos := "outbox.go:31", after := #[{ on := 2, ground := Ground.data }], guard := none }) (v := .map (some bm)) rfl (by kernel_rfl) (by kernel_rfl) (by kernel_rfl) (fun _ _ _ h => h) (Or.inl ⟨by rfl, fun w' hs => by go_simp⟩) hH ?_
    try simp only [Act.put, List.setIfInBounds_toArray, List.set_cons_zero, List.set_cons_succ]
    refine wpAnyH_take (i := 4) (oi := { dst := some 27, op := Op.move (Operand.tmp 1), type := 3, pos := "outbox.go:31", after := #[], guard := none }) (v := .int .i64 id) rfl (by kernel_rfl) (by kernel_rfl) (by kernel_rfl) (fun _ _ _ h => h) (Or.inl ⟨by rfl, fun w' hs => by go_simp⟩) hH ?_
    try simp only [Act.put, List.setIfInBounds_toArray, List.set_cons_zero, List.set_cons_succ]
    refine wpAnyH_take (i := 5) (oi := { dst := some 28, op := Op.move (Operand.tmp 1), type := 3, pos := "outbox.go:31", after := #[], guard := none }) (v := .int .i64 id) rfl (by kernel_rfl) (by kernel_rfl) (by kernel_rfl) (fun _ _ _ h => h) (Or.inl ⟨by rfl, fun w' hs => by go_simp⟩) hH ?_
    try simp only [Act.put, List.setIfInBounds_toArray, List.set_cons_zero, List.set_cons_succ]
    refine wpAnyH_take (i := 6) (oi := { dst := some 29, op := Op.move (Operand.tmp 2), type := 28, pos := "outbox.go:31", after := #[], guard := none }) (v := .slice a n c) rfl (by kernel_rfl) (by kernel_rfl) (by kernel_rfl) (fun _ _ _ h => h) (Or.inl ⟨by rfl, fun w' hs => by go_simp⟩) hH ?_
    try simp only [Act.put, List.setIfInBounds_toArray, List.set_cons_zero, List.set_cons_succ]
    refine wpAnyH_take (i := 7) (oi := { dst := some 30, op := Op.move (Operand.tmp 3), type := 3, pos := "outbox.go:31", after := #[], guard := none }) (v := .int .i64 now) rfl (by kernel_rfl) (by kernel_rfl) (by kernel_rfl) (fun _ _ _ h => h) (Or.inl ⟨by rfl, fun w' hs => by go_simp⟩) hH ?_
    try simp only [Act.put, List.setIfInBounds_toArray, List.set_cons_zero, List.set_cons_succ]
    refine wpAnyH_ready (rs := [8]) (by kernel_rfl) (by simp) ?_
    refine AllReadyH.cons (o := { dst := some 31, op := Op.call { callee := Callee.value (Operand.func 29), args := #[Operand.tmp 28, Operand.tmp 29, Operand.tmp 30], argTypes := #[3, 28, 3] }, type := 78, pos := "outbox.go:31", after := #[{ on := 5, ground := Ground.data }, { on := 6, ground := Ground.data }, { on := 7, ground := Ground.data }], guard := none }) rfl (fun Kx hK => ?_) AllReadyH.nil
    go_simp
    refine (NE.out _ (Below.drew W3.out.2)).mono ?_
    rintro x w4 ⟨a1, n1, c1, rfl, r4, b4⟩
    have b4' : Below w3.heap.size w3 w4 := below_undrew b4
    have W4 : Hid (BoxV R bm B l L w4 ∧ Below w.heap.size w w4 ∧ RowB 5 w3.heap.size w4 (.slice a1 n1 c1) bs) := ⟨W3.out.1.below b4', below_trans W3.out.2 b4', r4⟩
    have SZ3 : Hid (w.heap.size ≤ w3.heap.size) := W3.out.2.size
    clear r4 b4 b4'
    refine hK.out _ _ W4.out.1.cm (fun hH => ?_)
    try simp only [Act.put, List.setIfInBounds_toArray, List.set_cons_zero, List.set_cons_succ]
    refine wpAnyH_ready (rs := [9]) (by kernel_rfl) (by simp) ?_
    refine AllReadyH.cons (o := { dst := none, op := Op.mapUpdate 51 (Operand.tmp 26) (Operand.tmp 27) (Operand.tmp 31), type := 0, pos := "outbox.go:31", after := #[{ on := 3, ground := Ground.data }, { on := 4, ground := Ground.data }, { on := 8, ground := Ground.data }, { on := 8, ground := Ground.chain }, { on := 0, ground := Ground.phase }, { on := 1, ground := Ground.phase }, { on := 2, ground := Ground.phase }, { on := 3, ground := Ground.phase }, { on := 4, ground := Ground.phase }, { on := 5, ground := Ground.phase }, { on := 6, ground := Ground.phase }, { on := 7, ground := Ground.phase }, { on := 8, ground := Ground.phase }], guard := none }) rfl (fun Kx hK => ?_) AllReadyH.nil
    obtain ⟨w5, h5, m5, g5⟩ := MapAt.put (w := w4) W4.out.1.mp W4.out.1.rise ⟨id, 0, now, a1, n1, c1, bs⟩ LN.out
    go_simp
    have P5 : Hid (∃ B' x, OPost R bm B l w (ins L x) B' w5 ∧ x.id = id ∧ x.att = 0 ∧ x.nx = now ∧ x.bs = bs) := BoxV.added W0.out W4.out.1 W4.out.2.1 (RowV.mono W4.out.2.2 SZ3.out) LN.out HD.out.1 HD.out.2.1 HD.out.2.2 m5 g5
    have C5 : w5.cell? ⟨R, 18, none⟩ = some (.map (some bm)) := by
      obtain ⟨_, _, p, _⟩ := P5.out
      exact p.box.cm
    refine hK.out _ _ C5 (fun hH => ?_)
    clear C5 h5 m5 g5
    try simp only [Act.put, List.setIfInBounds_toArray, List.set_cons_zero, List.set_cons_succ]
    refine wpAnyH_done (by kernel_rfl) ?_ _
    clear hH hK W4
    go_wp2_with fail
    exact FIN.out _ P5.out
end Go.Proofs.Yteppdlaoeoeplaa
