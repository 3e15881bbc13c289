/-
  Ours: the reference's Due (gen_oba.py: THE SEAT's OWN NUMBERS).
-/
import Derived.Test.YteppdlaoeoeplaaObRf3
import Derived.Test.YteppdlaoeoeplaaPolRf3
namespace Go.Proofs.Yteppdlaoeoeplaa
open Go.RowKit ObM LedM PolM
set_option linter.unusedSimpArgs false

theorem Outs.far {α : Type} {e : TypeId} {k : Nat} {f : α → List Value} {bv : α → Value} {bs : α → List Nat} {base : Nat} {w w' : World} {v : Value} {xs : List α} {row : Option Nat} (h : Outs e k f bv bs base w v xs) (gr : w.grownBy w' row) (h1 : ∀ g, v.ownBlock = some g → row ≠ some g) (h2 : ∀ p ∈ xs, ∀ g, (bv p).ownBlock = some g → row ≠ some g) : Outs e k f bv bs base w' v xs :=
  ⟨own_grown h.row gr h1, fun p hp => RowV.kept (h.bd p hp) gr (fun g hg q => h2 p hp g hg q), h.ap⟩
theorem Outs.mono {α : Type} {e : TypeId} {k : Nat} {f : α → List Value} {bv : α → Value} {bs : α → List Nat} {base b' : Nat} {w : World} {v : Value} {xs : List α} (h : Outs e k f bv bs base w v xs) (hB : b' ≤ base) : Outs e k f bv bs b' w v xs := ⟨own_mono h.row hB, fun p hp => RowV.mono (h.bd p hp) hB, h.ap⟩
theorem op_pushR {P : Program} {wr : World} {ops : Array Oper} {o : Oper} {a : Act} {K : Act → World → Prop} {Q : Exit → Act → World → Prop} {E : Prop} (hgd : o.guard = none) (s x : Operand) (t : TypeId)
    (ho : o.op = .call { callee := .builtin .append, args := #[s, x], argTypes := #[t, t] })
    (e : TypeId) (i : TypeInfo) (z : Value) (k by' : Nat) (ht : P.underlying t = some (.slice e)) (hi : P.info? e = some i) (hz : i.zero = some z) (hsize : i.size = k) (hby : i.bytes = by') (hzc : z.cells.size = k) (hk : 0 < k)
    (base : Nat) (v : Value) (n : Nat) (vs cs : List Value) (hc : cs.length = k) (hy : ∀ u ∈ cs, u.oneCell' = true) (hs : a.eval s = v) (hown : wr.ownsRow base e k v n vs) (hsz : base ≤ wr.heap.size)
    (hx : a.eval x = .slice (some ⟨wr.heap.size, 0, none⟩) 1 1) (hl : n + 1 ≤ maxLen) (hl2 : (n + 1) * by' ≤ 140737488355328)
    (h : ∀ a' n' c' w', w'.ownsRow base e k (.slice a' n' c') (n + 1) (vs ++ cs) → wr.grownBy w' v.ownBlock → (∀ g, (Value.slice a' n' c').ownBlock = some g → v.ownBlock = some g ∨ wr.heap.size ≤ g) → K (a.put o.dst (.slice a' n' c')) w') :
    if Region.wanted o (yielded ops a.tmps) = true then Oper.wp P o a (wr.alloc (.cells cs.toArray e)) K Q else E := by
  have hW : (wr.alloc (.cells cs.toArray e)).heap.size = wr.heap.size + 1 := by simp
  refine step_append_lies _ hgd s x t ho base e i z k by' ht hi hz hsize hby hzc hk v n vs hs (World.ownsRow.alloc hown _) ⟨wr.heap.size, 0, none⟩ 1 1 cs hx (by omega) ?_ hy (by decide) hl hl2 (by omega) (wr.heap.size + 1) hW ?_
  · intro j u hj
    exact World.news_of_block (cs := cs.toArray) (t := e) (fr := (0, 0)) (MapKept.heap_alloc wr _).1 j u (by simpa using hj)
  · intro g cap w' hown' hgrow hg _
    refine h _ _ _ w' hown' ⟨hgrow.os, hgrow.tape, hgrow.output, Nat.le_trans (by simp) hgrow.size, fun k hk hn => ?_⟩ (fun g' e' => ?_)
    · rw [hgrow.block k (by omega) hn]
      exact (below_alloc wr (.cells cs.toArray e)).block k hk
    · have : g = g' := by simpa [Value.ownBlock] using e'
      subst this
      rcases hg with h1 | h1
      · exact .inl h1
      · exact .inr (by omega)
theorem after_snoc {bo : Int → Int} {now : Int} {xs : List En} {k : Nat} {x : En} (h : xs[k]? = some x) : after bo now (xs.take (k + 1)) = after bo now (xs.take k) ++ [if x.nx ≤ now then sent bo now x else x] := by
  unfold after
  rw [List.take_add_one, h, List.map_append]
  rfl
theorem rdue_snoc {now : Int} {xs : List En} {k : Nat} {x : En} (h : xs[k]? = some x) : dueL (xs.take (k + 1)) now = dueL (xs.take k) now ++ (if decide (x.nx ≤ now) then [x] else []) := flt_snoc (p := fun e => decide (e.nx ≤ now)) h
/-- The state of the loop. -/
structure RD (w1 : World) (l hs : List Int) (xs : List En) (now : Int) (k : Nat) (v v' : Value) (ps : List Pk) (wr : World) : Prop where
  bel : Below w1.heap.size w1 wr
  row : wr.ownsRow w1.heap.size 72 4 v k ((after (boL l hs) now (xs.take k)).flatMap enL)
  out : OutP w1.heap.size wr v' ps
  eq : ps.map (fun p => (p.id, p.bs)) = (dueL (xs.take k) now).map (fun x => (x.id, x.bs))
/-- What the reference's Due answers. -/
def RDue (T : Nat → Prop) (l hs : List Int) (xs : List En) (now : Int) (w : World) (e : Ending) (w' : World) : Prop :=
  ∃ a' m' c' b' q' d' ps, e = .returned (.tuple #[.agg #[.slice a' m' c'], .slice b' q' d']) ∧ RfAns T w (after (boL l hs) now xs) a' m' c' w' ∧ OutP w.heap.size w' (.slice b' q' d') ps ∧ ps.map (fun p => (p.id, p.bs)) = (dueL xs now).map (fun x => (x.id, x.bs))

set_option maxRecDepth 40000 in
set_option maxHeartbeats 4000000 in
theorem rdue_at (T : Nat → Prop) (l hs : List Int) (s : Value) (xs : List En) (a : Option Addr) (n c : Nat) (now : Int) (w : World) (h : RL T w a n c xs) (hl : xs.length ≤ 1000000000) (hp : l.length = 17) (hr : Rd w s (bkL hs)) (hb : hs.length ≤ 1152921504606846976) (hn : i64 now) (ha : ∀ e ∈ xs, 0 ≤ e.att ∧ e.att ≤ 1000000000000000) :
    Calls Try.prog 22 #[PV l s, .agg #[.slice a n c], .int .i64 now] w (RDue T l hs xs now w) := by
  obtain ⟨i0, hi, hz0, hz1, hz2⟩ := info_parts infoPn
  obtain ⟨ik, hk0, hk1, hk2, hk3⟩ := info_parts infoPk
  have BO : Hid (∀ att, i64 att → ∀ w', Below w.heap.size w w' → Calls Try.prog 33 #[.agg (polL l s).toArray, .int .i64 att] w' fun e w'' => e = .returned (.int .i64 (boL l hs att)) ∧ Below w'.heap.size w' w'') := fun att ht w' b => rbackoff_at l hs s w' hp (hr.later b) hb att ht
  have LA : Hid (∀ att w', Calls Try.prog 32 #[.int .i64 now, .int .i64 (boL l hs att)] w' fun e w'' => e = .returned (.int .i64 (lateN now (boL l hs att))) ∧ w'' = w') := fun att w' => rlater_at now _ w' hn (by have := boL_ok l hs att; omega)
  have SZ : Hid ((Try.prog.info? 24).map (·.size) = some (polL l s).length) := by show _ = _; rw [polL_len hp]; exact sizeP
  have HA : Hid (∀ e ∈ xs, 0 ≤ e.att ∧ e.att ≤ 1000000000000000) := ha
  show Calls _ _ #[.agg (polL l s).toArray, _, _] _ _
  obtain rfl := h.n
  obtain ⟨N, hN⟩ : ∃ N, xs.length = N := ⟨_, rfl⟩
  have HN : Hid (xs.length = N) := hN
  have HR : Hid (RL T w a xs.length c xs) := h
  rw [hN] at hl HR ⊢
  clear h hN ha hr hb hn hp
  obtain ⟨Q, hQ⟩ : ∃ Q, w.heap.size = Q := ⟨_, rfl⟩
  have HQ : Hid (w.heap.size = Q) := hQ
  obtain ⟨w0, hw0⟩ : ∃ w0, w.alloc (.cells (polL l s).toArray 24) = w0 := ⟨_, rfl⟩
  obtain ⟨w1, hw1⟩ : ∃ w1, (w0.alloc (.cells #[.slice a N c] 37)).alloc (.cells #[.slice none 0 0] 37) = w1 := ⟨_, rfl⟩
  have B0 : Blk Q 24 (polL l s) w0 ∧ Below w.heap.size w w0 ∧ w0.heap.size = Q + 1 := by
    rw [← hw0, ← hQ]
    exact ⟨Blk.new _ _ _, below_alloc _ _, by simp⟩
  have B1 : Hid (Blk Q 24 (polL l s) w1 ∧ Blk (Q + 1) 37 [.slice a N c] w1 ∧ Blk (Q + 2) 37 [.slice none 0 0] w1 ∧ Below w.heap.size w w1) := by
    rw [← hw1]
    have b := below_trans (below_alloc w0 (.cells #[.slice a N c] 37)) (below_alloc _ (.cells #[.slice none 0 0] 37))
    refine ⟨B0.1.below b, ?_, ?_, below_trans B0.2.1 b⟩
    · rw [← B0.2.2]; exact (Blk.new _ [.slice a N c] w0).old _
    · have := Blk.new2 37 [.slice none 0 0] w0 (.cells #[.slice a N c] 37)
      rwa [B0.2.2] at this
  have eQ : w0.heap.size = Q + 1 := B0.2.2
  clear B0
  go_enter Try.func22, Try.ntmps22
  go_upto_region 1 with fail
  clear hQ hw1 hw0 eQ
  have D1 : Hid (RD w1 l hs xs now 0 (.slice none 0 0) (.slice none 0 0) [] w1) := ⟨Below.refl _ _, by simpa [after] using World.ownsRow_nil w1 w1.heap.size 72 4, Outs.nil _ _ _ _ _ _ _, by simp [dueL]⟩
  have cQ := B1.out.2.1.cell 0 _ rfl
  have ltQ := B1.out.2.1.lt
  go_wp2_with fail
  go_loopw [8, 9, 10] (fun v v' vk wr => ∃ k : Nat, ∃ ps va vm vc oa om oc, vk = .int .i64 (k : Int) ∧ k ≤ N ∧ v = .slice va vm vc ∧ v' = .slice oa om oc ∧ Hid (RD w1 l hs xs now k (.slice va vm vc) (.slice oa om oc) ps wr)) (fun _ _ vk _ => N - (intOf vk).toNat)
  case atStart => exact ⟨0, [], none, 0, 0, none, 0, 0, rfl, by omega, rfl, rfl, D1⟩
  case round =>
    clear D1 cQ ltQ
    obtain ⟨k, ps, va, vm, vc, oa, om, oc, rfl, hk, rfl, rfl, D⟩ := hrel
    have cQ := (B1.out.2.1.below D.out.bel).cell 0 _ rfl
    have ltQ := (B1.out.2.1.below D.out.bel).lt
    by_cases hlt : (k : Int) < (N : Int)
    · obtain ⟨x, hx⟩ : ∃ x, xs[k]? = some x := ⟨xs[k]'(by rw [HN.out]; omega), List.getElem?_eq_getElem _⟩
      obtain ⟨g, o, rfl, lg, c0, rb, lb⟩ := (HR.out.below (below_trans B1.out.2.2.2 D.out.bel)).at hx
      have RG : Hid (wr.rangeAt g (o + k * 4) (enL x)) := fun j u hu => c0 j u hu
      obtain ⟨t1, t2⟩ := HA.out x (List.mem_of_getElem? hx)
      have COP : Hid (∀ w', Below wr.heap.size wr w' → Calls Try.prog 31 #[.slice x.ba x.bn x.bc] w' (NewS w' x.bs)) := fun w' b => rcopied_at x.bs _ w' lb (Rd.later rb b)
      have BOx : Hid (∀ w', Below w.heap.size w w' → Calls Try.prog 33 #[.agg (polL l s).toArray, .int .i64 (x.att + 1)] w' fun e w'' => e = .returned (.int .i64 (boL l hs (x.att + 1))) ∧ Below w'.heap.size w' w'') := BO.out (x.att + 1) (by constructor <;> omega)
      have AF0 : Hid (after (boL l hs) now (xs.take (k + 1)) = after (boL l hs) now (xs.take k) ++ [if x.nx ≤ now then sent (boL l hs) now x else x]) := after_snoc hx
      have DU0 : Hid (dueL (xs.take (k + 1)) now = dueL (xs.take k) now ++ (if decide (x.nx ≤ now) then [x] else [])) := rdue_snoc hx
      have c00 := c0 0 _ rfl
      rw [Nat.add_zero] at c00
      obtain ⟨P, hP⟩ : ∃ P, ps.length = P := ⟨_, rfl⟩
      have HP : Hid (ps.length = P) := hP
      have hP9 : P ≤ 1000000000 := by
        have := congrArg List.length D.out.eq
        rw [List.length_map, List.length_map, hP] at this
        have := List.length_filter_le (fun e : En => decide (e.nx ≤ now)) (xs.take k)
        rw [List.length_take] at this
        unfold dueL at *
        omega
      have l1 : k + 1 ≤ maxLen := by unfold maxLen; omega
      have l2 : (k + 1) * 48 ≤ 140737488355328 := by omega
      have p1 : P + 1 ≤ maxLen := by unfold maxLen; omega
      have p2 : (P + 1) * 40 ≤ 140737488355328 := by omega
      obtain ⟨G, hG⟩ : ∃ G, wr.heap.size = G := ⟨_, rfl⟩
      have HG : Hid (wr.heap.size = G) := hG
      have NZ : Hid (Blk G 72 (enL zEn) (wr.alloc (.cells #[.int .i64 0, .int .i64 0, .int .i64 0, .slice none 0 0] 72))) := by rw [← hG]; exact Blk.new _ _ _
      clear hx c0 rb lb hP BO
      go_upto_region 7 with (first
        | (refine step_load rfl 72 _ rfl g (o + k * 4) rfl [.int .i64 x.id, .int .i64 x.att, .int .i64 x.nx, .slice x.ba x.bn x.bc] _ RG.out Try.underlying72 rfl sizePn ?_)
        | ((with_reducible refine at_store ?_); refine step_store rfl 72 _ _ rfl G 0 72 (enL zEn) [.int .i64 x.id, .int .i64 x.att, .int .i64 x.nx, .slice x.ba x.bn x.bc] rfl rfl NZ.out (show 0 + 4 ≤ 4 by decide) sizePn (enL_one x) ?_; intro w2 nb2 g2))
      have W2 : Hid (Blk G 72 [.int .i64 x.id, .int .i64 x.att, .int .i64 x.nx, .slice x.ba x.bn x.bc] w2 ∧ Below wr.heap.size wr w2) := ⟨nb2, below_row (below_alloc _ _) g2 (by have := HG.out; omega)⟩
      clear nb2 g2 NZ cQ c00 hG ltQ lg
      have c2 := W2.out.1.cell 2 _ rfl
      have lG := W2.out.1.lt
      by_cases hd : x.nx ≤ now
      · have AF : Hid (after (boL l hs) now (xs.take (k + 1)) = after (boL l hs) now (xs.take k) ++ [sent (boL l hs) now x]) := by have := AF0.out; rwa [if_pos hd] at this
        have DU : Hid (dueL (xs.take (k + 1)) now = dueL (xs.take k) now ++ [x]) := by have := DU0.out; rwa [if_pos (decide_eq_true hd)] at this
        clear AF0 DU0
        have c1 := W2.out.1.cell 1 _ rfl
        have f1 := W2.out.1.fz 1
        go_upto_region 9 with fail
        have W3 : Hid (Blk G 72 [.int .i64 x.id, .int .i64 (x.att + 1), .int .i64 x.nx, .slice x.ba x.bn x.bc] (w2.setCell ⟨G, 1, none⟩ (.int .i64 (x.att + 1))) ∧ Below wr.heap.size wr (w2.setCell ⟨G, 1, none⟩ (.int .i64 (x.att + 1)))) := ⟨W2.out.1.set _, below_row W2.out.2 (setCell_grown w2 G 1 _) (by have := HG.out; omega)⟩
        clear c1 f1 c2 lG W2
        generalize w2.setCell ⟨G, 1, none⟩ (.int .i64 (x.att + 1)) = w3 at *
        have c1 := W3.out.1.cell 1 _ rfl
        have BP : Hid (Blk Q 24 (polL l s) w3 ∧ Below w.heap.size w w3) := ⟨(B1.out.1.below D.out.bel).below W3.out.2, below_trans (below_trans B1.out.2.2.2 D.out.bel) W3.out.2⟩
        go_wp2_with (refine step_load rfl 24 _ rfl Q 0 rfl (polL l s) _ (Blk.all BP.out.1) Try.underlying24 rfl SZ.out ?_)
        refine (BOx.out _ BP.out.2).mono ?_
        rintro e w4 ⟨rfl, b4⟩
        have W4 : Hid (Blk G 72 [.int .i64 x.id, .int .i64 (x.att + 1), .int .i64 x.nx, .slice x.ba x.bn x.bc] w4 ∧ Below wr.heap.size wr w4) := ⟨W3.out.1.below b4, below_trans W3.out.2 b4⟩
        clear b4 c1 W3 BP BOx
        go_wp2_with fail
        refine (LA.out _ _).mono ?_
        rintro e w5 ⟨rfl, rfl⟩
        have c2 := W4.out.1.cell 2 _ rfl
        have f2 := W4.out.1.fz 2
        have lG := W4.out.1.lt
        go_upto_region 10 with fail
        have W6 : Hid (Blk G 72 [.int .i64 x.id, .int .i64 (x.att + 1), .int .i64 (lateN now (boL l hs (x.att + 1))), .slice x.ba x.bn x.bc] (w5.setCell ⟨G, 2, none⟩ (.int .i64 (lateN now (boL l hs (x.att + 1))))) ∧ Below wr.heap.size wr (w5.setCell ⟨G, 2, none⟩ (.int .i64 (lateN now (boL l hs (x.att + 1)))))) := ⟨W4.out.1.set _, below_row W4.out.2 (setCell_grown w5 G 2 _) (by have := HG.out; omega)⟩
        clear c2 f2 lG W4
        generalize w5.setCell ⟨G, 2, none⟩ (.int .i64 (lateN now (boL l hs (x.att + 1)))) = w6 at *
        refine wp_region_held_drew (S := fun w' => Blk G 72 [.int .i64 x.id, .int .i64 (x.att + 1), .int .i64 (lateN now (boL l hs (x.att + 1))), .slice x.ba x.bn x.bc] w') (by kernel_rfl) (W6.out.1) (fun hH => ?_)
        refine wpAnyH_take (i := 0) (oi := { dst := some 39, op := Op.move (Operand.tmp 9), type := 43, pos := "arrearsref17.go:89", after := #[], guard := none }) (v := .slice oa om oc) rfl (by kernel_rfl) (by kernel_rfl) (by kernel_rfl) (fun _ _ _ h => h) (Or.inl ⟨by rfl, fun w' hs => by go_simp⟩) hH ?_
        try simp only [Act.put, List.setIfInBounds_toArray, List.set_cons_zero, List.set_cons_succ]
        refine wpAnyH_take (i := 1) (oi := { dst := some 40, op := Op.fieldAddr 72 (Operand.tmp 11) 0, type := 0, pos := "arrearsref17.go:89", after := #[], guard := none }) (v := .pointer (some ⟨G, 0, none⟩)) rfl (by kernel_rfl) (by kernel_rfl) (by kernel_rfl) (fun _ _ _ h => h) (Or.inl ⟨by rfl, fun w' hs => by go_simp⟩) hH ?_
        try simp only [Act.put, List.setIfInBounds_toArray, List.set_cons_zero, List.set_cons_succ]
        refine wpAnyH_take (i := 2) (oi := { dst := some 41, op := Op.load 3 (Operand.tmp 40), type := 3, pos := "arrearsref17.go:89", after := #[{ on := 1, ground := Ground.data }], guard := none }) (v := .int .i64 x.id) rfl (by kernel_rfl) (by kernel_rfl) (by kernel_rfl) (fun _ _ _ h => h) (Or.inl ⟨by rfl, fun w' hs => by have c := hs.cell 0 _ rfl; go_simp⟩) hH ?_
        try simp only [Act.put, List.setIfInBounds_toArray, List.set_cons_zero, List.set_cons_succ]
        refine wpAnyH_take (i := 3) (oi := { dst := some 42, op := Op.fieldAddr 72 (Operand.tmp 11) 3, type := 0, pos := "arrearsref17.go:89", after := #[], guard := none }) (v := .pointer (some ⟨G, 3, none⟩)) rfl (by kernel_rfl) (by kernel_rfl) (by kernel_rfl) (fun _ _ _ h => h) (Or.inl ⟨by rfl, fun w' hs => by go_simp⟩) hH ?_
        try simp only [Act.put, List.setIfInBounds_toArray, List.set_cons_zero, List.set_cons_succ]
        refine wpAnyH_take (i := 4) (oi := { dst := some 43, op := Op.load 28 (Operand.tmp 42), type := 28, pos := "arrearsref17.go:89", after := #[{ on := 3, ground := Ground.data }], guard := none }) (v := .slice x.ba x.bn x.bc) rfl (by kernel_rfl) (by kernel_rfl) (by kernel_rfl) (fun _ _ _ h => h) (Or.inl ⟨by rfl, fun w' hs => by have c := hs.cell 3 _ rfl; go_simp⟩) hH ?_
        try simp only [Act.put, List.setIfInBounds_toArray, List.set_cons_zero, List.set_cons_succ]
        refine wpAnyH_ready (rs := [5]) (by kernel_rfl) (by simp) ?_
        refine AllReadyH.cons (o := { dst := some 44, op := Op.call { callee := Callee.value (Operand.func 31), args := #[Operand.tmp 43], argTypes := #[28] }, type := 28, pos := "arrearsref17.go:89", after := #[{ on := 4, ground := Ground.data }], guard := none }) rfl (fun Kx hK => ?_) AllReadyH.nil
        go_simp
        refine (COP.out _ (Below.drew W6.out.2)).mono ?_
        rintro e w7 ⟨a7, n7, c7, rfl, r7, b7⟩
        have b7' : Below w6.heap.size w6 w7 := below_undrew b7
        have r7' : RowB 5 w6.heap.size w7 (.slice a7 n7 c7) x.bs := r7
        have W7 : Hid (Blk G 72 [.int .i64 x.id, .int .i64 (x.att + 1), .int .i64 (lateN now (boL l hs (x.att + 1))), .slice x.ba x.bn x.bc] w7 ∧ Below wr.heap.size wr w7 ∧ RowB 5 wr.heap.size w7 (.slice a7 n7 c7) x.bs) := ⟨W6.out.1.below b7', below_trans W6.out.2 b7', RowV.mono r7' W6.out.2.size⟩
        clear r7 b7 r7' b7' W6
        refine hK.out _ _ W7.out.1 (fun hH => ?_)
        try simp only [Act.put, List.setIfInBounds_toArray, List.set_cons_zero, List.set_cons_succ]
        refine wpAnyH_take (i := 6) (oi := { dst := some 45, op := Op.build 67 #[(1, Operand.tmp 41), (2, Operand.tmp 44)], type := 67, pos := "arrearsref17.go:89", after := #[{ on := 2, ground := Ground.data }, { on := 5, ground := Ground.data }], guard := none }) (v := .agg #[.bool false, .int .i64 x.id, .slice a7 n7 c7]) rfl (by kernel_rfl) (by kernel_rfl) (by kernel_rfl) (fun _ _ _ h => h) (Or.inl ⟨by rfl, fun w' hs => by go_simp⟩) hH ?_
        try simp only [Act.put, List.setIfInBounds_toArray, List.set_cons_zero, List.set_cons_succ]
        refine wpAnyH_ready (rs := [7]) (by kernel_rfl) (by simp) ?_
        refine AllReadyH.cons (o := { dst := some 46, op := Op.buildSlice 43 1 #[(0, Operand.tmp 45)], type := 43, pos := "arrearsref17.go:89", after := #[{ on := 6, ground := Ground.data }], guard := none }) rfl (fun Kx hK => ?_) AllReadyH.nil
        go_simp
        refine hK.out _ _ (W7.out.1.below (below_alloc w7 (.cells #[.bool false, .int .i64 x.id, .slice a7 n7 c7] 67))) (fun hH => ?_)
        try simp only [Act.put, List.setIfInBounds_toArray, List.set_cons_zero, List.set_cons_succ]
        refine wpAnyH_ready (rs := [8]) (by kernel_rfl) (by simp) ?_
        refine AllReadyH.cons (o := { dst := some 47, op := Op.call { callee := Callee.builtin Builtin.append, args := #[Operand.tmp 39, Operand.tmp 46], argTypes := #[43, 43] }, type := 43, pos := "arrearsref17.go:89", after := #[{ on := 0, ground := Ground.data }, { on := 7, ground := Ground.data }, { on := 5, ground := Ground.chain }], guard := none }) rfl (fun Kx hK => ?_) AllReadyH.nil
        have O7 : w7.ownsRow w1.heap.size 67 3 (.slice oa om oc) P (ps.flatMap pkL) := by
          have := (D.out.out.below W7.out.2.1).row
          rwa [HP.out] at this
        refine op_pushR rfl (.tmp 39) (.tmp 46) 43 rfl 67 ik (.agg #[.bool false, .int .i64 0, .slice none 0 0]) 3 40 Try.underlying43 hk0 hk1 hk2 hk3 rfl (by decide) w1.heap.size (.slice oa om oc) P (ps.flatMap pkL) (pkL ⟨x.id, a7, n7, c7, x.bs⟩) rfl (pkL_one ⟨x.id, a7, n7, c7, x.bs⟩) rfl O7 (Nat.le_trans D.out.bel.size W7.out.2.1.size) rfl p1 p2 ?_
        intro a8 n8 c8 w8 r8 g8 x8
        have D8 : Hid (Blk G 72 [.int .i64 x.id, .int .i64 (x.att + 1), .int .i64 (lateN now (boL l hs (x.att + 1))), .slice x.ba x.bn x.bc] w8 ∧ Below w1.heap.size w1 w8 ∧ w8.ownsRow w1.heap.size 72 4 (.slice va vm vc) k ((after (boL l hs) now (xs.take k)).flatMap enL) ∧ OutP w1.heap.size w8 (.slice a8 n8 c8) (ps ++ [⟨x.id, a7, n7, c7, x.bs⟩])) := by
          refine ⟨W7.out.1.grown g8 (fun q => ?_), (below_trans D.out.bel W7.out.2.1).grown g8 (Nat.le_trans D.out.bel.size W7.out.2.1.size) (fun q e => (own_heap O7 e).1), own_grown (own_kp D.out.row (Kp.of_below W7.out.2.1 (fun _ => False)) (fun _ _ q => q)) g8 (fun q hq e => ?_), ?_⟩
          · have := own_lt D.out.out.row q; have := HG.out; omega
          · obtain ⟨_, _, h1⟩ := own_heap (own_kp D.out.row (Kp.of_below W7.out.2.1 (fun _ => False)) (fun _ _ q => q)) hq
            obtain ⟨_, _, h2⟩ := own_heap O7 e
            exact ne_ty h1 h2 (by decide) rfl
          · exact D.out.out.push (by decide) W7.out.2.1 D.out.bel.size W7.out.2.2 (by rw [HP.out]; exact r8) g8
        refine hK.out _ _ D8.out.1 (fun hH => ?_)
        clear r8 g8 x8 O7
        try simp only [Act.put, List.setIfInBounds_toArray, List.set_cons_zero, List.set_cons_succ]
        refine wpAnyH_take (i := 9) (oi := { dst := some 9, op := Op.assign (Operand.tmp 47), type := 43, pos := "arrearsref17.go:89", after := #[{ on := 8, ground := Ground.data }, { on := 8, ground := Ground.chain }, { on := 0, ground := Ground.phase }, { on := 1, ground := Ground.phase }, { on := 2, ground := Ground.phase }, { on := 3, ground := Ground.phase }, { on := 4, ground := Ground.phase }, { on := 5, ground := Ground.phase }, { on := 6, ground := Ground.phase }, { on := 7, ground := Ground.phase }, { on := 8, ground := Ground.phase }], guard := none }) (v := .slice a8 n8 c8) rfl (by kernel_rfl) (by kernel_rfl) (by kernel_rfl) (fun _ _ _ h => h) (Or.inl ⟨by rfl, fun w' hs => by go_simp⟩) hH ?_
        try simp only [Act.put, List.setIfInBounds_toArray, List.set_cons_zero, List.set_cons_succ]
        refine wpAnyH_done (by kernel_rfl) ?_ _
        clear hH hK W7
        go_wp2_with (first
          | (refine step_load rfl 72 _ rfl G 0 rfl [.int .i64 x.id, .int .i64 (x.att + 1), .int .i64 (lateN now (boL l hs (x.att + 1))), .slice x.ba x.bn x.bc] _ (Blk.all D8.out.1) Try.underlying72 rfl sizePn ?_)
          | (at_builtin; refine wpList_pushR rfl (.tmp 48) (.tmp 50) 35 rfl 72 i0 (.agg #[.int .i64 0, .int .i64 0, .int .i64 0, .slice none 0 0]) 4 48 Try.underlying35 hi hz0 hz1 hz2 rfl (by decide) w1.heap.size (.slice va vm vc) k ((after (boL l hs) now (xs.take k)).flatMap enL) [.int .i64 x.id, .int .i64 (x.att + 1), .int .i64 (lateN now (boL l hs (x.att + 1))), .slice x.ba x.bn x.bc] rfl (enL_one (sent (boL l hs) now x)) rfl D8.out.2.2.1 D8.out.2.1.size rfl l1 l2 ?_; intro a9 n9 c9 w9 r9 g9 x9))
        have D9 : Hid (RD w1 l hs xs now (k + 1) (.slice a9 n9 c9) (.slice a8 n8 c8) (ps ++ [⟨x.id, a7, n7, c7, x.bs⟩]) w9) := by
          refine ⟨D8.out.2.1.grown g9 D8.out.2.1.size (fun q e => (own_heap D8.out.2.2.1 e).1), ?_, D8.out.2.2.2.far g9 (fun q hq e => ?_) (fun p hp q hq e => ?_), ?_⟩
          · rw [AF.out, fl_snoc]; exact r9
          · obtain ⟨_, _, h1⟩ := own_heap D8.out.2.2.2.row hq
            obtain ⟨_, _, h2⟩ := own_heap D8.out.2.2.1 e
            exact ne_ty h1 h2 (by decide) rfl
          · obtain ⟨_, _, h1⟩ := own_heap (D8.out.2.2.2.bd p hp) hq
            obtain ⟨_, _, h2⟩ := own_heap D8.out.2.2.1 e
            exact ne_ty h1 h2 (by decide) rfl
          · rw [DU.out, List.map_append, List.map_append, D.out.eq]; rfl
        clear r9 g9 x9 D8 D
        go_roundw
        case rel => exact ⟨k + 1, _, a9, n9, c9, _, _, _, by go_num, by omega, rfl, rfl, D9⟩
        case measure => simp [intOf]; omega

      · have AF : Hid (after (boL l hs) now (xs.take (k + 1)) = after (boL l hs) now (xs.take k) ++ [x]) := by have := AF0.out; rwa [if_neg hd] at this
        have DU : Hid (dueL (xs.take (k + 1)) now = dueL (xs.take k) now) := by have := DU0.out; rwa [if_neg (by simpa using hd), List.append_nil] at this
        have D8 : Hid (Blk G 72 [.int .i64 x.id, .int .i64 x.att, .int .i64 x.nx, .slice x.ba x.bn x.bc] w2 ∧ Below w1.heap.size w1 w2 ∧ w2.ownsRow w1.heap.size 72 4 (.slice va vm vc) k ((after (boL l hs) now (xs.take k)).flatMap enL) ∧ OutP w1.heap.size w2 (.slice oa om oc) ps) := ⟨W2.out.1, below_trans D.out.bel W2.out.2, own_kp D.out.row (Kp.of_below W2.out.2 (fun _ => False)) (fun _ _ q => q), D.out.out.below W2.out.2⟩
        clear AF0 DU0 BOx COP
        go_wp2_with (first
          | (refine step_load rfl 72 _ rfl G 0 rfl [.int .i64 x.id, .int .i64 x.att, .int .i64 x.nx, .slice x.ba x.bn x.bc] _ (Blk.all D8.out.1) Try.underlying72 rfl sizePn ?_)
          | (at_builtin; refine wpList_pushR rfl (.tmp 48) (.tmp 50) 35 rfl 72 i0 (.agg #[.int .i64 0, .int .i64 0, .int .i64 0, .slice none 0 0]) 4 48 Try.underlying35 hi hz0 hz1 hz2 rfl (by decide) w1.heap.size (.slice va vm vc) k ((after (boL l hs) now (xs.take k)).flatMap enL) [.int .i64 x.id, .int .i64 x.att, .int .i64 x.nx, .slice x.ba x.bn x.bc] rfl (enL_one (x)) rfl D8.out.2.2.1 D8.out.2.1.size rfl l1 l2 ?_; intro a9 n9 c9 w9 r9 g9 x9))
        have D9 : Hid (RD w1 l hs xs now (k + 1) (.slice a9 n9 c9) (.slice oa om oc) (ps) w9) := by
          refine ⟨D8.out.2.1.grown g9 D8.out.2.1.size (fun q e => (own_heap D8.out.2.2.1 e).1), ?_, D8.out.2.2.2.far g9 (fun q hq e => ?_) (fun p hp q hq e => ?_), ?_⟩
          · rw [AF.out, fl_snoc]; exact r9
          · obtain ⟨_, _, h1⟩ := own_heap D8.out.2.2.2.row hq
            obtain ⟨_, _, h2⟩ := own_heap D8.out.2.2.1 e
            exact ne_ty h1 h2 (by decide) rfl
          · obtain ⟨_, _, h1⟩ := own_heap (D8.out.2.2.2.bd p hp) hq
            obtain ⟨_, _, h2⟩ := own_heap D8.out.2.2.1 e
            exact ne_ty h1 h2 (by decide) rfl
          · rw [DU.out]; exact D.out.eq
        clear r9 g9 x9 D8 D
        go_roundw
        case rel => exact ⟨k + 1, _, a9, n9, c9, _, _, _, by go_num, by omega, rfl, rfl, D9⟩
        case measure => simp [intOf]; omega

    · obtain rfl : N = k := by omega
      have TK : xs.take N = xs := List.take_of_length_le (by rw [HN.out]; exact Nat.le_refl _)
      have D9 : Hid (Below w1.heap.size w1 wr ∧ wr.ownsRow w1.heap.size 72 4 (.slice va vm vc) N ((after (boL l hs) now xs).flatMap enL) ∧ OutP w1.heap.size wr (.slice oa om oc) ps ∧ ps.map (fun p => (p.id, p.bs)) = (dueL xs now).map (fun x => (x.id, x.bs))) := by
        obtain ⟨h1, h2, h3, h4⟩ := D.out
        rw [TK] at h2 h4
        exact ⟨h1, h2, h3, h4⟩
      clear D TK
      go_wp2_with ((with_reducible refine at_store ?_); refine step_store rfl 37 _ _ rfl (Q + 2) 0 37 [.slice none 0 0] [.slice va vm vc] rfl rfl (B1.out.2.2.1.below D9.out.1) (show 0 + 1 ≤ 1 by decide) sizeRB (oneS _ _ _) ?_; intro w6 nb6 g6)
      refine ret_blk_tmp rfl rfl (Q + 2) 37 [.slice va vm vc] _ rfl (blk_whole2 (Z := [.slice none 0 0]) (by simp) nb6) Try.underlying37 rfl sizeRB ?_
      have b6 : Below w.heap.size w w6 := below_row (below_trans B1.out.2.2.2 D9.out.1) g6 (by have := HQ.out; omega)
      have lq := B1.out.2.2.1.lt
      have row6 := own_grown D9.out.2.1 g6 (fun q hq e => by injection e with e; have := (own_heap D9.out.2.1 hq).1; omega)
      have out6 := D9.out.2.2.1.far g6 (fun q hq e => by injection e with e; have := (own_heap D9.out.2.2.1.row hq).1; omega) (fun p hp q hq e => by injection e with e; have := (own_heap (D9.out.2.2.1.bd p hp) hq).1; omega)
      unfold RDue
      refine ⟨va, vm, vc, oa, om, oc, ps, rfl, ⟨_, RL.made (T := T) (by unfold after; rw [List.length_map, HN.out]) row6 B1.out.2.2.2.size HR.out.lt b6.size (fun y hy => ?_), fun g hg => hg.imp (fun q => q) (fun q => q.1), b6⟩, Outs.mono out6 B1.out.2.2.2.size, D9.out.2.2.2⟩
      obtain ⟨z, hz, rfl⟩ := List.mem_map.1 hy
      obtain ⟨j, hj, ej⟩ := List.getElem_of_mem hz
      obtain ⟨_, _, _, _, _, h4, h5⟩ := (HR.out.below b6).at (show xs[j]? = some z by rw [List.getElem?_eq_getElem hj, ej])
      have h6 := HR.out.bd z hz
      split
      · exact ⟨h4, h5, fun g hg => .inl (h6 g hg)⟩
      · exact ⟨h4, h5, fun g hg => .inl (h6 g hg)⟩
end Go.Proofs.Yteppdlaoeoeplaa
