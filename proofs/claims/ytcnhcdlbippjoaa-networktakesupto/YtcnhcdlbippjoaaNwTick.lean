/-
  Ours: Tick.
-/
import Derived.Test.YtcnhcdlbippjoaaNwArr
namespace Go.Proofs.Ytcnhcdlbippjoaa
open Go.RowKit NwM

theorem infoI : (Try.prog.info? 3).map (fun i => (i.zero, i.size, i.bytes)) = some (some (.int .i64 0), 1, 8) := by kernel_rfl
theorem wpList_pushL {P : Program} {wr : World} {ops : Array Oper} {rest : List Oper} {o : Oper} {a : Act} {Q : Exit → Act → World → Prop} (hgd : o.guard = none) (s x : Operand) (t : TypeId)
    (ho : o.op = .call { callee := .builtin .append, args := #[s, x], argTypes := #[t, t] })
    (e : TypeId) (i : TypeInfo) (z : Value) (by' : Nat) (ht : P.underlying t = some (.slice e)) (hi : P.info? e = some i) (hz : i.zero = some z) (hsize : i.size = 1) (hby : i.bytes = by') (hzc : z.cells.size = 1)
    (base : Nat) (v : Value) (vs : List Value) (y : Value) (hy : y.oneCell' = true) (hs : a.eval s = v) (hown : RowV e base wr v vs) (hsz : base ≤ wr.heap.size)
    (hx : a.eval x = .slice (some ⟨wr.heap.size, 0, none⟩) 1 1) (hl : vs.length + 1 ≤ maxLen) (hl2 : (vs.length + 1) * by' ≤ 140737488355328)
    (h : ∀ v' w', RowV e base w' v' (vs ++ [y]) → wr.grownBy w' v.ownBlock → (∀ g, v'.ownBlock = some g → v.ownBlock = some g ∨ wr.heap.size ≤ g) → wpList P ops Q rest (a.put o.dst v') w') :
    wpList P ops Q (o :: rest) a (wr.alloc (.cells #[y] e)) := by
  have hW : (wr.alloc (.cells #[y] e)).heap.size = wr.heap.size + 1 := by simp
  refine wpList_append_lies _ hgd s x t ho base e i z 1 by' ht hi hz hsize hby hzc (by decide) v vs.length vs hs (World.ownsRow.alloc hown _) ⟨wr.heap.size, 0, none⟩ 1 1 [y] hx rfl ?_ ?_ (by decide) hl hl2 (by omega) (wr.heap.size + 1) hW ?_
  · intro j u hj
    match j, hj with
    | 0, hj => simp at hj; subst hj; simp [Addr.add]
  · intro u hu; simp at hu; subst hu; exact hy
  · intro g cap w' hown' hgrow hg _
    refine h _ w' (by simpa [RowV] using hown') ⟨hgrow.os, hgrow.tape, hgrow.output, Nat.le_trans (by simp) hgrow.size, fun k hk hn => ?_⟩ (fun g' e' => ?_)
    · rw [hgrow.block k (by omega) hn]
      exact (below_alloc wr (.cells #[y] e)).block k hk
    · have : g = g' := by simpa [Value.ownBlock] using e'
      subst this
      rcases hg with h1 | h1
      · exact .inl h1
      · exact .inr (by omega)
/-- The answer of a Tick: numbers in memory of their own, apart from the network. -/
def TickAns (R : Nat) (S B : Nat → Prop) (t : Nt) (w : World) (e : Ending) (w' : World) : Prop :=
  ∃ a n c S', e = .returned (.slice a n c) ∧ RowV 3 w.heap.size w' (.slice a n c) ((tick t).2.map iv) ∧ NPost R S B w (tick t).1 S' B w' ∧ ∀ g, (Value.slice a n c).ownBlock = some g → ¬ S' g

set_option maxRecDepth 40000 in
set_option maxHeartbeats 4000000 in
theorem tick_at (R : Nat) (S B : Nat → Prop) (t : Nt) (w : World) (h : NetAt R S B t w) (hsz : sz t ≤ 999999999000) (hnow : t.now ≤ 999999999000) :
    Calls Try.prog 20 #[.pointer (some ⟨R, 0, none⟩)] w (TickAns R S B t w) := by
  obtain ⟨i0, hi0, hz0, hz1, hz2⟩ := info_parts infoI
  have hlf := h.lf
  have hS : Hid (∀ g, S g → g < w.heap.size) := fun g hg => h.s hg
  have hBB : Hid (∀ g, B g → g < w.heap.size) := fun g hg => (h.b hg).1
  obtain ⟨bm, fv, av, vs, nv⟩ := h
  have c0 := nv.c0
  have f0 := nv.fz 0
  have ltR := nv.lt
  have AR : Hid (Calls Try.prog 36 #[.pointer (some ⟨R, 0, none⟩)] (w.setCell ⟨R, 0, none⟩ (.int .i64 ((t.now + 1 : Nat) : Int))) (ArrAns R S B { t with now := t.now + 1 } (w.setCell ⟨R, 0, none⟩ (.int .i64 ((t.now + 1 : Nat) : Int))))) := arrived_at R S B _ _ ⟨bm, fv, av, vs, nv.now (t.now + 1)⟩ (by show t.now + 1 ≤ _; omega)
  have K0 : Hid (Kp S w (w.setCell ⟨R, 0, none⟩ (.int .i64 ((t.now + 1 : Nat) : Int)))) := (kR R w 0 _).mono (fun g _ e => by rw [e]; exact nv.sR)
  have MS : Hid (∀ k, sz (((arrs t).take k).foldl arr1 (beg t, [])).1 ≤ 999999999000 ∧ (((arrs t).take k).foldl arr1 (beg t, [])).1.now ≤ 999999999001 ∧ (((arrs t).take k).foldl arr1 (beg t, [])).1.fl.length = 10) := fun k => ⟨Nat.le_trans (mid_sz t hlf k) hsz, by rw [foldA_now]; show t.now + 1 ≤ _; omega, by rw [foldA_len]; simp [beg, hlf]⟩
  have AL : Hid ((arrs t).length ≤ 999999999000) := by
    show _ ≤ _
    have := row_len t ((t.now + 1) % 10)
    unfold arrs
    unfold sz at hsz
    omega
  have ea : (Nt.fl { t with now := t.now + 1 }).getD ((t.now + 1) % 10) [] = arrs t := rfl
  have eb : ({ t with now := t.now + 1, fl := t.fl.set ((t.now + 1) % 10) [] } : Nt) = beg t := rfl
  have et : tick t = (arrs t).foldl arr1 (beg t, []) := rfl
  unfold TickAns
  rw [et]
  unfold ArrAns at AR
  rw [show ({ t with now := t.now + 1 } : Nt).now % 10 = (t.now + 1) % 10 from rfl, ea, show ({ ({ t with now := t.now + 1 } : Nt) with fl := (Nt.fl { t with now := t.now + 1 }).set ((t.now + 1) % 10) [] } : Nt) = beg t from rfl] at AR
  obtain ⟨m, hm⟩ : ∃ m : Nat, t.now = m := ⟨_, rfl⟩
  rw [hm] at c0 AR K0 hnow
  rw [show ((m + 1 : Nat) : Int) = (m : Int) + 1 from by omega] at AR K0
  generalize arrs t = ps at *
  generalize beg t = tb at *
  clear nv ea eb et hm hsz hlf
  go_enter Try.func20, Try.ntmps20
  go_upto_region 3 with fail
  generalize w.setCell ⟨R, 0, none⟩ (.int .i64 ((m : Int) + 1)) = w1 at *
  go_wp2_with fail
  refine AR.out.mono ?_
  rintro e W ⟨a, c, S1, rfl, rp, n1, s1, x1, k1, b1⟩
  have NW : Hid (RowP W (.slice a ps.length c) ps ∧ NetAt R S1 B tb W ∧ (∀ g, S1 g → S g) ∧ (∀ g, (Value.slice a ps.length c).ownBlock = some g → ¬ S1 g) ∧ Kp S w W ∧ ∀ p ∈ ps, Bd B W p.ba p.bn p.bc p.bs) := ⟨rp, n1, s1, x1, K0.out.trans k1 (fun _ _ h => h), b1⟩
  clear AR K0 rp n1 s1 x1 k1 b1 c0 f0 ltR
  obtain ⟨N, hN⟩ : ∃ N, ps.length = N := ⟨_, rfl⟩
  have HN : Hid (ps.length = N) := hN
  rw [hN] at NW AL ⊢
  have hN1 : N ≤ 999999999000 := AL.out
  clear hN AL
  go_wp2_with fail
  go_loopw [16, 3] (fun vk vi wr => ∃ k : Nat, ∃ ai ni ci Sk, vk = .int .i64 (k : Int) ∧ vi = .slice ai ni ci ∧ k ≤ N ∧ RowV 3 w.heap.size wr (.slice ai ni ci) (((ps.take k).foldl arr1 (tb, [])).2.map iv) ∧ NPost R S1 B W ((ps.take k).foldl arr1 (tb, [])).1 Sk B wr ∧ ∀ g, (Value.slice ai ni ci).ownBlock = some g → ¬ Sk g ∧ W.heap.size ≤ g) (fun vk _ _ => N - (intOf vk).toNat)
  case atStart => exact ⟨0, none, 0, 0, S1, rfl, rfl, by omega, RowV.nil _ _ _, NPost.refl NW.out.2.1 (Below.refl _ _), fun g e => by cases e⟩
  case round =>
    obtain ⟨k, ai, ni, ci, Sk, rfl, rfl, hk, ri, hp, hx⟩ := hrel
    by_cases hlt : (k : Int) < (N : Int)
    · obtain ⟨p, hpk⟩ : ∃ p, ps[k]? = some p := ⟨ps[k]'(by rw [HN.out]; omega), List.getElem?_eq_getElem _⟩
      have FS : Hid ((ps.take (k + 1)).foldl arr1 (tb, []) = arr1 ((ps.take k).foldl arr1 (tb, [])) p) := foldl_snoc _ _ _ _ _ hpk
      have rw1 : RowP wr (.slice a N c) ps := own_kp NW.out.1 hp.k NW.out.2.2.2.1
      obtain ⟨g, rfl, lg⟩ : ∃ g, a = some ⟨g, 0, none⟩ ∧ g < wr.heap.size := by
        obtain ⟨g, cap, ev, -, lg, -⟩ := Row3.some rw1 (by rw [HN.out]; omega)
        injection ev with ev _ _
        exact ⟨g, ev, lg⟩
      have y0 := (Row3.cell pkL3 rw1 hpk 0 _ rfl).2
      have y1 := (Row3.cell pkL3 rw1 hpk 1 _ rfl).2
      have y2 := (Row3.cell pkL3 rw1 hpk 2 _ rfl).2
      rw [Nat.add_zero] at y0
      have bb : Bd B wr p.ba p.bn p.bc p.bs := (NW.out.2.2.2.2.2 p (List.mem_of_getElem? hpk)).kp hp.k (fun g hg => (NW.out.2.1.b hg).2)
      have ms := MS.out k
      have hil : ((ps.take k).foldl arr1 (tb, [])).2.length ≤ 999999999000 := by
        have := foldA_ids (ps.take k) (tb, [])
        simp only [List.length_take, List.length_nil] at this
        omega
      have hkN : k < N := by omega
      generalize (ps.take k).foldl arr1 (tb, []) = sk at *
      obtain ⟨tk, ids⟩ := sk
      have D : Hid (NPost R S1 B W tk Sk B wr ∧ RowV 3 w.heap.size wr (.slice ai ni ci) (ids.map iv) ∧ (∀ g, (Value.slice ai ni ci).ownBlock = some g → ¬ Sk g ∧ W.heap.size ≤ g) ∧ Bd B wr p.ba p.bn p.bc p.bs ∧ sz tk ≤ 999999999000 ∧ tk.now ≤ 999999999001 ∧ tk.fl.length = 10 ∧ ids.length ≤ 999999999000) := ⟨hp, ri, hx, bb, ms.1, ms.2.1, ms.2.2, hil⟩
      clear hp ri hx bb ms hil rw1 hpk
      by_cases hack : p.ack = true
      · rw [hack] at y0
        go_upto_region 7 with fail
        have BA := below_alloc wr (.cells #[.bool true, .int .i64 p.id, .slice p.ba p.bn p.bc] 80)
        have D2 : Hid (NPost R S1 B W tk Sk B (wr.alloc (.cells #[.bool true, .int .i64 p.id, .slice p.ba p.bn p.bc] 80)) ∧ RowV 3 w.heap.size (wr.alloc (.cells #[.bool true, .int .i64 p.id, .slice p.ba p.bn p.bc] 80)) (.slice ai ni ci) (ids.map iv) ∧ Blk wr.heap.size 80 [.bool true, .int .i64 p.id, .slice p.ba p.bn p.bc] (wr.alloc (.cells #[.bool true, .int .i64 p.id, .slice p.ba p.bn p.bc] 80))) := ⟨D.out.1.trans (NPost.refl D.out.1.net BA), RowV.later D.out.2.1 BA, Blk.new _ _ _⟩
        obtain ⟨Q, hQ⟩ : ∃ Q, wr.heap.size = Q := ⟨_, rfl⟩
        rw [hQ] at D2 ⊢
        have lwQ : Hid (wr.heap.size = Q) := hQ
        clear hQ BA
        generalize wr.alloc (.cells #[.bool true, .int .i64 p.id, .slice p.ba p.bn p.bc] 80) = w5 at *
        have q1 := D2.out.2.2.cell 1 _ rfl
        have ltQ := D2.out.2.2.lt
        have own := D2.out.2.1
        have l1 : (ids.map iv).length + 1 ≤ maxLen := by rw [List.length_map]; unfold maxLen; have := D.out.2.2.2.2.2.2.2; omega
        have l2 : ((ids.map iv).length + 1) * 8 ≤ 140737488355328 := by rw [List.length_map]; have := D.out.2.2.2.2.2.2.2; omega
        have hsz5 : w.heap.size ≤ w5.heap.size := by
          have := NW.out.2.2.2.2.1.size
          have := D2.out.1.k.size
          omega
        have OW : Hid (RowV 3 w.heap.size w5 (.slice ai ni ci) (ids.map iv)) := own
        clear own
        go_wp2_with (at_builtin; refine wpList_pushL rfl (.tmp 22) (.tmp 25) 62 rfl 3 i0 (.int .i64 0) 8 Try.underlying62 hi0 hz0 hz1 hz2 rfl w.heap.size _ _ (iv p.id) rfl rfl OW.out hsz5 rfl l1 l2 ?_; intro v6 w6 r6 g6 x6)
        go_roundw
        case rel =>
          obtain ⟨a6, c6, rfl, -, -⟩ := (RowV.rd r6).len
          have ea : arr1 (tk, ids) p = (tk, ids ++ [p.id]) := by unfold arr1; rw [if_pos hack]
          have wW := NW.out.2.2.2.2.1.size
          have n6 : NetAt R Sk B tk w6 := D2.out.1.net.kp (Kp.of_grown g6) (fun g hg e => (D.out.2.2.1 g e).1 hg) (fun g hg e => by have := hBB.out g hg; have := (D.out.2.2.1 g e).2; omega)
          refine ⟨k + 1, a6, _, c6, Sk, by go_num, rfl, by omega, ?_, ?_, fun g e => ?_⟩
          · rw [FS.out, ea, List.map_append]; exact r6
          · rw [FS.out, ea]
            exact ⟨n6, D2.out.1.s, D2.out.1.b, D2.out.1.bb, D2.out.1.k.trans (Kp.of_grown g6) (fun g lt e => by have := (D.out.2.2.1 g e).2; omega)⟩
          · rcases x6 g e with h1 | h1
            · exact D.out.2.2.1 g h1
            · have z5 := D2.out.1.k.size
              exact ⟨fun q => by have := D2.out.1.net.s q; omega, by omega⟩
        case measure => simp [intOf]; omega
      · have hack' : p.ack = false := by simpa using hack
        rw [hack'] at y0
        have BA := below_alloc wr (.cells #[.bool false, .int .i64 p.id, .slice p.ba p.bn p.bc] 80)
        have TA : Hid (∀ w', NetAt R Sk B tk w' → Bd B w' p.ba p.bn p.bc p.bs → Calls Try.prog 37 #[.pointer (some ⟨R, 12, none⟩), .agg #[.int .i64 p.id, .int .i64 ((tk.now : Nat) : Int), .slice p.ba p.bn p.bc]] w' fun e w'' => e = .returned (.tuple #[]) ∧ ∃ S', NPost R Sk B w' (taken tk (accA p tk.now)) S' B w'') := fun w' hn hb => take_at R Sk B tk w' (accA p tk.now) hn hb (by have := D.out.2.2.2.2.1; unfold sz at this; omega)
        have HO : Hid (∀ w' S', NetAt R S' B (taken tk (accA p tk.now)) w' → Calls Try.prog 38 #[.pointer (some ⟨R, 0, none⟩), .agg #[.bool true, .int .i64 p.id, .slice none 0 0]] w' fun e w'' => e = .returned (.tuple #[]) ∧ ∃ S'', NPost R S' B w' (hand (taken tk (accA p tk.now)) (ackP p.id)) S'' B w'') := fun w' S' hn => handOver_at R S' B _ w' (ackP p.id) hn (Bd.nil _ _) (by have := taken_sz tk (accA p tk.now); have := D.out.2.2.2.2.1; omega) (by rw [taken_now]; have := D.out.2.2.2.2.2.1; omega)
        have EA : Hid (arr1 (tk, ids) p = (hand (taken tk (accA p tk.now)) (ackP p.id), ids)) := by show _ = _; unfold arr1; rw [if_neg hack]
        have D2 : Hid (NPost R S1 B W tk Sk B (wr.alloc (.cells #[.bool false, .int .i64 p.id, .slice p.ba p.bn p.bc] 80)) ∧ RowV 3 w.heap.size (wr.alloc (.cells #[.bool false, .int .i64 p.id, .slice p.ba p.bn p.bc] 80)) (.slice ai ni ci) (ids.map iv) ∧ Blk wr.heap.size 80 [.bool false, .int .i64 p.id, .slice p.ba p.bn p.bc] (wr.alloc (.cells #[.bool false, .int .i64 p.id, .slice p.ba p.bn p.bc] 80)) ∧ Bd B (wr.alloc (.cells #[.bool false, .int .i64 p.id, .slice p.ba p.bn p.bc] 80)) p.ba p.bn p.bc p.bs ∧ ¬ Sk wr.heap.size ∧ ∀ g, (Value.slice ai ni ci).ownBlock = some g → g < (wr.alloc (.cells #[.bool false, .int .i64 p.id, .slice p.ba p.bn p.bc] 80)).heap.size) := ⟨D.out.1.trans (NPost.refl D.out.1.net BA), RowV.later D.out.2.1 BA, Blk.new _ _ _, D.out.2.2.2.1.kp (Kp.of_below BA (fun _ => False)) (fun _ _ h => h), fun q => Nat.lt_irrefl _ (D.out.1.net.s q), fun g e => RowV.block_lt (RowV.later D.out.2.1 BA) e⟩
        go_upto_region 8 with fail
        obtain ⟨Q, hQ⟩ : ∃ Q, wr.heap.size = Q := ⟨_, rfl⟩
        rw [hQ] at D2 ⊢
        clear hQ BA
        generalize wr.alloc (.cells #[.bool false, .int .i64 p.id, .slice p.ba p.bn p.bc] 80) = w5 at *
        obtain ⟨m2, hm2⟩ : ∃ m2 : Nat, tk.now = m2 := ⟨_, rfl⟩
        obtain ⟨bm, fv, av, vs, nv⟩ := D2.out.1.net
        have c0 := nv.c0
        rw [hm2] at c0 TA HO EA
        have SS : Hid (w5.drew.cell? ⟨R, 0, none⟩ = some (.int .i64 ((m2 : Nat) : Int)) ∧ w5.drew.cell? ⟨Q, 1, none⟩ = some (.int .i64 p.id) ∧ w5.drew.cell? ⟨Q, 2, none⟩ = some (.slice p.ba p.bn p.bc)) := ⟨c0, D2.out.2.2.1.cell 1 _ rfl, D2.out.2.2.1.cell 2 _ rfl⟩
        have ltR : R < w5.heap.size := nv.lt
        have ltQ : Q < w5.heap.size := D2.out.2.2.1.lt
        have N5 : Hid (NetAt R Sk B tk w5.drew ∧ Bd B w5.drew p.ba p.bn p.bc p.bs) := ⟨D2.out.1.net.below (Below.drew (Below.refl _ _)), D2.out.2.2.2.1.kp (M := fun _ => False) ⟨rfl, rfl, rfl, Nat.le_refl _, fun _ _ _ => rfl⟩ (fun _ _ h => h)⟩
        clear nv c0
        have KK : Hid (∀ w', (∃ S', NPost R Sk B w5.drew (taken tk (accA p m2)) S' B w') → w'.cell? ⟨R, 0, none⟩ = some (.int .i64 ((m2 : Nat) : Int)) ∧ w'.cell? ⟨Q, 1, none⟩ = some (.int .i64 p.id) ∧ w'.cell? ⟨Q, 2, none⟩ = some (.slice p.ba p.bn p.bc)) := fun w' ⟨S', q⟩ => by
          obtain ⟨bm, fv, av, vs, nv⟩ := q.net
          refine ⟨?_, cell_kp q.k D2.out.2.2.2.2.1 SS.out.2.1, cell_kp q.k D2.out.2.2.2.2.1 SS.out.2.2⟩
          rw [nv.c0, taken_now, hm2]
        have HM : Hid (tk.now = m2) := hm2
        clear hm2
        go_region_held3 (fun w' => w'.cell? ⟨R, 0, none⟩ = some (.int .i64 ((m2 : Nat) : Int)) ∧ w'.cell? ⟨Q, 1, none⟩ = some (.int .i64 p.id) ∧ w'.cell? ⟨Q, 2, none⟩ = some (.slice p.ba p.bn p.bc)) (first | assumption | exact SS.out | exact KK.out _ p6) (first
          | (go_at_call 37; refine (TA.out _ N5.out.1 N5.out.2).mono ?_; rintro e w6 ⟨rfl, p6⟩))
        have P6 : Hid (∃ S', NPost R Sk B w5.drew (taken tk (accA p m2)) S' B w6) := p6
        have Q6 := (KK.out _ p6).2.1
        have ltR6 : R < w6.heap.size := by obtain ⟨S', q⟩ := p6; have := q.k.size; exact Nat.lt_of_lt_of_le ltR this
        have ltQ6 : Q < w6.heap.size := by obtain ⟨S', q⟩ := p6; have := q.k.size; exact Nat.lt_of_lt_of_le ltQ this
        clear p6 SS KK N5 TA ltR ltQ
        obtain ⟨S6, p6⟩ := P6.out
        have H6 : Hid (NPost R Sk B w5 (taken tk (accA p m2)) S6 B w6) := ⟨p6.net, p6.s, p6.b, p6.bb, p6.k.from_drewN (n := 1)⟩
        clear P6 p6
        go_wp2_with fail
        refine (HO.out w6 S6 H6.out.net).mono ?_
        rintro e w7 ⟨rfl, S7, p7⟩
        have H7 : Hid (NPost R Sk B w5 (hand (taken tk (accA p m2)) (ackP p.id)) S7 B w7) := H6.out.trans p7
        clear H6 HO p7 Q6 ltR6 ltQ6
        go_wp2_with fail
        go_roundw
        case rel =>
          refine ⟨k + 1, ai, ni, ci, S7, by go_num, rfl, by omega, ?_, ?_, fun g e => ?_⟩
          · rw [FS.out, EA.out]
            exact RowV.kp D2.out.2.1 H7.out.k (fun g e => (D.out.2.2.1 g e).1)
          · rw [FS.out, EA.out]
            exact D2.out.1.trans H7.out
          · exact ⟨H7.out.out (D2.out.2.2.2.2.2 g e) (D.out.2.2.1 g e).1, (D.out.2.2.1 g e).2⟩
        case measure => simp [intOf]; omega
    · obtain rfl : k = N := by omega
      have e1 : (ps.take k) = ps := List.take_of_length_le (by rw [HN.out]; exact Nat.le_refl _)
      rw [e1] at hp ri
      have FN : Hid (RowV 3 w.heap.size wr (.slice ai ni ci) ((ps.foldl arr1 (tb, [])).2.map iv) ∧ NPost R S B w (ps.foldl arr1 (tb, [])).1 Sk B wr ∧ ∀ g, (Value.slice ai ni ci).ownBlock = some g → ¬ Sk g) := by
        refine ⟨ri, ⟨hp.net, fun g hg => (hp.s g hg).imp (NW.out.2.2.1 g) (fun q => Nat.le_trans NW.out.2.2.2.2.1.size q), fun g hg => (hp.b g hg).imp id (fun q => Nat.le_trans NW.out.2.2.2.2.1.size q), fun g h => h, NW.out.2.2.2.2.1.trans hp.k (fun g _ h => NW.out.2.2.1 g h)⟩, fun g e => (hx g e).1⟩
      clear hp ri hx
      go_wp2_with fail
      go_ret
      exact ⟨ai, ni, ci, rfl, FN.out.1, Sk, FN.out.2⟩
end Go.Proofs.Ytcnhcdlbippjoaa
