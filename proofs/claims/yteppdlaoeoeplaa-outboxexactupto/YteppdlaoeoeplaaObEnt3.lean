/-
  Ours: a notice as it is told, and once it was sent.
-/
import Derived.Test.YteppdlaoeoeplaaObEnt2
namespace Go.Proofs.Yteppdlaoeoeplaa
open Go.RowKit ObM LedM PolM
set_option linter.unusedSimpArgs false

set_option maxRecDepth 20000 in
set_option maxHeartbeats 1000000 in
theorem told_at (e : En) (w : World) (hr : RdB w e.bv e.bs) (hl : e.bs.length ≤ 140737488351232) :
    Calls Try.prog 39 #[enV e] w fun x w' => ∃ a n c, x = .returned (.agg #[.int .i64 e.id, .int .i64 e.att, .int .i64 e.nx, .slice a n c]) ∧ RowB 5 w.heap.size w' (.slice a n c) e.bs ∧ Below w.heap.size w w' := by
  obtain ⟨Q, hQ⟩ : ∃ Q, w.heap.size = Q := ⟨_, rfl⟩
  have HQ : Hid (w.heap.size = Q) := hQ
  have B0 : Hid (Blk Q 78 (enL e) ((w.alloc (.cells #[.int .i64 e.id, .int .i64 e.att, .int .i64 e.nx, .slice e.ba e.bn e.bc] 78)).alloc (.cells #[.int .i64 0, .int .i64 0, .int .i64 0, .slice none 0 0] 72)) ∧ Blk (Q + 1) 72 (enL zEn) ((w.alloc (.cells #[.int .i64 e.id, .int .i64 e.att, .int .i64 e.nx, .slice e.ba e.bn e.bc] 78)).alloc (.cells #[.int .i64 0, .int .i64 0, .int .i64 0, .slice none 0 0] 72)) ∧ Below w.heap.size w ((w.alloc (.cells #[.int .i64 e.id, .int .i64 e.att, .int .i64 e.nx, .slice e.ba e.bn e.bc] 78)).alloc (.cells #[.int .i64 0, .int .i64 0, .int .i64 0, .slice none 0 0] 72))) := by
    refine ⟨?_, ?_, below_trans (below_alloc _ _) (below_alloc _ _)⟩
    · rw [← hQ]; exact (Blk.new _ (enL e) w).old _
    · rw [← hQ]; exact Blk.new2 _ (enL zEn) w _
  have CL : Hid (Calls Try.prog 42 #[.slice e.ba e.bn e.bc] ((w.alloc (.cells #[.int .i64 e.id, .int .i64 e.att, .int .i64 e.nx, .slice e.ba e.bn e.bc] 78)).alloc (.cells #[.int .i64 0, .int .i64 0, .int .i64 0, .slice none 0 0] 72)) (NewS ((w.alloc (.cells #[.int .i64 e.id, .int .i64 e.att, .int .i64 e.nx, .slice e.ba e.bn e.bc] 78)).alloc (.cells #[.int .i64 0, .int .i64 0, .int .i64 0, .slice none 0 0] 72)) e.bs)) := clone_at _ _ _ hl (Rd.later hr B0.out.2.2)
  clear hr hl
  go_enter Try.func39, Try.ntmps39
  go_upto_region 1 with fail
  clear hQ
  generalize (w.alloc (.cells #[.int .i64 e.id, .int .i64 e.att, .int .i64 e.nx, .slice e.ba e.bn e.bc] 78)).alloc (.cells #[.int .i64 0, .int .i64 0, .int .i64 0, .slice none 0 0] 72) = w0 at *
  have c3 := B0.out.1.cell 3 _ rfl
  go_wp2_with fail
  refine CL.out.mono ?_
  rintro x w1 ⟨a1, n1, c1, rfl, r1, b1⟩
  have B1 : Hid (Blk Q 78 (enL e) w1 ∧ Blk (Q + 1) 72 (enL zEn) w1 ∧ Below w.heap.size w w1 ∧ RowB 5 w0.heap.size w1 (.slice a1 n1 c1) e.bs) := ⟨B0.out.1.below b1, B0.out.2.1.below b1, below_trans B0.out.2.2 b1, r1⟩
  have LT : Hid (Q + 1 < w0.heap.size) := B0.out.2.1.lt
  have SZ : Hid (w.heap.size ≤ w0.heap.size) := B0.out.2.2.size
  clear r1 b1 c3 CL B0
  have c3 := B1.out.1.cell 3 _ rfl
  have f3 := B1.out.1.fz 3
  go_upto_region 2 with fail
  have B2 : Hid (Blk Q 78 (enL ⟨e.id, e.att, e.nx, a1, n1, c1, e.bs⟩) (w1.setCell ⟨Q, 3, none⟩ (.slice a1 n1 c1)) ∧ Blk (Q + 1) 72 (enL zEn) (w1.setCell ⟨Q, 3, none⟩ (.slice a1 n1 c1)) ∧ Below w.heap.size w (w1.setCell ⟨Q, 3, none⟩ (.slice a1 n1 c1)) ∧ RowB 5 w0.heap.size (w1.setCell ⟨Q, 3, none⟩ (.slice a1 n1 c1)) (.slice a1 n1 c1) e.bs) := by
    have g := setCell_grown w1 Q 3 (.slice a1 n1 c1)
    refine ⟨B1.out.1.set _, B1.out.2.1.grown g (fun q => by injection q with q; omega), below_row B1.out.2.2.1 g (by have := HQ.out; omega), RowV.kept B1.out.2.2.2 g (fun g' hg q => ?_)⟩
    have := RowV.block_ge B1.out.2.2.2 hg
    have := LT.out
    injection q with q
    omega
  clear c3 f3 B1
  generalize w1.setCell ⟨Q, 3, none⟩ (.slice a1 n1 c1) = w2 at *
  go_wp2_with (first
    | (refine step_load rfl 72 _ rfl Q 0 rfl (enL ⟨e.id, e.att, e.nx, a1, n1, c1, e.bs⟩) _ (Blk.all B2.out.1) Try.underlying72 rfl sizePn ?_)
    | (refine step_store rfl 72 _ _ rfl (Q + 1) 0 72 (enL zEn) (enL ⟨e.id, e.att, e.nx, a1, n1, c1, e.bs⟩) rfl rfl B2.out.2.1 (show 0 + 4 ≤ 4 by decide) sizePn (enL_one _) ?_; intro w3 B3 g3))
  refine ret_blk rfl rfl (Q + 1) 72 (enL ⟨e.id, e.att, e.nx, a1, n1, c1, e.bs⟩) _ rfl B3 Try.underlying72 rfl sizePn ?_
  refine ⟨a1, n1, c1, rfl, RowV.mono (RowV.kept B2.out.2.2.2 g3 (fun g' hg q => ?_)) SZ.out, below_row B2.out.2.2.1 g3 (by have := HQ.out; omega)⟩
  have := RowV.block_ge B2.out.2.2.2 hg
  have := LT.out
  injection q with q
  omega

/-- How long the box waits. -/
def boL (l hs : List Int) : Int → Int := fun k => if good l hs then bkV (l.getD 14 0) (l.getD 15 0) k else 0
theorem boL_ok (l hs : List Int) (k : Int) : 0 ≤ boL l hs k ∧ boL l hs k ≤ 64 := by
  unfold boL
  split
  · rename_i h
    have n := nums h
    have h1 := n.base
    have h2 := n.cap
    unfold bkV bkN
    have h3 : 0 ≤ l.getD 14 0 * p2 (min (k - 1).toNat 7) := Int.mul_nonneg (by omega) (by have := p2_pos (min (k - 1).toNat 7); omega)
    omega
  · omega
set_option maxRecDepth 20000 in
set_option maxHeartbeats 1000000 in
theorem sent_at (e : En) (now : Int) (l hs : List Int) (s : Value) (w : World) (hn : i64 now) (hl : l.length = 17) (hr : Rd w s (bkL hs)) (hb : hs.length ≤ 1152921504606846976) (ha : 0 ≤ e.att ∧ e.att ≤ 1000000000000000) :
    Calls Try.prog 36 #[enV e, .int .i64 now, PV l s] w fun x w' => x = .returned (enV (sent (boL l hs) now e)) ∧ Below w.heap.size w w' := by
  obtain ⟨Q, hQ⟩ : ∃ Q, w.heap.size = Q := ⟨_, rfl⟩
  have HQ : Hid (w.heap.size = Q) := hQ
  show Calls _ _ #[_, _, .agg (polL l s).toArray] _ _
  have SZ : Hid ((Try.prog.info? 24).map (·.size) = some (polL l s).length) := by show _ = _; rw [polL_len hl]; exact sizeP
  obtain ⟨w0, hw0⟩ : ∃ w0, ((w.alloc (.cells #[.int .i64 e.id, .int .i64 e.att, .int .i64 e.nx, .slice e.ba e.bn e.bc] 78)).alloc (.cells (polL l s).toArray 24)).alloc (.cells #[.int .i64 0, .int .i64 0, .int .i64 0, .slice none 0 0] 78) = w0 := ⟨_, rfl⟩
  have B0 : Hid (Blk Q 78 (enL e) w0 ∧ Blk (Q + 1) 24 (polL l s) w0 ∧ Blk (Q + 1 + 1) 78 (enL zEn) w0 ∧ Below w.heap.size w w0) := by
    rw [← hw0, ← hQ]
    exact ⟨((Blk.new _ (enL e) w).old _).old _, (Blk.new2 _ (polL l s) w _).old _, Blk.new3 _ (enL zEn) w _ _, below_trans (below_trans (below_alloc _ _) (below_alloc _ _)) (below_alloc _ _)⟩
  have BO : Hid (∀ w', Below w.heap.size w w' → Calls Try.prog 47 #[PV l s, .int .i64 (e.att + 1)] w' fun x w'' => x = .returned (.int .i64 (boL l hs (e.att + 1))) ∧ Below w'.heap.size w' w'') := fun w' b => backoff_at l hs s w' hl (hr.later b) hb _ (by unfold i64; omega)
  have LA : Hid (∀ w', Calls Try.prog 46 #[.int .i64 now, .int .i64 (boL l hs (e.att + 1))] w' fun x w'' => x = .returned (.int .i64 (lateN now (boL l hs (e.att + 1)))) ∧ w'' = w') := fun w' => later_at _ _ w' hn (by have := boL_ok l hs (e.att + 1); omega)
  obtain ⟨a0, a1⟩ := ha
  clear hr hb hn hl
  go_enter Try.func36, Try.ntmps36
  go_upto_region 1 with fail
  clear hQ hw0
  have c1 := B0.out.1.cell 1 _ rfl
  have f1 := B0.out.1.fz 1
  go_upto_region 2 with fail
  have B1 : Hid (Blk Q 78 (enL { e with att := e.att + 1 }) (w0.setCell ⟨Q, 1, none⟩ (.int .i64 (e.att + 1))) ∧ Blk (Q + 1) 24 (polL l s) (w0.setCell ⟨Q, 1, none⟩ (.int .i64 (e.att + 1))) ∧ Blk (Q + 1 + 1) 78 (enL zEn) (w0.setCell ⟨Q, 1, none⟩ (.int .i64 (e.att + 1))) ∧ Below w.heap.size w (w0.setCell ⟨Q, 1, none⟩ (.int .i64 (e.att + 1)))) := by
    have g := setCell_grown w0 Q 1 (.int .i64 (e.att + 1))
    exact ⟨B0.out.1.set _, B0.out.2.1.grown g (fun q => by injection q with q; omega), B0.out.2.2.1.grown g (fun q => by injection q with q; omega), below_row B0.out.2.2.2 g (by have := HQ.out; omega)⟩
  clear c1 f1 B0
  generalize w0.setCell ⟨Q, 1, none⟩ (.int .i64 (e.att + 1)) = w1 at *
  have c1 := B1.out.1.cell 1 _ rfl
  obtain ⟨t, ht⟩ : ∃ t, e.att + 1 = t := ⟨_, rfl⟩
  have HT : Hid (e.att + 1 = t) := ht
  simp only at c1
  rw [ht] at BO LA c1
  clear ht a0 a1
  go_wp2_with (refine step_load rfl 24 _ rfl (Q + 1) 0 rfl (polL l s) _ (Blk.all B1.out.2.1) Try.underlying24 rfl SZ.out ?_)
  refine (BO.out _ B1.out.2.2.2).mono ?_
  rintro x w2 ⟨rfl, b2⟩
  have B2 : Hid (Blk Q 78 (enL { e with att := e.att + 1 }) w2 ∧ Blk (Q + 1 + 1) 78 (enL zEn) w2 ∧ Below w.heap.size w w2) := ⟨B1.out.1.below b2, B1.out.2.2.1.below b2, below_trans B1.out.2.2.2 b2⟩
  clear B1 c1 b2 BO SZ
  obtain ⟨d, hd⟩ : ∃ d, boL l hs t = d := ⟨_, rfl⟩
  have HD : Hid (boL l hs t = d) := hd
  rw [hd] at LA ⊢
  clear hd
  go_wp2_with fail
  refine (LA.out _).mono ?_
  rintro x w3 ⟨rfl, rfl⟩
  have c2 := B2.out.1.cell 2 _ rfl
  have f2 := B2.out.1.fz 2
  obtain ⟨q, hq⟩ : ∃ q, lateN now d = q := ⟨_, rfl⟩
  have HN : Hid (lateN now d = q) := hq
  rw [hq]
  clear hq LA
  go_upto_region 3 with fail
  have B3 : Hid (Blk Q 78 (enL { e with att := e.att + 1, nx := q }) (w3.setCell ⟨Q, 2, none⟩ (.int .i64 q)) ∧ Blk (Q + 1 + 1) 78 (enL zEn) (w3.setCell ⟨Q, 2, none⟩ (.int .i64 q)) ∧ Below w.heap.size w (w3.setCell ⟨Q, 2, none⟩ (.int .i64 q))) := by
    have g := setCell_grown w3 Q 2 (.int .i64 q)
    exact ⟨B2.out.1.set _, B2.out.2.1.grown g (fun q => by injection q with q; omega), below_row B2.out.2.2 g (by have := HQ.out; omega)⟩
  clear c2 f2 B2
  generalize w3.setCell ⟨Q, 2, none⟩ (.int .i64 q) = w4 at *
  go_wp2_with (first
    | (refine step_load rfl 78 _ rfl Q 0 rfl (enL { e with att := e.att + 1, nx := q }) _ (Blk.all B3.out.1) Try.underlying78 rfl sizeEn ?_)
    | (refine step_store rfl 78 _ _ rfl (Q + 1 + 1) 0 78 (enL zEn) (enL { e with att := e.att + 1, nx := q }) rfl rfl B3.out.2.1 (show 0 + 4 ≤ 4 by decide) sizeEn (enL_one _) ?_; intro w5 B5 g5))
  refine ret_blk rfl rfl (Q + 1 + 1) 78 (enL { e with att := e.att + 1, nx := q }) _ rfl B5 Try.underlying78 rfl sizeEn ?_
  refine ⟨?_, below_row B3.out.2.2 g5 (by have := HQ.out; omega)⟩
  have : sent (boL l hs) now e = { e with att := e.att + 1, nx := q } := by unfold sent; rw [HT.out, HD.out, HN.out]
  rw [this]
  rfl
end Go.Proofs.Yteppdlaoeoeplaa
