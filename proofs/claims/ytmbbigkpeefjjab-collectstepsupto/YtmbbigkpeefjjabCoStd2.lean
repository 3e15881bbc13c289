/-
  Ours: the walk of the statements' stepped (gen_costd.py: THE SEAT's OWN NUMBERS).
-/
import Derived.Test.YtmbbigkpeefjjabCoStd
namespace Go.Proofs.Ytmbbigkpeefjjab
open Go.RowKit LedM PolM CoM
theorem tyP : (24 : TypeId) ≠ 3 ∧ (24 : TypeId) ≠ 22 ∧ (24 : TypeId) ≠ 53 := by decide
theorem tyR : (47 : TypeId) ≠ 3 ∧ (47 : TypeId) ≠ 22 ∧ (47 : TypeId) ≠ 53 := by decide
theorem tyE : (36 : TypeId) ≠ 3 ∧ (36 : TypeId) ≠ 22 ∧ (36 : TypeId) ≠ 53 := by decide
theorem tyC : (29 : TypeId) ≠ 3 ∧ (29 : TypeId) ≠ 22 ∧ (29 : TypeId) ≠ 53 := by decide
theorem built_pr (c d : Cs) : Try.prog.built 47 [(0, .agg (csL c).toArray), (1, .agg (csL d).toArray)] = some (prL c d).toArray := by kernel_rfl
theorem build_pr (c d : Cs) (w : World) : (Instr.build 47 #[(0, .agg (csL c).toArray), (1, .agg (csL d).toArray)]).run Try.prog w = .ok (.agg (prL c d).toArray) w := run_build w _ _ _ (built_pr c d)
theorem sl_ne_pr : (22 : TypeId) ≠ 47 := by decide
theorem sh_ne_pr : (53 : TypeId) ≠ 47 := by decide
theorem below_drw (w : World) : Below w.heap.size w w.drew := Below.drew (Below.refl _ _)
theorem SH.other {B SB G : Nat} {w w1 : World} {vL vG : Value} {vs us cs : List Value} {T : TypeId} (h : SH B SB w vL vG vs us) (hb : Blk G T cs w) (g : w.grownBy w1 (some G)) (n1 : 3 ≠ T) (n2 : 22 ≠ T) (n3 : 53 ≠ T) : SH B SB w1 vL vG vs us :=
  ⟨h.ge, h.blk.grown g (fun e => by
    injection e with e; subst e
    have h1 : w.heap[G]? = _ := hb
    have h2 : w.heap[G]? = _ := h.blk
    rw [h1] at h2; injection h2 with h2; injection h2 with _ h3; exact n3 h3.symm), rowV_blk h.rl hb g n2, rowV_blk h.rg hb g n2, h.ap, h.len, fun i hi => by obtain ⟨m, h0, h1, h2⟩ := h.it i hi; exact ⟨m, h0, rowV_blk h1 hb g n1, rowV_blk h2 hb g n1⟩⟩
theorem yieldsIf_build2 {P : Program} {ops : Array Oper} {S : World → Prop} {op : Oper} {a : Act} (hw : Region.wanted op (yielded ops a.tmps) = true) (ty : TypeId) (i j : Nat) (x y : Operand) (ho : op.op = .build ty #[(i, x), (j, y)]) (u z v : Value) (hx : a.eval x = u) (hy : a.eval y = z)
    (hr : ∀ w, (Instr.build ty #[(i, u), (j, z)]).run P w = .ok v w) : YieldsIf P ops S op v a := .inl ⟨hw, fun w _ => by
  unfold execOp
  simp only [ho, hx, hy, List.map_toArray, List.map_cons, List.map_nil, Sem.run_bind, Sem.run_pure, Result.andThen_ok, hr]⟩
/-- What stepped answers. -/
def StdAns (w0 : World) (SB n : Nat) (d : Cs) (w : World) (e : Ending) (w' : World) : Prop :=
  e = .returned (.tuple #[prV d d, .bool true]) ∧ (∃ vL vG vs us, SH w0.heap.size SB w' vL vG vs us ∧ vs.length = n + 2) ∧ Below w0.heap.size w0 w' ∧ (∀ G T cs, T ≠ 3 → T ≠ 22 → T ≠ 53 → Blk G T cs w → Blk G T cs w')
set_option maxRecDepth 20000 in
set_option maxHeartbeats 8000000 in
theorem stepped_at (l hs : List Int) (s : Value) (c : Cs) (ev : Ev) (w0 w : World) (SB : Nat) (vL vG : Value) (vs us : List Value) (hl : l.length = 17) (hr : Rd w0 s (bkL hs)) (hb : hs.length * 8 ≤ 140737488355328) (b0 : Below w0.heap.size w0 w) (hsh : SH w0.heap.size SB w vL vG vs us) (hv : vs.length + 2 ≤ 4194304)
    (hq : ∀ hs', good l hs' = true → 0 ≤ l.getD 1 0 ∧ c.cf ≤ l.getD 7 0 ∧ c.lf ≤ l.getD 8 0) :
    Calls Try.prog 19 #[PV l s, prV c c, evV ev, .pointer (some ⟨SB, 0, none⟩)] w (StdAns w0 SB vs.length (stepA l hs c ev).2.1 w) := by
  show Calls _ _ #[.agg (polL l s).toArray, .agg (prL c c).toArray, .agg (evL ev).toArray, _] _ _
  have OW : Hid (∀ w', Below w0.heap.size w0 w' → Calls Try.prog 12 #[PV l s] w' (OwnAns l hs w')) := fun w' h => own_at l hs s w' hl (hr.later h) hb
  have PR : Hid (∀ w', Below w0.heap.size w0 w' → Rd w' s (bkL hs)) := fun w' h => hr.later h
  have SM : Hid (∀ (L : List Int) v v' w', L.length ≤ 1152921504606846976 → Rd w' v (bkL L) → Rd w' v' (bkL L) → Calls Try.prog 16 #[v, v'] w' fun e w'' => e = .returned (.bool true) ∧ Below w'.heap.size w' w'') := fun L v v' w' hb h h' => same_at L v v' w' h h' hb
  have ST : Hid (∀ s' w', Rd w' s' (bkL hs) → Calls Try.prog 11 #[PV l s', csV c, evV ev] w' (StepAns (stepA l hs c ev) w')) := fun s' w' h => step_at l _ s' c ev w' hl h (by omega)
  have RT : Hid (∀ w', Below w0.heap.size w0 w' → Calls Try.prog 26 #[PV l s, csV c, evV ev] w' (StepAns (stepA l hs c ev) w')) := fun w' h => rstep_at l _ s c ev w' hl (hr.later h) (by omega) (hq _)
  have AW : Hid (∀ w1 t ta tn tc, t = Value.slice ta tn tc → Rd w1 s (bkL hs) → Below w0.heap.size w0 w1 → RowV 3 w0.heap.size w1 (.slice ta tn tc) (bkL hs) → Calls Try.prog 28 #[PV l s, PV l t, prV c c, evV ev] w1 fun e w' => e = .returned (.bool true) ∧ Below w0.heap.size w0 w' ∧ w1.grownBy w' (Value.slice ta tn tc).ownBlock) := fun w1 t ta tn tc e h1 h2 h3 => by subst e; exact anew_at l hs s ta tn tc c ev w0 w1 hl h1 hb h2 h3 hq
  have SZ : Hid (∀ t : Value, (Try.prog.info? 24).map (·.size) = some (polL l t).length) := fun t => by rw [polL_len hl]; exact sizeP
  have FT : Hid (∀ t : Value, 0 + (polL l t).length ≤ polZc.length) := fun t => by rw [polL_len hl]; exact Nat.le_refl 18
  have FZ : Hid (∀ t : Value, polZc.length ≤ 0 + (polL l t).length) := fun t => by rw [polL_len hl]; exact Nat.le_refl 18
  have HO : Hid (∀ s : Value, (polL l s)[17]? = some s) := fun s => polL_hol hl
  have LA : Hid ((stepA l hs c ev).2.2.length ≤ 1152921504606846976) := by have := step_len l hs c ev; show _ ≤ _; omega
  have LA2 : Hid ((stepA l hs c ev).2.2.length ≤ 1000) := by have := step_len l hs c ev; show _ ≤ _; omega
  have LH : Hid (∀ L : List Int, L = hs → L.length ≤ 1152921504606846976) := fun L h => by rw [h]; omega
  have HV1 : Hid (vs.length ≤ 4194304) := by show _ ≤ _; omega
  have HV2 : Hid (∀ x : Value, (vs ++ [x]).length ≤ 4194304) := fun x => by rw [List.length_append]; simp; omega
  have BB : Hid (Below w.heap.size w ((((w.alloc (.cells (polL l s).toArray 24)).alloc (.cells (prL c c).toArray 47)).alloc (.cells (evL ev).toArray 36)).alloc (.cells #[.int .i64 0, .bool false, .int .i64 0, .int .i64 0, .int .i64 0, .int .i64 0, .int .i64 0, .int .i64 0, .int .i64 0, .int .i64 0, .int .i64 0, .int .i64 0, .int .i64 0, .int .i64 0, .int .i64 0, .int .i64 0, .bool false, .int .i64 0, .int .i64 0, .int .i64 0, .int .i64 0, .int .i64 0, .int .i64 0, .int .i64 0, .int .i64 0, .int .i64 0, .int .i64 0, .int .i64 0, .int .i64 0, .int .i64 0] 47))) := below_trans (below_trans (below_trans (below_alloc _ _) (below_alloc _ _)) (below_alloc _ _)) (below_alloc _ _)
  have K0 : KD w0 [(w.heap.size, 24, polL l s), (w.heap.size + 1, 47, prL c c), (w.heap.size + 1 + 1, 36, evL ev), (w.heap.size + 1 + 1 + 1, 47, prL ⟨0, false, 0, 0, 0, 0, 0, 0, 0, 0, 0, 0, 0, 0, 0⟩ ⟨0, false, 0, 0, 0, 0, 0, 0, 0, 0, 0, 0, 0, 0, 0⟩)] ((((w.alloc (.cells (polL l s).toArray 24)).alloc (.cells (prL c c).toArray 47)).alloc (.cells (evL ev).toArray 36)).alloc (.cells #[.int .i64 0, .bool false, .int .i64 0, .int .i64 0, .int .i64 0, .int .i64 0, .int .i64 0, .int .i64 0, .int .i64 0, .int .i64 0, .int .i64 0, .int .i64 0, .int .i64 0, .int .i64 0, .int .i64 0, .int .i64 0, .bool false, .int .i64 0, .int .i64 0, .int .i64 0, .int .i64 0, .int .i64 0, .int .i64 0, .int .i64 0, .int .i64 0, .int .i64 0, .int .i64 0, .int .i64 0, .int .i64 0, .int .i64 0] 47)) := by
    have k0 : KD w0 [] w := ⟨b0, fun k q hq => by simp at hq, fun j k q q' hq => by simp at hq⟩
    have := (((k0.new 24 (polL l s)).new 47 (prL c c)).new 36 (evL ev)).new 47 (prL ⟨0, false, 0, 0, 0, 0, 0, 0, 0, 0, 0, 0, 0, 0, 0⟩ ⟨0, false, 0, 0, 0, 0, 0, 0, 0, 0, 0, 0, 0, 0, 0⟩)
    simp only [size_al, List.nil_append, List.cons_append] at this
    exact this
  have S0 : Hid (SD w0 w [(w.heap.size, 24, polL l s), (w.heap.size + 1, 47, prL c c), (w.heap.size + 1 + 1, 36, evL ev), (w.heap.size + 1 + 1 + 1, 47, prL ⟨0, false, 0, 0, 0, 0, 0, 0, 0, 0, 0, 0, 0, 0, 0⟩ ⟨0, false, 0, 0, 0, 0, 0, 0, 0, 0, 0, 0, 0, 0, 0⟩)] SB vL vG vs us (.slice none 0 0) (.slice none 0 0) (.slice none 0 0) (.slice none 0 0) [] [] [] [] ((((w.alloc (.cells (polL l s).toArray 24)).alloc (.cells (prL c c).toArray 47)).alloc (.cells (evL ev).toArray 36)).alloc (.cells #[.int .i64 0, .bool false, .int .i64 0, .int .i64 0, .int .i64 0, .int .i64 0, .int .i64 0, .int .i64 0, .int .i64 0, .int .i64 0, .int .i64 0, .int .i64 0, .int .i64 0, .int .i64 0, .int .i64 0, .int .i64 0, .bool false, .int .i64 0, .int .i64 0, .int .i64 0, .int .i64 0, .int .i64 0, .int .i64 0, .int .i64 0, .int .i64 0, .int .i64 0, .int .i64 0, .int .i64 0, .int .i64 0, .int .i64 0] 47))) :=
    ⟨K0, hsh.later BB.out, RowV.nil _ _ _, RowV.nil _ _ _, RowV.nil _ _ _, RowV.nil _ _ _, Apt.nil _, Apt.nil _, Apt.nil _, Apt.nil _, Apt.nil _, far_nil _ _, far_nil _ _, far_nil _ _, fun G T cs _ _ _ h => h.below BB.out⟩
  obtain ⟨sa, sc, rfl, -, -, -⟩ := hr
  rw [bkL_len] at *
  have LL : Hid ((bkL hs).length = hs.length) := bkL_len _
  clear hl hb b0 hsh hv hq K0
  generalize stepA l hs c ev = ans at *
  generalize hs.length = N at *
  go_enter Try.func19, Try.ntmps19
  go_upto_region 1 with fail
  generalize (((w.alloc (.cells (polL l (.slice sa N sc)).toArray 24)).alloc (.cells (prL c c).toArray 47)).alloc (.cells (evL ev).toArray 36)).alloc (.cells #[.int .i64 0, .bool false, .int .i64 0, .int .i64 0, .int .i64 0, .int .i64 0, .int .i64 0, .int .i64 0, .int .i64 0, .int .i64 0, .int .i64 0, .int .i64 0, .int .i64 0, .int .i64 0, .int .i64 0, .int .i64 0, .bool false, .int .i64 0, .int .i64 0, .int .i64 0, .int .i64 0, .int .i64 0, .int .i64 0, .int .i64 0, .int .i64 0, .int .i64 0, .int .i64 0, .int .i64 0, .int .i64 0, .int .i64 0] 47) = w1 at *
  go_wp2_with ((with_reducible refine at_loadT 24 ?_); refine step_load rfl 24 _ rfl (w.heap.size) 0 rfl (polL l (.slice sa N sc)) _ (Blk.all (S0.out.kd.at 0 rfl)) Try.underlying24 rfl (SZ.out _) ?_)
  refine (OW.out _ S0.out.kd.bb).mono ?_
  rintro e w2 ⟨ta, tn, tc, rfl, rrow, bX⟩
  obtain rfl : tn = N := by
    obtain ⟨_, _, q, _⟩ := rrow.rd.len
    injection q with _ q _
    rw [q, LL.out]
  have S1 : Hid (SD w0 w [(w.heap.size, 24, polL l (.slice sa tn sc)), (w.heap.size + 1, 47, prL c c), (w.heap.size + 1 + 1, 36, evL ev), (w.heap.size + 1 + 1 + 1, 47, prL ⟨0, false, 0, 0, 0, 0, 0, 0, 0, 0, 0, 0, 0, 0, 0⟩ ⟨0, false, 0, 0, 0, 0, 0, 0, 0, 0, 0, 0, 0, 0, 0⟩)] SB vL vG vs us (.slice ta tn tc) (.slice none 0 0) (.slice none 0 0) (.slice none 0 0) hs [] [] [] w2) := S0.out.setT bX rrow
  clear bX rrow S0 BB OW
  have NZ : Hid (Blk w2.heap.size 24 polZc (w2.alloc (.cells #[.int .i64 0, .int .i64 0, .int .i64 0, .int .i64 0, .int .i64 0, .int .i64 0, .int .i64 0, .int .i64 0, .int .i64 0, .int .i64 0, .int .i64 0, .int .i64 0, .int .i64 0, .int .i64 0, .int .i64 0, .int .i64 0, .int .i64 0, .slice none 0 0] 24))) := Blk.new _ _ _
  go_upto_region 2 with ((with_reducible refine at_store ?_); refine step_store rfl 24 _ _ rfl w2.heap.size 0 24 polZc (polL l (.slice ta tn tc)) rfl rfl NZ.out (FT.out _) (SZ.out _) polL_oneC ?_; intro w3 nb3 g3)
  have S2 : Hid (SD w0 w [(w.heap.size, 24, polL l (.slice sa tn sc)), (w.heap.size + 1, 47, prL c c), (w.heap.size + 1 + 1, 36, evL ev), (w.heap.size + 1 + 1 + 1, 47, prL ⟨0, false, 0, 0, 0, 0, 0, 0, 0, 0, 0, 0, 0, 0, 0⟩ ⟨0, false, 0, 0, 0, 0, 0, 0, 0, 0, 0, 0, 0, 0, 0⟩), (w2.heap.size, 24, polL l (.slice ta tn tc))] SB vL vG vs us (.slice ta tn tc) (.slice none 0 0) (.slice none 0 0) (.slice none 0 0) hs [] [] [] w3) := S1.out.addB (blk_whole2 (FZ.out _) nb3) g3
  clear nb3 g3 NZ S1
  obtain ⟨TB, hTB⟩ : ∃ B, w2.heap.size = B := ⟨_, rfl⟩
  rw [hTB] at S2
  rw [hTB]
  clear hTB
  go_wp2_with (first
  | ((with_reducible refine at_loadT 24 ?_); refine step_load rfl 24 _ rfl (TB) 0 rfl (polL l (.slice ta tn tc)) _ (Blk.all (S2.out.kd.at 4 rfl)) Try.underlying24 rfl (SZ.out _) ?_)
  | ((with_reducible refine at_loadT 29 ?_); refine step_load rfl 29 _ rfl (w.heap.size + 1) 0 rfl (csL c) _ (pr_c (S2.out.kd.at 1 rfl)) Try.underlying29 rfl (sizeCsL _) ?_)
  | ((with_reducible refine at_loadT 36 ?_); refine step_load rfl 36 _ rfl (w.heap.size + 1 + 1) 0 rfl (evL ev) _ (Blk.all (S2.out.kd.at 2 rfl)) Try.underlying36 rfl (sizeEvL _) ?_))
  refine (ST.out _ _ S2.out.rt.rd).mono ?_
  rintro e w4 ⟨xa, xn, xc, rfl, rrow, bX⟩
  have S30 : Hid (SD w0 w [(w.heap.size, 24, polL l (.slice sa tn sc)), (w.heap.size + 1, 47, prL c c), (w.heap.size + 1 + 1, 36, evL ev), (w.heap.size + 1 + 1 + 1, 47, prL ⟨0, false, 0, 0, 0, 0, 0, 0, 0, 0, 0, 0, 0, 0, 0⟩ ⟨0, false, 0, 0, 0, 0, 0, 0, 0, 0, 0, 0, 0, 0, 0⟩), (TB, 24, polL l (.slice ta tn tc))] SB vL vG vs us (.slice ta tn tc) (.slice xa xn xc) (.slice none 0 0) (.slice none 0 0) hs ans.2.2 [] [] w4) := S2.out.setX bX rrow
  clear bX S2 rrow
  have NZ : Hid (Blk w4.heap.size 29 (csL ⟨0, false, 0, 0, 0, 0, 0, 0, 0, 0, 0, 0, 0, 0, 0⟩) (w4.alloc (.cells #[.int .i64 0, .bool false, .int .i64 0, .int .i64 0, .int .i64 0, .int .i64 0, .int .i64 0, .int .i64 0, .int .i64 0, .int .i64 0, .int .i64 0, .int .i64 0, .int .i64 0, .int .i64 0, .int .i64 0] 29))) := Blk.new _ _ _
  go_upto_region 3 with ((with_reducible refine at_store ?_); refine step_store rfl 29 _ _ rfl w4.heap.size 0 29 (csL ⟨0, false, 0, 0, 0, 0, 0, 0, 0, 0, 0, 0, 0, 0, 0⟩) (csL ans.2.1) rfl rfl NZ.out (Nat.le_refl 15) (sizeCsL _) (csL_one _) ?_; intro w5 n9 g9)
  have S3 : Hid (SD w0 w [(w.heap.size, 24, polL l (.slice sa tn sc)), (w.heap.size + 1, 47, prL c c), (w.heap.size + 1 + 1, 36, evL ev), (w.heap.size + 1 + 1 + 1, 47, prL ⟨0, false, 0, 0, 0, 0, 0, 0, 0, 0, 0, 0, 0, 0, 0⟩ ⟨0, false, 0, 0, 0, 0, 0, 0, 0, 0, 0, 0, 0, 0, 0⟩), (TB, 24, polL l (.slice ta tn tc)), (w4.heap.size, 29, csL ans.2.1)] SB vL vG vs us (.slice ta tn tc) (.slice xa xn xc) (.slice none 0 0) (.slice none 0 0) hs ans.2.2 [] [] w5) := S30.out.addB n9 g9
  clear n9 g9 NZ S30
  obtain ⟨AB, hAB⟩ : ∃ B, w4.heap.size = B := ⟨_, rfl⟩
  rw [hAB] at S3
  rw [hAB]
  clear hAB
  go_wp2_with (first
  | ((with_reducible refine at_loadT 24 ?_); refine step_load rfl 24 _ rfl (TB) 0 rfl (polL l (.slice ta tn tc)) _ (Blk.all (S3.out.kd.at 4 rfl)) Try.underlying24 rfl (SZ.out _) ?_)
  | ((with_reducible refine at_loadT 29 ?_); refine step_load rfl 29 _ rfl (w.heap.size + 1) 0 rfl (csL c) _ (pr_c (S3.out.kd.at 1 rfl)) Try.underlying29 rfl (sizeCsL _) ?_)
  | ((with_reducible refine at_loadT 36 ?_); refine step_load rfl 36 _ rfl (w.heap.size + 1 + 1) 0 rfl (evL ev) _ (Blk.all (S3.out.kd.at 2 rfl)) Try.underlying36 rfl (sizeEvL _) ?_))
  refine (ST.out _ _ S3.out.rt.rd).mono ?_
  rintro e w6 ⟨ya, yn, yc, rfl, rrow, bX⟩
  have S40 : Hid (SD w0 w [(w.heap.size, 24, polL l (.slice sa tn sc)), (w.heap.size + 1, 47, prL c c), (w.heap.size + 1 + 1, 36, evL ev), (w.heap.size + 1 + 1 + 1, 47, prL ⟨0, false, 0, 0, 0, 0, 0, 0, 0, 0, 0, 0, 0, 0, 0⟩ ⟨0, false, 0, 0, 0, 0, 0, 0, 0, 0, 0, 0, 0, 0, 0⟩), (TB, 24, polL l (.slice ta tn tc)), (AB, 29, csL ans.2.1)] SB vL vG vs us (.slice ta tn tc) (.slice xa xn xc) (.slice ya yn yc) (.slice none 0 0) hs ans.2.2 ans.2.2 [] w6) := S3.out.setY bX rrow
  clear bX S3 rrow
  have NZ : Hid (Blk w6.heap.size 29 (csL ⟨0, false, 0, 0, 0, 0, 0, 0, 0, 0, 0, 0, 0, 0, 0⟩) (w6.alloc (.cells #[.int .i64 0, .bool false, .int .i64 0, .int .i64 0, .int .i64 0, .int .i64 0, .int .i64 0, .int .i64 0, .int .i64 0, .int .i64 0, .int .i64 0, .int .i64 0, .int .i64 0, .int .i64 0, .int .i64 0] 29))) := Blk.new _ _ _
  go_upto_region 4 with ((with_reducible refine at_store ?_); refine step_store rfl 29 _ _ rfl w6.heap.size 0 29 (csL ⟨0, false, 0, 0, 0, 0, 0, 0, 0, 0, 0, 0, 0, 0, 0⟩) (csL ans.2.1) rfl rfl NZ.out (Nat.le_refl 15) (sizeCsL _) (csL_one _) ?_; intro w7 n9 g9)
  have S4 : Hid (SD w0 w [(w.heap.size, 24, polL l (.slice sa tn sc)), (w.heap.size + 1, 47, prL c c), (w.heap.size + 1 + 1, 36, evL ev), (w.heap.size + 1 + 1 + 1, 47, prL ⟨0, false, 0, 0, 0, 0, 0, 0, 0, 0, 0, 0, 0, 0, 0⟩ ⟨0, false, 0, 0, 0, 0, 0, 0, 0, 0, 0, 0, 0, 0, 0⟩), (TB, 24, polL l (.slice ta tn tc)), (AB, 29, csL ans.2.1), (w6.heap.size, 29, csL ans.2.1)] SB vL vG vs us (.slice ta tn tc) (.slice xa xn xc) (.slice ya yn yc) (.slice none 0 0) hs ans.2.2 ans.2.2 [] w7) := S40.out.addB n9 g9
  clear n9 g9 NZ S40
  obtain ⟨GB, hGB⟩ : ∃ B, w6.heap.size = B := ⟨_, rfl⟩
  rw [hGB] at S4
  rw [hGB]
  clear hGB
  go_wp2_with (first
  | ((with_reducible refine at_loadT 24 ?_); refine step_load rfl 24 _ rfl (w.heap.size) 0 rfl (polL l (.slice sa tn sc)) _ (Blk.all (S4.out.kd.at 0 rfl)) Try.underlying24 rfl (SZ.out _) ?_)
  | ((with_reducible refine at_loadT 29 ?_); refine step_load rfl 29 _ rfl (w.heap.size + 1) 15 rfl (csL c) _ (pr_r (S4.out.kd.at 1 rfl)) Try.underlying29 rfl (sizeCsL _) ?_)
  | ((with_reducible refine at_loadT 36 ?_); refine step_load rfl 36 _ rfl (w.heap.size + 1 + 1) 0 rfl (evL ev) _ (Blk.all (S4.out.kd.at 2 rfl)) Try.underlying36 rfl (sizeEvL _) ?_))
  refine (RT.out _ S4.out.kd.bb).mono ?_
  rintro e w8 ⟨za, zn, zc, rfl, rrow, bX⟩
  have S50 : Hid (SD w0 w [(w.heap.size, 24, polL l (.slice sa tn sc)), (w.heap.size + 1, 47, prL c c), (w.heap.size + 1 + 1, 36, evL ev), (w.heap.size + 1 + 1 + 1, 47, prL ⟨0, false, 0, 0, 0, 0, 0, 0, 0, 0, 0, 0, 0, 0, 0⟩ ⟨0, false, 0, 0, 0, 0, 0, 0, 0, 0, 0, 0, 0, 0, 0⟩), (TB, 24, polL l (.slice ta tn tc)), (AB, 29, csL ans.2.1), (GB, 29, csL ans.2.1)] SB vL vG vs us (.slice ta tn tc) (.slice xa xn xc) (.slice ya yn yc) (.slice za zn zc) hs ans.2.2 ans.2.2 ans.2.2 w8) := S4.out.setZ bX rrow
  clear bX S4 rrow
  have NZ : Hid (Blk w8.heap.size 29 (csL ⟨0, false, 0, 0, 0, 0, 0, 0, 0, 0, 0, 0, 0, 0, 0⟩) (w8.alloc (.cells #[.int .i64 0, .bool false, .int .i64 0, .int .i64 0, .int .i64 0, .int .i64 0, .int .i64 0, .int .i64 0, .int .i64 0, .int .i64 0, .int .i64 0, .int .i64 0, .int .i64 0, .int .i64 0, .int .i64 0] 29))) := Blk.new _ _ _
  go_upto_region 5 with ((with_reducible refine at_store ?_); refine step_store rfl 29 _ _ rfl w8.heap.size 0 29 (csL ⟨0, false, 0, 0, 0, 0, 0, 0, 0, 0, 0, 0, 0, 0, 0⟩) (csL ans.2.1) rfl rfl NZ.out (Nat.le_refl 15) (sizeCsL _) (csL_one _) ?_; intro w9 n9 g9)
  have S5 : Hid (SD w0 w [(w.heap.size, 24, polL l (.slice sa tn sc)), (w.heap.size + 1, 47, prL c c), (w.heap.size + 1 + 1, 36, evL ev), (w.heap.size + 1 + 1 + 1, 47, prL ⟨0, false, 0, 0, 0, 0, 0, 0, 0, 0, 0, 0, 0, 0, 0⟩ ⟨0, false, 0, 0, 0, 0, 0, 0, 0, 0, 0, 0, 0, 0, 0⟩), (TB, 24, polL l (.slice ta tn tc)), (AB, 29, csL ans.2.1), (GB, 29, csL ans.2.1), (w8.heap.size, 29, csL ans.2.1)] SB vL vG vs us (.slice ta tn tc) (.slice xa xn xc) (.slice ya yn yc) (.slice za zn zc) hs ans.2.2 ans.2.2 ans.2.2 w9) := S50.out.addB n9 g9
  clear n9 g9 NZ S50
  obtain ⟨DB, hDB⟩ : ∃ B, w8.heap.size = B := ⟨_, rfl⟩
  rw [hDB] at S5
  rw [hDB]
  clear hDB
  have EQ := cs_eql ans.2.1
  go_wp2_with (first
  | ((with_reducible refine at_loadT 29 ?_); refine step_load rfl 29 _ rfl AB 0 rfl (csL ans.2.1) _ (Blk.all (S5.out.kd.at 5 rfl)) Try.underlying29 rfl (sizeCsL _) ?_)
  | ((with_reducible refine at_loadT 29 ?_); refine step_load rfl 29 _ rfl DB 0 rfl (csL ans.2.1) _ (Blk.all (S5.out.kd.at 7 rfl)) Try.underlying29 rfl (sizeCsL _) ?_))
  refine (SM.out ans.2.2 _ _ _ LA.out S5.out.rx.rd S5.out.rz.rd).mono ?_
  rintro e w10 ⟨rfl, bX⟩
  have S6 : Hid (SD w0 w [(w.heap.size, 24, polL l (.slice sa tn sc)), (w.heap.size + 1, 47, prL c c), (w.heap.size + 1 + 1, 36, evL ev), (w.heap.size + 1 + 1 + 1, 47, prL ⟨0, false, 0, 0, 0, 0, 0, 0, 0, 0, 0, 0, 0, 0, 0⟩ ⟨0, false, 0, 0, 0, 0, 0, 0, 0, 0, 0, 0, 0, 0, 0⟩), (TB, 24, polL l (.slice ta tn tc)), (AB, 29, csL ans.2.1), (GB, 29, csL ans.2.1), (DB, 29, csL ans.2.1)] SB vL vG vs us (.slice ta tn tc) (.slice xa xn xc) (.slice ya yn yc) (.slice za zn zc) hs ans.2.2 ans.2.2 ans.2.2 w10) := S5.out.later bX
  clear bX S5 EQ
  have p17 : w10.cell? ⟨w.heap.size, 17, none⟩ = some (.slice sa tn sc) := S6.out.kd.cell 0 17 rfl _ (HO.out _)
  have t17 : w10.cell? ⟨TB, 17, none⟩ = some (.slice ta tn tc) := S6.out.kd.cell 4 17 rfl _ (HO.out _)
  go_wp2_with fail
  refine (SM.out hs _ _ _ (LH.out hs rfl) S6.out.rt.rd (PR.out _ S6.out.kd.bb)).mono ?_
  rintro e w11 ⟨rfl, bX⟩
  have S7 : Hid (SD w0 w [(w.heap.size, 24, polL l (.slice sa tn sc)), (w.heap.size + 1, 47, prL c c), (w.heap.size + 1 + 1, 36, evL ev), (w.heap.size + 1 + 1 + 1, 47, prL ⟨0, false, 0, 0, 0, 0, 0, 0, 0, 0, 0, 0, 0, 0, 0⟩ ⟨0, false, 0, 0, 0, 0, 0, 0, 0, 0, 0, 0, 0, 0, 0⟩), (TB, 24, polL l (.slice ta tn tc)), (AB, 29, csL ans.2.1), (GB, 29, csL ans.2.1), (DB, 29, csL ans.2.1)] SB vL vG vs us (.slice ta tn tc) (.slice xa xn xc) (.slice ya yn yc) (.slice za zn zc) hs ans.2.2 ans.2.2 ans.2.2 w11) := S6.out.later bX
  clear bX S6 p17 t17
  go_wp2_with fail
  refine (put_at ans.2.2 S7.out.sh S7.out.rx S7.out.fx HV1.out LA2.out).mono ?_
  rintro e w12 hp
  have hp0 := hp.1
  subst hp0
  obtain ⟨vL1, vG1, u1, S80⟩ := S7.out.putX (fun k q hq => by rcases k with _ | k; (· cases hq; first | exact ⟨tyP.1, tyP.2.1, tyP.2.2⟩ | exact ⟨tyR.1, tyR.2.1, tyR.2.2⟩ | exact ⟨tyE.1, tyE.2.1, tyE.2.2⟩ | exact ⟨tyC.1, tyC.2.1, tyC.2.2⟩); rcases k with _ | k; (· cases hq; first | exact ⟨tyP.1, tyP.2.1, tyP.2.2⟩ | exact ⟨tyR.1, tyR.2.1, tyR.2.2⟩ | exact ⟨tyE.1, tyE.2.1, tyE.2.2⟩ | exact ⟨tyC.1, tyC.2.1, tyC.2.2⟩); rcases k with _ | k; (· cases hq; first | exact ⟨tyP.1, tyP.2.1, tyP.2.2⟩ | exact ⟨tyR.1, tyR.2.1, tyR.2.2⟩ | exact ⟨tyE.1, tyE.2.1, tyE.2.2⟩ | exact ⟨tyC.1, tyC.2.1, tyC.2.2⟩); rcases k with _ | k; (· cases hq; first | exact ⟨tyP.1, tyP.2.1, tyP.2.2⟩ | exact ⟨tyR.1, tyR.2.1, tyR.2.2⟩ | exact ⟨tyE.1, tyE.2.1, tyE.2.2⟩ | exact ⟨tyC.1, tyC.2.1, tyC.2.2⟩); rcases k with _ | k; (· cases hq; first | exact ⟨tyP.1, tyP.2.1, tyP.2.2⟩ | exact ⟨tyR.1, tyR.2.1, tyR.2.2⟩ | exact ⟨tyE.1, tyE.2.1, tyE.2.2⟩ | exact ⟨tyC.1, tyC.2.1, tyC.2.2⟩); rcases k with _ | k; (· cases hq; first | exact ⟨tyP.1, tyP.2.1, tyP.2.2⟩ | exact ⟨tyR.1, tyR.2.1, tyR.2.2⟩ | exact ⟨tyE.1, tyE.2.1, tyE.2.2⟩ | exact ⟨tyC.1, tyC.2.1, tyC.2.2⟩); rcases k with _ | k; (· cases hq; first | exact ⟨tyP.1, tyP.2.1, tyP.2.2⟩ | exact ⟨tyR.1, tyR.2.1, tyR.2.2⟩ | exact ⟨tyE.1, tyE.2.1, tyE.2.2⟩ | exact ⟨tyC.1, tyC.2.1, tyC.2.2⟩); rcases k with _ | k; (· cases hq; first | exact ⟨tyP.1, tyP.2.1, tyP.2.2⟩ | exact ⟨tyR.1, tyR.2.1, tyR.2.2⟩ | exact ⟨tyE.1, tyE.2.1, tyE.2.2⟩ | exact ⟨tyC.1, tyC.2.1, tyC.2.2⟩); cases hq) hp
  have S8 : Hid (SD w0 w [(w.heap.size, 24, polL l (.slice sa tn sc)), (w.heap.size + 1, 47, prL c c), (w.heap.size + 1 + 1, 36, evL ev), (w.heap.size + 1 + 1 + 1, 47, prL ⟨0, false, 0, 0, 0, 0, 0, 0, 0, 0, 0, 0, 0, 0, 0⟩ ⟨0, false, 0, 0, 0, 0, 0, 0, 0, 0, 0, 0, 0, 0, 0⟩), (TB, 24, polL l (.slice ta tn tc)), (AB, 29, csL ans.2.1), (GB, 29, csL ans.2.1), (DB, 29, csL ans.2.1)] SB vL1 vG1 (vs ++ [.slice xa xn xc]) (us ++ [u1]) (.slice ta tn tc) (.slice none 0 0) (.slice ya yn yc) (.slice za zn zc) hs [] ans.2.2 ans.2.2 w12) := S80
  clear hp S80 S7
  go_wp2_with fail
  refine (SM.out ans.2.2 _ _ _ LA.out S8.out.ry.rd S8.out.rz.rd).mono ?_
  rintro e w13 ⟨rfl, bX⟩
  have S9 : Hid (SD w0 w [(w.heap.size, 24, polL l (.slice sa tn sc)), (w.heap.size + 1, 47, prL c c), (w.heap.size + 1 + 1, 36, evL ev), (w.heap.size + 1 + 1 + 1, 47, prL ⟨0, false, 0, 0, 0, 0, 0, 0, 0, 0, 0, 0, 0, 0, 0⟩ ⟨0, false, 0, 0, 0, 0, 0, 0, 0, 0, 0, 0, 0, 0, 0⟩), (TB, 24, polL l (.slice ta tn tc)), (AB, 29, csL ans.2.1), (GB, 29, csL ans.2.1), (DB, 29, csL ans.2.1)] SB vL1 vG1 (vs ++ [.slice xa xn xc]) (us ++ [u1]) (.slice ta tn tc) (.slice none 0 0) (.slice ya yn yc) (.slice za zn zc) hs [] ans.2.2 ans.2.2 w13) := S8.out.later bX
  clear bX S8
  go_wp2_with fail
  refine (put_at ans.2.2 S9.out.sh S9.out.ry S9.out.fy (HV2.out _) LA2.out).mono ?_
  rintro e w14 hp
  have hp0 := hp.1
  subst hp0
  obtain ⟨vL2, vG2, u2, S100⟩ := S9.out.putY (fun k q hq => by rcases k with _ | k; (· cases hq; first | exact ⟨tyP.1, tyP.2.1, tyP.2.2⟩ | exact ⟨tyR.1, tyR.2.1, tyR.2.2⟩ | exact ⟨tyE.1, tyE.2.1, tyE.2.2⟩ | exact ⟨tyC.1, tyC.2.1, tyC.2.2⟩); rcases k with _ | k; (· cases hq; first | exact ⟨tyP.1, tyP.2.1, tyP.2.2⟩ | exact ⟨tyR.1, tyR.2.1, tyR.2.2⟩ | exact ⟨tyE.1, tyE.2.1, tyE.2.2⟩ | exact ⟨tyC.1, tyC.2.1, tyC.2.2⟩); rcases k with _ | k; (· cases hq; first | exact ⟨tyP.1, tyP.2.1, tyP.2.2⟩ | exact ⟨tyR.1, tyR.2.1, tyR.2.2⟩ | exact ⟨tyE.1, tyE.2.1, tyE.2.2⟩ | exact ⟨tyC.1, tyC.2.1, tyC.2.2⟩); rcases k with _ | k; (· cases hq; first | exact ⟨tyP.1, tyP.2.1, tyP.2.2⟩ | exact ⟨tyR.1, tyR.2.1, tyR.2.2⟩ | exact ⟨tyE.1, tyE.2.1, tyE.2.2⟩ | exact ⟨tyC.1, tyC.2.1, tyC.2.2⟩); rcases k with _ | k; (· cases hq; first | exact ⟨tyP.1, tyP.2.1, tyP.2.2⟩ | exact ⟨tyR.1, tyR.2.1, tyR.2.2⟩ | exact ⟨tyE.1, tyE.2.1, tyE.2.2⟩ | exact ⟨tyC.1, tyC.2.1, tyC.2.2⟩); rcases k with _ | k; (· cases hq; first | exact ⟨tyP.1, tyP.2.1, tyP.2.2⟩ | exact ⟨tyR.1, tyR.2.1, tyR.2.2⟩ | exact ⟨tyE.1, tyE.2.1, tyE.2.2⟩ | exact ⟨tyC.1, tyC.2.1, tyC.2.2⟩); rcases k with _ | k; (· cases hq; first | exact ⟨tyP.1, tyP.2.1, tyP.2.2⟩ | exact ⟨tyR.1, tyR.2.1, tyR.2.2⟩ | exact ⟨tyE.1, tyE.2.1, tyE.2.2⟩ | exact ⟨tyC.1, tyC.2.1, tyC.2.2⟩); rcases k with _ | k; (· cases hq; first | exact ⟨tyP.1, tyP.2.1, tyP.2.2⟩ | exact ⟨tyR.1, tyR.2.1, tyR.2.2⟩ | exact ⟨tyE.1, tyE.2.1, tyE.2.2⟩ | exact ⟨tyC.1, tyC.2.1, tyC.2.2⟩); cases hq) hp
  have S10 : Hid (SD w0 w [(w.heap.size, 24, polL l (.slice sa tn sc)), (w.heap.size + 1, 47, prL c c), (w.heap.size + 1 + 1, 36, evL ev), (w.heap.size + 1 + 1 + 1, 47, prL ⟨0, false, 0, 0, 0, 0, 0, 0, 0, 0, 0, 0, 0, 0, 0⟩ ⟨0, false, 0, 0, 0, 0, 0, 0, 0, 0, 0, 0, 0, 0, 0⟩), (TB, 24, polL l (.slice ta tn tc)), (AB, 29, csL ans.2.1), (GB, 29, csL ans.2.1), (DB, 29, csL ans.2.1)] SB vL2 vG2 (vs ++ [.slice xa xn xc] ++ [.slice ya yn yc]) (us ++ [u1] ++ [u2]) (.slice ta tn tc) (.slice none 0 0) (.slice none 0 0) (.slice za zn zc) hs [] [] ans.2.2 w14) := S100
  clear hp S100 S9
  go_upto_region 9 with fail
  have hu := Try.underlying24
  have hi := SZ.out (.slice sa tn sc)
  have hiT := SZ.out (.slice ta tn tc)
  have hu2 := Try.underlying29
  have hi2 := sizeCsL ans.2.1
  have hu3 := Try.underlying36
  have hi3 := sizeEvL ev
  have hu4 := Try.underlying47
  have hi4 := sizePr c c
  have HB := build_pr ans.2.1 ans.2.1
  have hC : KD w0 [(w.heap.size, 24, polL l (.slice sa tn sc)), (w.heap.size + 1, 47, prL c c), (w.heap.size + 1 + 1, 36, evL ev), (w.heap.size + 1 + 1 + 1, 47, prL ⟨0, false, 0, 0, 0, 0, 0, 0, 0, 0, 0, 0, 0, 0, 0⟩ ⟨0, false, 0, 0, 0, 0, 0, 0, 0, 0, 0, 0, 0, 0, 0⟩), (TB, 24, polL l (.slice ta tn tc)), (AB, 29, csL ans.2.1), (GB, 29, csL ans.2.1), (DB, 29, csL ans.2.1)] w14.drew := S10.out.kd.drew
  refine wp_region_held_drew (S := fun w' => ∃ zs, KD w0 [(w.heap.size, 24, polL l (.slice sa tn sc)), (w.heap.size + 1, 47, prL c c), (w.heap.size + 1 + 1, 36, evL ev), (w.heap.size + 1 + 1 + 1, 47, zs), (TB, 24, polL l (.slice ta tn tc)), (AB, 29, csL ans.2.1), (GB, 29, csL ans.2.1), (DB, 29, csL ans.2.1)] w') (by kernel_rfl) (⟨_, hC⟩) (fun hH => ?_)
  refine wpAnyH_take (i := 0) (oi := { dst := some 82, op := Op.load 29 (Operand.tmp 11), type := 29, pos := "law.go:97", after := #[], guard := none }) (v := .agg (csL ans.2.1).toArray) rfl (by kernel_rfl) (by kernel_rfl) (by kernel_rfl) (fun _ _ _ h => h) (yieldsIf_load_mid (by rfl) _ _ rfl AB 0 rfl (csL ans.2.1) _ (fun w' h => (by obtain ⟨zs, h⟩ := h; exact Blk.all (h.at 5 rfl))) hu2 rfl hi2) hH ?_
  try simp only [Act.put, List.setIfInBounds_toArray, List.set_cons_zero, List.set_cons_succ]
  refine wpAnyH_take (i := 1) (oi := { dst := some 83, op := Op.load 29 (Operand.tmp 17), type := 29, pos := "law.go:97", after := #[], guard := none }) (v := .agg (csL ans.2.1).toArray) rfl (by kernel_rfl) (by kernel_rfl) (by kernel_rfl) (fun _ _ _ h => h) (yieldsIf_load_mid (by rfl) _ _ rfl DB 0 rfl (csL ans.2.1) _ (fun w' h => (by obtain ⟨zs, h⟩ := h; exact Blk.all (h.at 7 rfl))) hu2 rfl hi2) hH ?_
  try simp only [Act.put, List.setIfInBounds_toArray, List.set_cons_zero, List.set_cons_succ]
  refine wpAnyH_take (i := 2) (oi := { dst := some 84, op := Op.build 47 #[(0, Operand.tmp 82), (1, Operand.tmp 83)], type := 47, pos := "law.go:97", after := #[{ on := 0, ground := Ground.data }, { on := 1, ground := Ground.data }], guard := none }) (v := prV ans.2.1 ans.2.1) rfl (by kernel_rfl) (by kernel_rfl) (by kernel_rfl) (fun _ _ _ h => h) (yieldsIf_build2 (by rfl) _ 0 1 _ _ rfl _ _ _ rfl rfl (build_pr _ _)) hH ?_
  try simp only [Act.put, List.setIfInBounds_toArray, List.set_cons_zero, List.set_cons_succ]
  refine wpAnyH_take (i := 3) (oi := { dst := some 85, op := Op.move (Operand.tmp 20), type := 4, pos := "law.go:97", after := #[], guard := none }) (v := .bool true) rfl (by kernel_rfl) (by kernel_rfl) (by kernel_rfl) (fun _ _ _ h => h) (Or.inl ⟨by rfl, fun w' h => by go_simp⟩) hH ?_
  try simp only [Act.put, List.setIfInBounds_toArray, List.set_cons_zero, List.set_cons_succ]
  refine wpAnyH_take (i := 4) (oi := { dst := some 86, op := Op.move (Operand.tmp 85), type := 4, pos := "law.go:97", after := #[{ on := 3, ground := Ground.data }], guard := none }) (v := .bool true) rfl (by kernel_rfl) (by kernel_rfl) (by kernel_rfl) (fun _ _ _ h => h) (Or.inl ⟨by rfl, fun w' h => by go_simp⟩) hH ?_
  try simp only [Act.put, List.setIfInBounds_toArray, List.set_cons_zero, List.set_cons_succ]
  refine wpAnyH_take (i := 5) (oi := { dst := some 87, op := Op.load 24 (Operand.tmp 4), type := 24, pos := "law.go:97", after := #[{ on := 4, ground := Ground.guard }], guard := some (4, true) }) (v := .agg (polL l (.slice sa tn sc)).toArray) rfl (by kernel_rfl) (by kernel_rfl) (by kernel_rfl) (fun _ _ _ h => h) (yieldsIf_load_mid (by rfl) _ _ rfl w.heap.size 0 rfl (polL l (.slice sa tn sc)) _ (fun w' h => (by obtain ⟨zs, h⟩ := h; exact Blk.all (h.at 0 rfl))) hu rfl hi) hH ?_
  try simp only [Act.put, List.setIfInBounds_toArray, List.set_cons_zero, List.set_cons_succ]
  refine wpAnyH_take (i := 6) (oi := { dst := some 88, op := Op.load 24 (Operand.tmp 10), type := 24, pos := "law.go:97", after := #[{ on := 4, ground := Ground.guard }], guard := some (4, true) }) (v := .agg (polL l (.slice ta tn tc)).toArray) rfl (by kernel_rfl) (by kernel_rfl) (by kernel_rfl) (fun _ _ _ h => h) (yieldsIf_load_mid (by rfl) _ _ rfl TB 0 rfl (polL l (.slice ta tn tc)) _ (fun w' h => (by obtain ⟨zs, h⟩ := h; exact Blk.all (h.at 4 rfl))) hu rfl hiT) hH ?_
  try simp only [Act.put, List.setIfInBounds_toArray, List.set_cons_zero, List.set_cons_succ]
  refine wpAnyH_take (i := 7) (oi := { dst := some 89, op := Op.load 47 (Operand.tmp 5), type := 47, pos := "law.go:97", after := #[{ on := 4, ground := Ground.guard }], guard := some (4, true) }) (v := .agg (prL c c).toArray) rfl (by kernel_rfl) (by kernel_rfl) (by kernel_rfl) (fun _ _ _ h => h) (yieldsIf_load_mid (by rfl) _ _ rfl (w.heap.size + 1) 0 rfl (prL c c) _ (fun w' h => (by obtain ⟨zs, h⟩ := h; exact Blk.all (h.at 1 rfl))) hu4 rfl hi4) hH ?_
  try simp only [Act.put, List.setIfInBounds_toArray, List.set_cons_zero, List.set_cons_succ]
  refine wpAnyH_take (i := 8) (oi := { dst := some 90, op := Op.load 36 (Operand.tmp 6), type := 36, pos := "law.go:97", after := #[{ on := 4, ground := Ground.guard }], guard := some (4, true) }) (v := .agg (evL ev).toArray) rfl (by kernel_rfl) (by kernel_rfl) (by kernel_rfl) (fun _ _ _ h => h) (yieldsIf_load_mid (by rfl) _ _ rfl (w.heap.size + 1 + 1) 0 rfl (evL ev) _ (fun w' h => (by obtain ⟨zs, h⟩ := h; exact Blk.all (h.at 2 rfl))) hu3 rfl hi3) hH ?_
  try simp only [Act.put, List.setIfInBounds_toArray, List.set_cons_zero, List.set_cons_succ]
  refine wpAnyH_ready (rs := [9]) (by kernel_rfl) (by simp) ?_
  refine AllReadyH.cons (o := { dst := some 91, op := Op.call { callee := Callee.value (Operand.func 28), args := #[Operand.tmp 87, Operand.tmp 88, Operand.tmp 89, Operand.tmp 90], argTypes := #[24, 24, 47, 36] }, type := 4, pos := "law.go:97", after := #[{ on := 5, ground := Ground.data }, { on := 6, ground := Ground.data }, { on := 7, ground := Ground.data }, { on := 8, ground := Ground.data }, { on := 4, ground := Ground.chain }, { on := 4, ground := Ground.guard }], guard := some (4, true) }) rfl (fun K hK => ?_) AllReadyH.nil
  go_simp
  refine (AW.out _ (.slice ta tn tc) ta tn tc rfl (PR.out _ hC.bb) hC.bb (RowV.drewN S10.out.rt 1)).mono ?_
  rintro e w15 ⟨rfl, bb, gb⟩
  have KB : KD w0 [(w.heap.size, 24, polL l (.slice sa tn sc)), (w.heap.size + 1, 47, prL c c), (w.heap.size + 1 + 1, 36, evL ev), (w.heap.size + 1 + 1 + 1, 47, prL ⟨0, false, 0, 0, 0, 0, 0, 0, 0, 0, 0, 0, 0, 0, 0⟩ ⟨0, false, 0, 0, 0, 0, 0, 0, 0, 0, 0, 0, 0, 0, 0⟩), (TB, 24, polL l (.slice ta tn tc)), (AB, 29, csL ans.2.1), (GB, 29, csL ans.2.1), (DB, 29, csL ans.2.1)] w15 := kd_row hC (fun k q hq => by rcases k with _ | k; (· cases hq; first | exact int_ne_pol | exact int_ne_pr | exact int_ne_ev | exact int_ne_case); rcases k with _ | k; (· cases hq; first | exact int_ne_pol | exact int_ne_pr | exact int_ne_ev | exact int_ne_case); rcases k with _ | k; (· cases hq; first | exact int_ne_pol | exact int_ne_pr | exact int_ne_ev | exact int_ne_case); rcases k with _ | k; (· cases hq; first | exact int_ne_pol | exact int_ne_pr | exact int_ne_ev | exact int_ne_case); rcases k with _ | k; (· cases hq; first | exact int_ne_pol | exact int_ne_pr | exact int_ne_ev | exact int_ne_case); rcases k with _ | k; (· cases hq; first | exact int_ne_pol | exact int_ne_pr | exact int_ne_ev | exact int_ne_case); rcases k with _ | k; (· cases hq; first | exact int_ne_pol | exact int_ne_pr | exact int_ne_ev | exact int_ne_case); rcases k with _ | k; (· cases hq; first | exact int_ne_pol | exact int_ne_pr | exact int_ne_ev | exact int_ne_case); cases hq) (RowV.drewN S10.out.rt 1) (Nat.le_refl _) gb
  have SS : Hid (SH w0.heap.size SB w15 vL2 vG2 (vs ++ [.slice xa xn xc] ++ [.slice ya yn yc]) (us ++ [u1] ++ [u2])) := (SH.later S10.out.sh (below_drw _)).intw (RowV.drewN S10.out.rt 1) gb S10.out.ft
  have KP : Hid (∀ G T cs, T ≠ 3 → T ≠ 22 → T ≠ 53 → Blk G T cs w → Blk G T cs w15) := fun G T cs a1 a2 a3 a4 => ((S10.out.kp G T cs a1 a2 a3 a4).drewN 1).grown gb (row_ne_blkC (RowV.drewN S10.out.rt 1) ((S10.out.kp G T cs a1 a2 a3 a4).drewN 1) (fun e => a1 e.symm))
  clear bb gb
  refine hK.out _ _ ⟨_, KB⟩ (fun hH => ?_)
  refine wpAnyH_take (i := 10) (oi := { dst := some 92, op := Op.pick (Operand.tmp 86) (Operand.tmp 91) (Operand.const (Value.bool false)), type := 4, pos := "law.go:97", after := #[{ on := 4, ground := Ground.data }, { on := 9, ground := Ground.data }, { on := 11, ground := Ground.gcOnly Departure.lateStores }], guard := none }) (v := .bool true) rfl (by kernel_rfl) (by kernel_rfl) (by kernel_rfl) (fun _ _ _ h => h) (Or.inl ⟨by rfl, fun w' h => by go_simp⟩) hH ?_
  try simp only [Act.put, List.setIfInBounds_toArray, List.set_cons_zero, List.set_cons_succ]
  refine wpAnyH_ready (rs := [11]) (by kernel_rfl) (by simp) ?_
  refine AllReadyH.cons (o := { dst := none, op := Op.store 47 (Operand.tmp 8) (Operand.tmp 84), type := 0, pos := "law.go:97", after := #[{ on := 2, ground := Ground.data }, { on := 9, ground := Ground.chain }, { on := 0, ground := Ground.phase }, { on := 1, ground := Ground.phase }, { on := 2, ground := Ground.phase }, { on := 3, ground := Ground.textOnly Departure.lateStores }, { on := 4, ground := Ground.textOnly Departure.lateStores }, { on := 5, ground := Ground.textOnly Departure.lateStores }, { on := 6, ground := Ground.textOnly Departure.lateStores }, { on := 7, ground := Ground.textOnly Departure.lateStores }, { on := 8, ground := Ground.textOnly Departure.lateStores }, { on := 9, ground := Ground.textOnly Departure.lateStoresUnsure }, { on := 10, ground := Ground.textOnly Departure.lateStores }], guard := none }) rfl (fun K hK => ?_) AllReadyH.nil
  refine op_putC (zs := prL ⟨0, false, 0, 0, 0, 0, 0, 0, 0, 0, 0, 0, 0, 0, 0⟩ ⟨0, false, 0, 0, 0, 0, 0, 0, 0, 0, 0, 0, 0, 0, 0⟩) (prL ans.2.1 ans.2.1) rfl (sizePr _ _) (prL_one _ _) rfl _ _ rfl _ rfl rfl (KB.at 3 rfl) ?_
  intro wz nz gz
  have hZ := KB.store 3 rfl nz gz
  have SZ2 : Hid (SH w0.heap.size SB wz vL2 vG2 (vs ++ [.slice xa xn xc] ++ [.slice ya yn yc]) (us ++ [u1] ++ [u2])) := SS.out.other (KB.at 3 rfl) gz int_ne_pr sl_ne_pr sh_ne_pr
  have KZ : Hid (∀ G T cs, T ≠ 3 → T ≠ 22 → T ≠ 53 → Blk G T cs w → Blk G T cs wz) := fun G T cs a1 a2 a3 a4 => (KP.out G T cs a1 a2 a3 a4).grown gz (fun e => by injection e with e; have := a4.lt; omega)
  have BZ : Hid (Below w0.heap.size w0 wz) := hZ.bb
  refine hK.out _ _ ⟨_, hZ⟩ (fun hH => ?_)
  simp only [Act.put]
  refine wpAnyH_take (i := 12) (oi := { dst := some 9, op := Op.assign (Operand.tmp 92), type := 4, pos := "law.go:97", after := #[{ on := 10, ground := Ground.data }, { on := 11, ground := Ground.chain }, { on := 0, ground := Ground.phase }, { on := 1, ground := Ground.phase }, { on := 2, ground := Ground.phase }, { on := 3, ground := Ground.phase }, { on := 4, ground := Ground.phase }, { on := 5, ground := Ground.phase }, { on := 6, ground := Ground.phase }, { on := 7, ground := Ground.phase }, { on := 8, ground := Ground.phase }, { on := 9, ground := Ground.phase }, { on := 10, ground := Ground.phase }, { on := 11, ground := Ground.phase }], guard := none }) (v := .bool true) rfl (by kernel_rfl) (by kernel_rfl) (by kernel_rfl) (fun _ _ _ h => h) (Or.inl ⟨by rfl, fun w' h => by go_simp⟩) hH ?_
  try simp only [Act.put, List.setIfInBounds_toArray, List.set_cons_zero, List.set_cons_succ]
  refine wpAnyH_done (by kernel_rfl) ?_ _
  have NZ : Hid (Blk (w.heap.size + 1 + 1 + 1) 47 (prL ans.2.1 ans.2.1) wz) := nz
  clear hH hK gz hZ KB hC nz
  go_wp2_with fail
  refine ret_blk_tmp rfl rfl (w.heap.size + 1 + 1 + 1) 47 (prL ans.2.1 ans.2.1) _ rfl NZ.out Try.underlying47 rfl (sizePr _ _) ?_
  exact ⟨rfl, ⟨_, _, _, _, SZ2.out, by rw [List.length_append, List.length_append]; rfl⟩, BZ.out, KZ.out⟩
end Go.Proofs.Ytmbbigkpeefjjab
