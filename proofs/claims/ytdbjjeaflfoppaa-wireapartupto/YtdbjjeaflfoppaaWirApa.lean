/-
  Ours: WireApart's walk (gen_wst8.py: THE SEAT's OWN NUMBERS).
-/
import Derived.Test.YtdbjjeaflfoppaaWirRecA
import Derived.Test.YtdbjjeaflfoppaaWirStS3
import Derived.Test.YtdbjjeaflfoppaaWirStT3
namespace Go.Proofs.Ytdbjjeaflfoppaa
open Go.RowKit WsM

theorem sizR (k : Int) (o : OpV) (va : Value) : (Try.prog.info? 26).map (·.size) = some (recC k o va).length := by show _ = some 9; kernel_rfl
theorem sizN (n : Nt) : (Try.prog.info? 28).map (·.size) = some (ntL n).length := by show _ = some 6; kernel_rfl
theorem recC_one (k : Int) (o : OpV) (a : Option Addr) (n c : Nat) : ∀ u ∈ recC k o (.slice a n c), u.oneCell' = true := fun u hu => by
  simp only [recC, opC, List.mem_cons, List.mem_append, List.not_mem_nil, or_false] at hu
  rcases hu with rfl | (rfl | rfl | rfl | rfl | rfl | rfl | rfl) | rfl <;> rfl
theorem KD.five (w : World) (T T2 T3 T4 T5 : TypeId) (cs cs2 cs3 cs4 cs5 : List Value) : KD w [(w.heap.size, T, cs), (w.heap.size + 1, T2, cs2), (w.heap.size + 1 + 1, T3, cs3), (w.heap.size + 1 + 1 + 1, T4, cs4), (w.heap.size + 1 + 1 + 1 + 1, T5, cs5)] (((((w.alloc (.cells cs.toArray T)).alloc (.cells cs2.toArray T2)).alloc (.cells cs3.toArray T3)).alloc (.cells cs4.toArray T4)).alloc (.cells cs5.toArray T5)) := by
  have := (KD.four w T T2 T3 T4 cs cs2 cs3 cs4).new T5 cs5
  rwa [size_al, size_al, size_al, size_al] at this
theorem KD.six (w : World) (T T2 T3 T4 T5 T6 : TypeId) (cs cs2 cs3 cs4 cs5 cs6 : List Value) : KD w [(w.heap.size, T, cs), (w.heap.size + 1, T2, cs2), (w.heap.size + 1 + 1, T3, cs3), (w.heap.size + 1 + 1 + 1, T4, cs4), (w.heap.size + 1 + 1 + 1 + 1, T5, cs5), (w.heap.size + 1 + 1 + 1 + 1 + 1, T6, cs6)] ((((((w.alloc (.cells cs.toArray T)).alloc (.cells cs2.toArray T2)).alloc (.cells cs3.toArray T3)).alloc (.cells cs4.toArray T4)).alloc (.cells cs5.toArray T5)).alloc (.cells cs6.toArray T6)) := by
  have := (KD.five w T T2 T3 T4 T5 cs cs2 cs3 cs4 cs5).new T6 cs6
  rwa [size_al, size_al, size_al, size_al, size_al] at this
theorem opZ_ok : opZ.Ok := ⟨by unfold I64; decide, by unfold I64; decide, by unfold I64; decide, by unfold I64; decide, by unfold I64; decide, by unfold I64; decide, by decide⟩
theorem usedM_ok {m : Nat} {o : OpV} (h : o.Ok) : (usedM m o).Ok := by
  have z : I64 0 := by unfold I64; decide
  have s : ∀ (c : Prop) [Decidable c] (x : Int), I64 x → I64 (if c then x else 0) := fun c _ x hx => by split <;> assumption
  refine ⟨h.kind, s _ _ h.loan, s _ _ h.amount, s _ _ h.rate, s _ _ h.count, s _ _ h.days, ?_⟩
  show (if _ then o.text else _).size ≤ _
  split
  · exact h.text
  · decide
theorem usedV_ok {o : OpV} (h : o.Ok) : (usedV o).Ok := by
  unfold usedV
  split
  · exact usedM_ok h
  · exact opZ_ok
/-- What usedRecord answers, as a record. -/
theorem usedRV_is (k : Int) (o : OpV) (ok : o.Ok) (a : Option Addr) (n c : Nat) (xs : List Int) (w : World) (h : RdI w (.slice a n c) xs) : ∃ (ku : Int) (ou : OpV) (ua : Option Addr) (un uc : Nat) (xu : List Int), usedRV k o (.slice a n c) = .agg (recC ku ou (.slice ua un uc)).toArray ∧ ou.Ok ∧ RdI w (.slice ua un uc) xu ∧ xu.length ≤ xs.length ∧ (recOk k o = true → (ku, ou, xu) = usR k o xs) := by
  have rn : RdI w (.slice none 0 0) [] := ⟨none, 0, rfl, Nat.le_refl _, fun _ => rfl, fun i hi => by simp at hi⟩
  unfold usedRV
  by_cases k1 : k = 1
  · rw [if_pos k1]
    refine ⟨_, _, none, 0, 0, [], rfl, usedV_ok ok, rn, Nat.zero_le _, fun hr => ?_⟩
    unfold recOk at hr
    rw [if_pos k1] at hr
    unfold usR
    rw [if_pos k1, hr]
    rfl
  · rw [if_neg k1]
    by_cases k2 : k = 2
    · rw [if_pos k2]
      refine ⟨_, _, a, n, c, xs, rfl, opZ_ok, h, Nat.le_refl _, fun _ => ?_⟩
      unfold usR
      rw [if_neg k1]
    · rw [if_neg k2]
      refine ⟨_, _, none, 0, 0, [], rfl, opZ_ok, rn, Nat.zero_le _, fun hr => ?_⟩
      unfold recOk at hr
      rw [if_neg k1] at hr
      exact absurd (by simpa using hr) k2
theorem po_slices {w : World} {vl vn : Value} {p : Po} (h : RdPo w vl vn p) : ∃ a n c a' n' c', vl = .slice a n c ∧ vn = .slice a' n' c' := by
  obtain ⟨pvs, _, h2, _⟩ := h.ls
  obtain ⟨a, c, e, -, -⟩ := h2.len
  obtain ⟨a', c', e', -, -⟩ := h.ns.len
  exact ⟨a, _, c, a', _, c', e, e'⟩
theorem yieldsIf_eql {ops : Array Oper} {S : World → Prop} {op : Oper} {a : Act} (hw : Region.wanted op (yielded ops a.tmps) = true) (t t' : TypeId) (x y : Operand) (ho : op.op = .binOp .eql t x y t') (X Y : List Value) (hx : a.eval x = .agg X.toArray) (hy : a.eval y = .agg Y.toArray) (hg : Try.prog.eqGuardType Try.prog.depth t = false) {r : Bool} (he : EqR t X Y r) : YieldsIf Try.prog ops S op (.bool r) a := .inl ⟨hw, fun w _ => by
  unfold execOp
  simp only [ho, hx, hy, Sem.run_bind, run_eqGuard_agg w _ _ _ _ _ _ hg, Result.andThen_ok, run_eql_struct, he w, Sem.run_pure]⟩
structure PoB (p : Po) : Prop where
  ls : p.ls.length ≤ 100000000000
  ns : p.ns.length ≤ 100000000000
  pl : ∀ l ∈ p.ls, l.pl.length ≤ 1000000000000
  len : (poB p).length ≤ 400000000000
set_option maxRecDepth 40000 in
set_option maxHeartbeats 8000000 in
theorem wireApart_any (ka kb : Int) (oa ob : OpV) (okA : oa.Ok) (okB : ob.Ok) (xsA xsB : List Int) (hxA : I64s xsA) (hxB : I64s xsB) (va vb : Value) (w : World) (hlA : xsA.length ≤ 1048576) (hlB : xsB.length ≤ 1048576) (hrA0 : RdI w va xsA) (hrB0 : RdI w vb xsB)
    (m n : Nt) (okM : m.Ok) (okN : n.Ok) (s t : Po) (okS : s.Ok) (okT : t.Ok) (pS : PoB s) (pT : PoB t) (svl svn tvl tvn : Value) (hS0 : RdPo w svl svn s) (hT0 : RdPo w tvl tvn t) :
    Calls Try.prog 3 #[recV ka oa va, recV kb ob vb, .agg (ntL m).toArray, .agg (ntL n).toArray, .agg #[.int .i64 s.td, svl, svn], .agg #[.int .i64 t.td, tvl, tvn]] w fun e w' => e = .returned (.bool true) ∧ Below w.heap.size w w' := by
  obtain ⟨aa, ac, ea, -, -⟩ := hrA0.len
  obtain ⟨ba, bc, eb, -, -⟩ := hrB0.len
  obtain ⟨an, ean⟩ : ∃ n, (xsA.map (Value.int .i64)).length = n := ⟨_, rfl⟩
  obtain ⟨bn, ebn⟩ : ∃ n, (xsB.map (Value.int .i64)).length = n := ⟨_, rfl⟩
  rw [ean] at ea
  rw [ebn] at eb
  subst ea eb
  have hrA : RdI w (.slice aa an ac) xsA := hrA0
  have hrB : RdI w (.slice ba bn bc) xsB := hrB0
  clear hrA0 hrB0
  obtain ⟨sla, sln, slc, sna, snn, snc, rfl, rfl⟩ := po_slices hS0
  obtain ⟨tla, tln, tlc, tna, tnn, tnc, rfl, rfl⟩ := po_slices hT0
  have TRA : Hid (∀ W, Below w.heap.size w W → Calls Try.prog 8 #[.agg (recC ka oa (.slice aa an ac)).toArray] W fun e w' => ∃ va vn vc, e = .returned (.agg (recC ka oa (.slice va vn vc)).toArray) ∧ RdI w' (.slice va vn vc) xsA ∧ Below W.heap.size W w') := fun W hb => (twinRecord_at ka oa xsA _ W (by omega) (Rd.later hrA hb)).mono fun e w' ⟨vb, h1, h2, h3⟩ => by
    obtain ⟨va, vc, ev, -, -⟩ := (RowV.rd h2).len
    exact ⟨va, _, vc, by rw [h1, ev]; rfl, by rw [← ev]; exact RowV.rd h2, h3⟩
  have ERA : Hid (∀ W va vn vc, RdI W (.slice va vn vc) xsA → Calls Try.prog 7 #[.agg (recC ka oa (.slice va vn vc)).toArray] W (NewB W (recL ka oa xsA))) := fun W va vn vc h => encodeRecord_at ka oa okA xsA hxA _ W h (by omega)
  have TRB : Hid (∀ W, Below w.heap.size w W → Calls Try.prog 8 #[.agg (recC kb ob (.slice ba bn bc)).toArray] W fun e w' => ∃ va vn vc, e = .returned (.agg (recC kb ob (.slice va vn vc)).toArray) ∧ RdI w' (.slice va vn vc) xsB ∧ Below W.heap.size W w') := fun W hb => (twinRecord_at kb ob xsB _ W (by omega) (Rd.later hrB hb)).mono fun e w' ⟨vb, h1, h2, h3⟩ => by
    obtain ⟨va, vc, ev, -, -⟩ := (RowV.rd h2).len
    exact ⟨va, _, vc, by rw [h1, ev]; rfl, by rw [← ev]; exact RowV.rd h2, h3⟩
  have ERB : Hid (∀ W va vn vc, RdI W (.slice va vn vc) xsB → Calls Try.prog 7 #[.agg (recC kb ob (.slice va vn vc)).toArray] W (NewB W (recL kb ob xsB))) := fun W va vn vc h => encodeRecord_at kb ob okB xsB hxB _ W h (by omega)
  obtain ⟨ua1, uo1, u1a, u1n, u1c, xu1, ue1, uok1, ur1, ul1, ui1⟩ := usedRV_is ka oa okA aa an ac xsA w hrA
  have USA : Hid (∀ W, Below w.heap.size w W → Calls Try.prog 9 #[.agg (recC ka oa (.slice aa an ac)).toArray] W fun e w' => e = .returned (.tuple #[.agg (recC ua1 uo1 (.slice u1a u1n u1c)).toArray, .bool (recOk ka oa)]) ∧ Below W.heap.size W w') := fun W _ => by
    have := usedRecord_at ka oa aa an ac W
    rw [ue1] at this
    exact this
  obtain ⟨ua2, uo2, u2a, u2n, u2c, xu2, ue2, uok2, ur2, ul2, ui2⟩ := usedRV_is kb ob okB ba bn bc xsB w hrB
  have USB : Hid (∀ W, Below w.heap.size w W → Calls Try.prog 9 #[.agg (recC kb ob (.slice ba bn bc)).toArray] W fun e w' => e = .returned (.tuple #[.agg (recC ua2 uo2 (.slice u2a u2n u2c)).toArray, .bool (recOk kb ob)]) ∧ Below W.heap.size W w') := fun W _ => by
    have := usedRecord_at kb ob ba bn bc W
    rw [ue2] at this
    exact this
  have LA := recL_len ka oa okA xsA hxA (by omega)
  have LB := recL_len kb ob okB xsB hxB (by omega)
  have SR : Hid (∀ W, Below w.heap.size w W → Calls Try.prog 11 #[.agg (recC ua1 uo1 (.slice u1a u1n u1c)).toArray, .agg (recC ua2 uo2 (.slice u2a u2n u2c)).toArray] W fun e w' => AnsB ((ua1, uo1, xu1) = (ua2, uo2, xu2)) e ∧ Below W.heap.size W w') := fun W hb => sameRecordG_at ua1 ua2 uo1 uo2 uok1 uok2 xu1 xu2 _ _ W (by omega) (Rd.later ur1 hb) (Rd.later ur2 hb)
  have RI : Hid (recOk ka oa = true → recOk kb ob = true → (recL ka oa xsA = recL kb ob xsB ↔ (ua1, uo1, xu1) = (ua2, uo2, xu2))) := fun h1 h2 => by rw [ui1 h1, ui2 h2]; exact recL_inj okA okB h1 h2
  have SB : Hid (∀ W v1 v2, RdB W v1 (recL ka oa xsA) → RdB W v2 (recL kb ob xsB) → Calls Try.prog 10 #[v1, v2] W fun e w' => e = .returned (.bool (decide (recL ka oa xsA = recL kb ob xsB))) ∧ Below W.heap.size W w') := fun W v1 v2 h1 h2 => (same_at _ _ v1 v2 W (by omega) h1 h2).mono fun e w' ⟨g1, n, g2⟩ => ⟨g1, by rw [g2]; exact below_drewN (Below.refl _ _) n⟩
  have EM : Hid (∀ W, Calls Try.prog 12 #[.agg (ntL m).toArray] W (NewB W (ntB m))) := fun W => encNotice_yes m okM W
  have EN : Hid (∀ W, Calls Try.prog 12 #[.agg (ntL n).toArray] W (NewB W (ntB n))) := fun W => encNotice_yes n okN W
  have LM : (ntB m).length ≤ 50 := putFs_le okM.f okM.fL
  have SM : Hid (∀ W v1 v2, RdB W v1 (ntB m) → RdB W v2 (ntB n) → Calls Try.prog 10 #[v1, v2] W fun e w' => e = .returned (.bool (decide (ntB m = ntB n))) ∧ Below W.heap.size W w') := fun W v1 v2 h1 h2 => (same_at _ _ v1 v2 W (by omega) h1 h2).mono fun e w' ⟨g1, n, g2⟩ => ⟨g1, by rw [g2]; exact below_drewN (Below.refl _ _) n⟩
  obtain ⟨m2, hm2⟩ : ∃ m2 : Nt, m2 = ⟨m.f, n.ak⟩ := ⟨_, rfl⟩
  have okM2 : m2.Ok := by rw [hm2]; exact ⟨okM.fL, okM.f⟩
  obtain ⟨rn, qn, jn⟩ := eqNt m2 n okM2 okN
  have EQN : Hid (EqR 28 (ntL m2) (ntL n) rn) := qn
  have RN : Hid (decide (ntB m = ntB n) = rn) := by
    show _ = _
    have h1 : rn = true ↔ ntB m = ntB n := by
      rw [jn, ntB_inj okM okN, hm2]
      constructor
      · intro e; rw [← e]
      · intro e; cases n; simp only at e ⊢; rw [e]
    cases rn
    · exact decide_eq_false (fun e => by have := h1.2 e; cases this)
    · exact decide_eq_true (h1.1 rfl)
  have HM2 : Hid ((ntL m).set 5 (.bool n.ak) = ntL m2) := by show _ = _; rw [hm2]; rfl
  have gdn : Try.prog.eqGuardType Try.prog.depth 28 = false := by kernel_rfl
  have TWS : Hid (∀ W, Below w.heap.size w W → Calls Try.prog 14 #[.agg #[.int .i64 s.td, .slice sla sln slc, .slice sna snn snc]] W fun e w' => ∃ vl' vn', e = .returned (.agg #[.int .i64 s.td, vl', vn']) ∧ RdPo w' vl' vn' s ∧ Below W.heap.size W w') := fun W hb => twinState_at s _ _ W (hS0.later hb) pS.ls pS.ns pS.pl
  have TWT : Hid (∀ W, Below w.heap.size w W → Calls Try.prog 14 #[.agg #[.int .i64 t.td, .slice tla tln tlc, .slice tna tnn tnc]] W fun e w' => ∃ vl' vn', e = .returned (.agg #[.int .i64 t.td, vl', vn']) ∧ RdPo w' vl' vn' t ∧ Below W.heap.size W w') := fun W hb => twinState_at t _ _ W (hT0.later hb) pT.ls pT.ns pT.pl
  have ES : Hid (∀ W vl vn, RdPo W vl vn s → Calls Try.prog 13 #[.agg #[.int .i64 s.td, vl, vn]] W (NewB W (poB s))) := fun W vl vn h => encState_at s okS vl vn W h (Nat.le_trans pS.ls (by decide)) (Nat.le_trans pS.ns (by decide)) pS.pl pS.len
  have ET : Hid (∀ W vl vn, RdPo W vl vn t → Calls Try.prog 13 #[.agg #[.int .i64 t.td, vl, vn]] W (NewB W (poB t))) := fun W vl vn h => encState_at t okT vl vn W h (Nat.le_trans pT.ls (by decide)) (Nat.le_trans pT.ns (by decide)) pT.pl pT.len
  have SS : Hid (∀ W v1 v2, RdB W v1 (poB s) → RdB W v2 (poB t) → Calls Try.prog 10 #[v1, v2] W fun e w' => e = .returned (.bool (@decide (s = t) (Classical.propDecidable _))) ∧ Below W.heap.size W w') := fun W v1 v2 h1 h2 => by
    have h := same_at _ _ v1 v2 W (by have := pS.len; omega) h1 h2
    have e : decide (poB s = poB t) = @decide (s = t) (Classical.propDecidable _) := by
      by_cases c : s = t
      · rw [decide_eq_true ((poB_inj okS okT).2 c), @decide_eq_true _ (Classical.propDecidable _) c]
      · rw [decide_eq_false (fun h => c ((poB_inj okS okT).1 h)), @decide_eq_false _ (Classical.propDecidable _) c]
    rw [e] at h
    exact h.mono fun e w' ⟨g1, n, g2⟩ => ⟨g1, by rw [g2]; exact below_drewN (Below.refl _ _) n⟩
  have SQ : Hid (∀ W, Below w.heap.size w W → Calls Try.prog 15 #[.agg #[.int .i64 s.td, .slice sla sln slc, .slice sna snn snc], .agg #[.int .i64 t.td, .slice tla tln tlc, .slice tna tnn tnc]] W fun e w' => e = .returned (.bool (@decide (s = t) (Classical.propDecidable _))) ∧ Below W.heap.size W w') := fun W hb => (sameState_at s t okS okT _ _ _ _ W (Nat.le_trans pS.ls (by decide)) (Nat.le_trans pS.ns (by decide)) pS.pl (hS0.later hb) (hT0.later hb)).mono fun e w' ⟨⟨b, h1, h2⟩, h3⟩ => ⟨by
    rw [h1]
    by_cases c : s = t
    · rw [h2.2 c, @decide_eq_true _ (Classical.propDecidable _) c]
    · rw [@decide_eq_false _ (Classical.propDecidable _) c]
      cases b
      · rfl
      · exact absurd (h2.1 rfl) c, h3⟩
  obtain ⟨bst, hbst⟩ : ∃ b, b = @decide (s = t) (Classical.propDecidable _) := ⟨_, rfl⟩
  rw [← hbst] at SQ
  have SS2 : Hid (∀ W v1 v2, RdB W v1 (poB s) → RdB W v2 (poB t) → Calls Try.prog 10 #[v1, v2] W fun e w' => e = .returned (.bool bst) ∧ Below W.heap.size W w') := by rw [hbst]; exact SS.out
  have K0 : Hid (KD w [(w.heap.size, 26, recC ka oa (.slice aa an ac)), (w.heap.size + 1, 26, recC kb ob (.slice ba bn bc)), (w.heap.size + 1 + 1, 28, ntL m), (w.heap.size + 1 + 1 + 1, 28, ntL n), (w.heap.size + 1 + 1 + 1 + 1, 32, [.int .i64 s.td, .slice sla sln slc, .slice sna snn snc]), (w.heap.size + 1 + 1 + 1 + 1 + 1, 32, [.int .i64 t.td, .slice tla tln tlc, .slice tna tnn tnc])] ((((((w.alloc (.cells (recC ka oa (.slice aa an ac)).toArray 26)).alloc (.cells (recC kb ob (.slice ba bn bc)).toArray 26)).alloc (.cells (ntL m).toArray 28)).alloc (.cells (ntL n).toArray 28)).alloc (.cells #[.int .i64 s.td, .slice sla sln slc, .slice sna snn snc] 32)).alloc (.cells #[.int .i64 t.td, .slice tla tln tlc, .slice tna tnn tnc] 32))) := KD.six w 26 26 28 28 32 32 (recC ka oa (.slice aa an ac)) (recC kb ob (.slice ba bn bc)) (ntL m) (ntL n) [.int .i64 s.td, .slice sla sln slc, .slice sna snn snc] [.int .i64 t.td, .slice tla tln tlc, .slice tna tnn tnc]
  rw [recC_V, recC_V]
  clear SS hbst hm2 okM2 qn jn okA okB hxA hxB hlA hlB hrA hrB okM okN okS okT pS pT hS0 hT0 ue1 ue2 uok1 uok2 ur1 ur2 ul1 ul2 ui1 ui2 LA LB LM ean ebn
  obtain ⟨uk, huk⟩ : ∃ b, b = recOk ka oa := ⟨_, rfl⟩
  obtain ⟨vk, hvk⟩ : ∃ b, b = recOk kb ob := ⟨_, rfl⟩
  rw [← huk] at USA RI
  rw [← hvk] at USB RI
  clear huk hvk
  go_enter Try.func3, Try.ntmps3
  go_upto_region 1 with fail
  generalize ((((((w.alloc (.cells (recC ka oa (.slice aa an ac)).toArray 26)).alloc (.cells (recC kb ob (.slice ba bn bc)).toArray 26)).alloc (.cells (ntL m).toArray 28)).alloc (.cells (ntL n).toArray 28)).alloc (.cells #[.int .i64 s.td, .slice sla sln slc, .slice sna snn snc] 32)).alloc (.cells #[.int .i64 t.td, .slice tla tln tlc, .slice tna tnn tnc] 32)) = W0 at *
  obtain ⟨X, hX⟩ : ∃ X, w.heap.size = X := ⟨_, rfl⟩
  rw [hX] at K0 ⊢
  clear hX
  go_wp2_with ((with_reducible refine at_loadT 26 ?_); refine step_load rfl 26 _ rfl (X) 0 rfl (recC ka oa (.slice aa an ac)) _ (Blk.all (K0.out.at (q := (X, 26, recC ka oa (.slice aa an ac))) 0 rfl)) Try.underlying26 rfl (sizR _ _ _) ?_)
  refine (TRA.out _ K0.out.bb).mono ?_
  rintro e w1 ⟨va1, vn1, vc1, rfl, r1, b1⟩
  have K1 : Hid (KD w [(X, 26, recC ka oa (.slice aa an ac)), (X + 1, 26, recC kb ob (.slice ba bn bc)), (X + 1 + 1, 28, ntL m), (X + 1 + 1 + 1, 28, ntL n), (X + 1 + 1 + 1 + 1, 32, [.int .i64 s.td, .slice sla sln slc, .slice sna snn snc]), (X + 1 + 1 + 1 + 1 + 1, 32, [.int .i64 t.td, .slice tla tln tlc, .slice tna tnn tnc])] w1) := K0.out.call b1
  have R1 : Hid (RdI w1 (.slice va1 vn1 vc1) xsA) := r1
  clear K0 r1 b1 TRA
  go_wp2_with fail
  refine (ERA.out _ _ _ _ R1.out).mono ?_
  rintro e w2 ⟨vp, rfl, rp, b2⟩
  obtain ⟨pa, pc, ev, -, -⟩ := (RowV.rd rp).len
  generalize ((recL ka oa xsA).map bv).length = pn at ev
  subst ev
  have K2 : Hid (KD w [(X, 26, recC ka oa (.slice aa an ac)), (X + 1, 26, recC kb ob (.slice ba bn bc)), (X + 1 + 1, 28, ntL m), (X + 1 + 1 + 1, 28, ntL n), (X + 1 + 1 + 1 + 1, 32, [.int .i64 s.td, .slice sla sln slc, .slice sna snn snc]), (X + 1 + 1 + 1 + 1 + 1, 32, [.int .i64 t.td, .slice tla tln tlc, .slice tna tnn tnc])] w2) := K1.out.call b2
  have P2 : Hid (RdB w2 (.slice pa pn pc) (recL ka oa xsA)) := RowV.rd rp
  clear K1 rp b2 ERA R1
  go_wp2_with ((with_reducible refine at_loadT 26 ?_); refine step_load rfl 26 _ rfl (X + 1) 0 rfl (recC kb ob (.slice ba bn bc)) _ (Blk.all (K2.out.at (q := (X + 1, 26, recC kb ob (.slice ba bn bc))) 1 rfl)) Try.underlying26 rfl (sizR _ _ _) ?_)
  refine (TRB.out _ K2.out.bb).mono ?_
  rintro e w3 ⟨va3, vn3, vc3, rfl, r3, b3⟩
  have K3 : Hid (KD w [(X, 26, recC ka oa (.slice aa an ac)), (X + 1, 26, recC kb ob (.slice ba bn bc)), (X + 1 + 1, 28, ntL m), (X + 1 + 1 + 1, 28, ntL n), (X + 1 + 1 + 1 + 1, 32, [.int .i64 s.td, .slice sla sln slc, .slice sna snn snc]), (X + 1 + 1 + 1 + 1 + 1, 32, [.int .i64 t.td, .slice tla tln tlc, .slice tna tnn tnc])] w3) := K2.out.call b3
  have P3 : Hid (RdB w3 (.slice pa pn pc) (recL ka oa xsA)) := Rd.later P2.out b3
  have R3 : Hid (RdI w3 (.slice va3 vn3 vc3) xsB) := r3
  clear K2 P2 r3 b3 TRB
  go_wp2_with fail
  refine (ERB.out _ _ _ _ R3.out).mono ?_
  rintro e w4 ⟨vq, rfl, rq, b4⟩
  obtain ⟨qa, qc, ev, -, -⟩ := (RowV.rd rq).len
  generalize ((recL kb ob xsB).map bv).length = qn at ev
  subst ev
  have K4 : Hid (KD w [(X, 26, recC ka oa (.slice aa an ac)), (X + 1, 26, recC kb ob (.slice ba bn bc)), (X + 1 + 1, 28, ntL m), (X + 1 + 1 + 1, 28, ntL n), (X + 1 + 1 + 1 + 1, 32, [.int .i64 s.td, .slice sla sln slc, .slice sna snn snc]), (X + 1 + 1 + 1 + 1 + 1, 32, [.int .i64 t.td, .slice tla tln tlc, .slice tna tnn tnc])] w4) := K3.out.call b4
  have P4 : Hid (RdB w4 (.slice pa pn pc) (recL ka oa xsA)) := Rd.later P3.out b4
  have Q4 : Hid (RdB w4 (.slice qa qn qc) (recL kb ob xsB)) := RowV.rd rq
  clear K3 P3 rq b4 ERB R3
  go_wp2_with ((with_reducible refine at_loadT 26 ?_); refine step_load rfl 26 _ rfl (X) 0 rfl (recC ka oa (.slice aa an ac)) _ (Blk.all (K4.out.at (q := (X, 26, recC ka oa (.slice aa an ac))) 0 rfl)) Try.underlying26 rfl (sizR _ _ _) ?_)
  refine (USA.out _ K4.out.bb).mono ?_
  rintro e w5 ⟨rfl, b5⟩
  have K5 : Hid (KD w [(X, 26, recC ka oa (.slice aa an ac)), (X + 1, 26, recC kb ob (.slice ba bn bc)), (X + 1 + 1, 28, ntL m), (X + 1 + 1 + 1, 28, ntL n), (X + 1 + 1 + 1 + 1, 32, [.int .i64 s.td, .slice sla sln slc, .slice sna snn snc]), (X + 1 + 1 + 1 + 1 + 1, 32, [.int .i64 t.td, .slice tla tln tlc, .slice tna tnn tnc])] w5) := K4.out.call b5
  have P5 : Hid (RdB w5 (.slice pa pn pc) (recL ka oa xsA)) := Rd.later P4.out b5
  have Q5 : Hid (RdB w5 (.slice qa qn qc) (recL kb ob xsB)) := Rd.later Q4.out b5
  clear K4 P4 Q4 b5 USA
  have KN : Hid (KD w [(X, 26, recC ka oa (.slice aa an ac)), (X + 1, 26, recC kb ob (.slice ba bn bc)), (X + 1 + 1, 28, ntL m), (X + 1 + 1 + 1, 28, ntL n), (X + 1 + 1 + 1 + 1, 32, [.int .i64 s.td, .slice sla sln slc, .slice sna snn snc]), (X + 1 + 1 + 1 + 1 + 1, 32, [.int .i64 t.td, .slice tla tln tlc, .slice tna tnn tnc]), (w5.heap.size, 26, [.int .i64 0, .int .i64 0, .int .i64 0, .int .i64 0, .int .i64 0, .int .i64 0, .int .i64 0, .string ⟨#[]⟩, .slice none 0 0])] (w5.alloc (.cells #[.int .i64 0, .int .i64 0, .int .i64 0, .int .i64 0, .int .i64 0, .int .i64 0, .int .i64 0, .string ⟨#[]⟩, .slice none 0 0] 26))) := K5.out.new _ _
  have PN : Hid (RdB (w5.alloc (.cells #[.int .i64 0, .int .i64 0, .int .i64 0, .int .i64 0, .int .i64 0, .int .i64 0, .int .i64 0, .string ⟨#[]⟩, .slice none 0 0] 26)) (.slice pa pn pc) (recL ka oa xsA)) := Rd.later P5.out (below_alloc _ _)
  have QN : Hid (RdB (w5.alloc (.cells #[.int .i64 0, .int .i64 0, .int .i64 0, .int .i64 0, .int .i64 0, .int .i64 0, .int .i64 0, .string ⟨#[]⟩, .slice none 0 0] 26)) (.slice qa qn qc) (recL kb ob xsB)) := Rd.later Q5.out (below_alloc _ _)
  have BP : Hid (∀ g, (Value.slice pa pn pc).ownBlock = some g → 0 < ((recL ka oa xsA).map bv).length → g < w5.heap.size) := fun g hg h0 => Rd.block P5.out h0 hg
  have BQ : Hid (∀ g, (Value.slice qa qn qc).ownBlock = some g → 0 < ((recL kb ob xsB).map bv).length → g < w5.heap.size) := fun g hg h0 => Rd.block Q5.out h0 hg
  clear K5 P5 Q5
  obtain ⟨U1, hU1⟩ : ∃ U, w5.heap.size = U := ⟨_, rfl⟩
  rw [hU1] at KN BP BQ
  go_wp2_with (first
    | ((with_reducible refine at_store ?_); (try rw [hU1]); refine step_store rfl 26 _ _ rfl U1 0 26 [.int .i64 0, .int .i64 0, .int .i64 0, .int .i64 0, .int .i64 0, .int .i64 0, .int .i64 0, .string ⟨#[]⟩, .slice none 0 0] (recC ua1 uo1 (.slice u1a u1n u1c)) rfl rfl (KN.out.at (q := (U1, 26, [.int .i64 0, .int .i64 0, .int .i64 0, .int .i64 0, .int .i64 0, .int .i64 0, .int .i64 0, .string ⟨#[]⟩, .slice none 0 0])) 6 rfl) (by simp [recC, opC]) (sizR _ _ _) (recC_one _ _ _ _ _) ?_; intro w6 nb6 g6; rw [store_all (by rfl)] at nb6; have K6 : Hid (KD w [(X, 26, recC ka oa (.slice aa an ac)), (X + 1, 26, recC kb ob (.slice ba bn bc)), (X + 1 + 1, 28, ntL m), (X + 1 + 1 + 1, 28, ntL n), (X + 1 + 1 + 1 + 1, 32, [.int .i64 s.td, .slice sla sln slc, .slice sna snn snc]), (X + 1 + 1 + 1 + 1 + 1, 32, [.int .i64 t.td, .slice tla tln tlc, .slice tna tnn tnc]), (U1, 26, recC ua1 uo1 (.slice u1a u1n u1c))] w6) := KN.out.store (q := (U1, 26, [.int .i64 0, .int .i64 0, .int .i64 0, .int .i64 0, .int .i64 0, .int .i64 0, .int .i64 0, .string ⟨#[]⟩, .slice none 0 0])) 6 rfl nb6 g6; have P6 : Hid (RdB w6 (.slice pa pn pc) (recL ka oa xsA)) := Rd.grownN PN.out g6 (fun h0 e => by have := BP.out _ e h0; omega); have Q6 : Hid (RdB w6 (.slice qa qn qc) (recL kb ob xsB)) := Rd.grownN QN.out g6 (fun h0 e => by have := BQ.out _ e h0; omega); clear nb6 g6 KN PN QN BP BQ)
    | ((with_reducible refine at_loadT 26 ?_); refine step_load rfl 26 _ rfl (X + 1) 0 rfl (recC kb ob (.slice ba bn bc)) _ (Blk.all (K6.out.at (q := (X + 1, 26, recC kb ob (.slice ba bn bc))) 1 rfl)) Try.underlying26 rfl (sizR _ _ _) ?_))
  refine (USB.out _ K6.out.bb).mono ?_
  rintro e w7 ⟨rfl, b7⟩
  have K7 : Hid (KD w [(X, 26, recC ka oa (.slice aa an ac)), (X + 1, 26, recC kb ob (.slice ba bn bc)), (X + 1 + 1, 28, ntL m), (X + 1 + 1 + 1, 28, ntL n), (X + 1 + 1 + 1 + 1, 32, [.int .i64 s.td, .slice sla sln slc, .slice sna snn snc]), (X + 1 + 1 + 1 + 1 + 1, 32, [.int .i64 t.td, .slice tla tln tlc, .slice tna tnn tnc]), (U1, 26, recC ua1 uo1 (.slice u1a u1n u1c))] w7) := K6.out.call b7
  have P7 : Hid (RdB w7 (.slice pa pn pc) (recL ka oa xsA)) := Rd.later P6.out b7
  have Q7 : Hid (RdB w7 (.slice qa qn qc) (recL kb ob xsB)) := Rd.later Q6.out b7
  clear K6 P6 Q6 b7 USB
  have KN : Hid (KD w [(X, 26, recC ka oa (.slice aa an ac)), (X + 1, 26, recC kb ob (.slice ba bn bc)), (X + 1 + 1, 28, ntL m), (X + 1 + 1 + 1, 28, ntL n), (X + 1 + 1 + 1 + 1, 32, [.int .i64 s.td, .slice sla sln slc, .slice sna snn snc]), (X + 1 + 1 + 1 + 1 + 1, 32, [.int .i64 t.td, .slice tla tln tlc, .slice tna tnn tnc]), (U1, 26, recC ua1 uo1 (.slice u1a u1n u1c)), (w7.heap.size, 26, [.int .i64 0, .int .i64 0, .int .i64 0, .int .i64 0, .int .i64 0, .int .i64 0, .int .i64 0, .string ⟨#[]⟩, .slice none 0 0])] (w7.alloc (.cells #[.int .i64 0, .int .i64 0, .int .i64 0, .int .i64 0, .int .i64 0, .int .i64 0, .int .i64 0, .string ⟨#[]⟩, .slice none 0 0] 26))) := K7.out.new _ _
  have PN : Hid (RdB (w7.alloc (.cells #[.int .i64 0, .int .i64 0, .int .i64 0, .int .i64 0, .int .i64 0, .int .i64 0, .int .i64 0, .string ⟨#[]⟩, .slice none 0 0] 26)) (.slice pa pn pc) (recL ka oa xsA)) := Rd.later P7.out (below_alloc _ _)
  have QN : Hid (RdB (w7.alloc (.cells #[.int .i64 0, .int .i64 0, .int .i64 0, .int .i64 0, .int .i64 0, .int .i64 0, .int .i64 0, .string ⟨#[]⟩, .slice none 0 0] 26)) (.slice qa qn qc) (recL kb ob xsB)) := Rd.later Q7.out (below_alloc _ _)
  have BP : Hid (∀ g, (Value.slice pa pn pc).ownBlock = some g → 0 < ((recL ka oa xsA).map bv).length → g < w7.heap.size) := fun g hg h0 => Rd.block P7.out h0 hg
  have BQ : Hid (∀ g, (Value.slice qa qn qc).ownBlock = some g → 0 < ((recL kb ob xsB).map bv).length → g < w7.heap.size) := fun g hg h0 => Rd.block Q7.out h0 hg
  clear K7 P7 Q7
  obtain ⟨U2, hU2⟩ : ∃ U, w7.heap.size = U := ⟨_, rfl⟩
  rw [hU2] at KN BP BQ
  go_upto_region 5 with ((with_reducible refine at_store ?_); (try rw [hU2]); refine step_store rfl 26 _ _ rfl U2 0 26 [.int .i64 0, .int .i64 0, .int .i64 0, .int .i64 0, .int .i64 0, .int .i64 0, .int .i64 0, .string ⟨#[]⟩, .slice none 0 0] (recC ua2 uo2 (.slice u2a u2n u2c)) rfl rfl (KN.out.at (q := (U2, 26, [.int .i64 0, .int .i64 0, .int .i64 0, .int .i64 0, .int .i64 0, .int .i64 0, .int .i64 0, .string ⟨#[]⟩, .slice none 0 0])) 7 rfl) (by simp [recC, opC]) (sizR _ _ _) (recC_one _ _ _ _ _) ?_; intro w8 nb8 g8; rw [store_all (by rfl)] at nb8; have K8 : Hid (KD w [(X, 26, recC ka oa (.slice aa an ac)), (X + 1, 26, recC kb ob (.slice ba bn bc)), (X + 1 + 1, 28, ntL m), (X + 1 + 1 + 1, 28, ntL n), (X + 1 + 1 + 1 + 1, 32, [.int .i64 s.td, .slice sla sln slc, .slice sna snn snc]), (X + 1 + 1 + 1 + 1 + 1, 32, [.int .i64 t.td, .slice tla tln tlc, .slice tna tnn tnc]), (U1, 26, recC ua1 uo1 (.slice u1a u1n u1c)), (U2, 26, recC ua2 uo2 (.slice u2a u2n u2c))] w8) := KN.out.store (q := (U2, 26, [.int .i64 0, .int .i64 0, .int .i64 0, .int .i64 0, .int .i64 0, .int .i64 0, .int .i64 0, .string ⟨#[]⟩, .slice none 0 0])) 7 rfl nb8 g8; have P8 : Hid (RdB w8 (.slice pa pn pc) (recL ka oa xsA)) := Rd.grownN PN.out g8 (fun h0 e => by have := BP.out _ e h0; omega); have Q8 : Hid (RdB w8 (.slice qa qn qc) (recL kb ob xsB)) := Rd.grownN QN.out g8 (fun h0 e => by have := BQ.out _ e h0; omega); clear nb8 g8 KN PN QN BP BQ)
  have huR := Try.underlying26
  obtain ⟨bb, hbb⟩ : ∃ b, b = decide (recL ka oa xsA = recL kb ob xsB) := ⟨_, rfl⟩
  have HB : Hid (bb = true ↔ recL ka oa xsA = recL kb ob xsB) := by show _ ↔ _; rw [hbb]; simp
  rw [← hbb] at SB
  clear hbb
  rw [RN.out] at SM
  cases uk with
  | true =>
    cases vk with
    | true =>
      have n0 : (bb != bb) = false := by simp
      refine wp_region_held_drew (S := fun w' => KD w [(X, 26, recC ka oa (.slice aa an ac)), (X + 1, 26, recC kb ob (.slice ba bn bc)), (X + 1 + 1, 28, ntL m), (X + 1 + 1 + 1, 28, ntL n), (X + 1 + 1 + 1 + 1, 32, [.int .i64 s.td, .slice sla sln slc, .slice sna snn snc]), (X + 1 + 1 + 1 + 1 + 1, 32, [.int .i64 t.td, .slice tla tln tlc, .slice tna tnn tnc]), (U1, 26, recC ua1 uo1 (.slice u1a u1n u1c)), (U2, 26, recC ua2 uo2 (.slice u2a u2n u2c))] w') (by kernel_rfl) (K8.out.drew) (fun hH => ?_)
      refine wpAnyH_take (i := 0) (oi := { dst := some 35, op := Op.move (Operand.tmp 16), type := 4, pos := "outright.go:201", after := #[], guard := none }) (v := .bool true) rfl (by kernel_rfl) (by kernel_rfl) (by kernel_rfl) (fun _ _ _ h => h) (Or.inl ⟨by rfl, fun w' h => by go_simp⟩) hH ?_
      try simp only [Act.put, List.setIfInBounds_toArray, List.set_cons_zero, List.set_cons_succ]
      refine wpAnyH_take (i := 1) (oi := { dst := some 36, op := Op.move (Operand.tmp 35), type := 4, pos := "outright.go:201", after := #[{ on := 0, ground := Ground.data }], guard := none }) (v := .bool true) rfl (by kernel_rfl) (by kernel_rfl) (by kernel_rfl) (fun _ _ _ h => h) (Or.inl ⟨by rfl, fun w' h => by go_simp⟩) hH ?_
      try simp only [Act.put, List.setIfInBounds_toArray, List.set_cons_zero, List.set_cons_succ]
      refine wpAnyH_take (i := 2) (oi := { dst := some 37, op := Op.move (Operand.tmp 18), type := 4, pos := "outright.go:201", after := #[{ on := 1, ground := Ground.guard }], guard := some (1, true) }) (v := .bool true) rfl (by kernel_rfl) (by kernel_rfl) (by kernel_rfl) (fun _ _ _ h => h) (Or.inl ⟨by rfl, fun w' h => by go_simp⟩) hH ?_
      try simp only [Act.put, List.setIfInBounds_toArray, List.set_cons_zero, List.set_cons_succ]
      refine wpAnyH_take (i := 3) (oi := { dst := some 38, op := Op.pick (Operand.tmp 36) (Operand.tmp 37) (Operand.const (Value.bool false)), type := 4, pos := "outright.go:201", after := #[{ on := 1, ground := Ground.data }, { on := 2, ground := Ground.data }], guard := none }) (v := .bool true) rfl (by kernel_rfl) (by kernel_rfl) (by kernel_rfl) (fun _ _ _ h => h) (Or.inl ⟨by rfl, fun w' h => by go_simp⟩) hH ?_
      try simp only [Act.put, List.setIfInBounds_toArray, List.set_cons_zero, List.set_cons_succ]
      refine wpAnyH_take (i := 4) (oi := { dst := some 39, op := Op.move (Operand.tmp 38), type := 4, pos := "outright.go:201", after := #[{ on := 3, ground := Ground.data }, { on := 1, ground := Ground.chain }], guard := none }) (v := .bool true) rfl (by kernel_rfl) (by kernel_rfl) (by kernel_rfl) (fun _ _ _ h => h) (Or.inl ⟨by rfl, fun w' h => by go_simp⟩) hH ?_
      try simp only [Act.put, List.setIfInBounds_toArray, List.set_cons_zero, List.set_cons_succ]
      refine wpAnyH_take (i := 5) (oi := { dst := some 40, op := Op.move (Operand.tmp 13), type := 33, pos := "outright.go:201", after := #[{ on := 4, ground := Ground.guard }], guard := some (4, true) }) (v := .slice pa pn pc) rfl (by kernel_rfl) (by kernel_rfl) (by kernel_rfl) (fun _ _ _ h => h) (Or.inl ⟨by rfl, fun w' h => by go_simp⟩) hH ?_
      try simp only [Act.put, List.setIfInBounds_toArray, List.set_cons_zero, List.set_cons_succ]
      refine wpAnyH_take (i := 6) (oi := { dst := some 41, op := Op.move (Operand.tmp 14), type := 33, pos := "outright.go:201", after := #[{ on := 4, ground := Ground.guard }], guard := some (4, true) }) (v := .slice qa qn qc) rfl (by kernel_rfl) (by kernel_rfl) (by kernel_rfl) (fun _ _ _ h => h) (Or.inl ⟨by rfl, fun w' h => by go_simp⟩) hH ?_
      try simp only [Act.put, List.setIfInBounds_toArray, List.set_cons_zero, List.set_cons_succ]
      refine wpAnyH_take (i := 8) (oi := { dst := some 43, op := Op.load 26 (Operand.tmp 15), type := 26, pos := "outright.go:201", after := #[{ on := 4, ground := Ground.guard }], guard := some (4, true) }) (v := .agg (recC ua1 uo1 (.slice u1a u1n u1c)).toArray) rfl (by kernel_rfl) (by kernel_rfl) (by kernel_rfl) (fun _ _ _ h => h) (yieldsIf_load_mid (by rfl) _ _ rfl U1 0 rfl (recC ua1 uo1 (.slice u1a u1n u1c)) _ (fun w' h => Blk.all (h.at (q := (U1, 26, recC ua1 uo1 (.slice u1a u1n u1c))) 6 rfl)) huR rfl (sizR _ _ _)) hH ?_
      try simp only [Act.put, List.setIfInBounds_toArray, List.set_cons_zero, List.set_cons_succ]
      refine wpAnyH_take (i := 9) (oi := { dst := some 44, op := Op.load 26 (Operand.tmp 17), type := 26, pos := "outright.go:201", after := #[{ on := 4, ground := Ground.guard }], guard := some (4, true) }) (v := .agg (recC ua2 uo2 (.slice u2a u2n u2c)).toArray) rfl (by kernel_rfl) (by kernel_rfl) (by kernel_rfl) (fun _ _ _ h => h) (yieldsIf_load_mid (by rfl) _ _ rfl U2 0 rfl (recC ua2 uo2 (.slice u2a u2n u2c)) _ (fun w' h => Blk.all (h.at (q := (U2, 26, recC ua2 uo2 (.slice u2a u2n u2c))) 7 rfl)) huR rfl (sizR _ _ _)) hH ?_
      try simp only [Act.put, List.setIfInBounds_toArray, List.set_cons_zero, List.set_cons_succ]
      refine wpAnyH_ready (rs := [7]) (by kernel_rfl) (by simp) ?_
      refine AllReadyH.cons (o := { dst := some 42, op := Op.call { callee := Callee.value (Operand.func 10), args := #[Operand.tmp 40, Operand.tmp 41], argTypes := #[33, 33] }, type := 4, pos := "outright.go:201", after := #[{ on := 5, ground := Ground.data }, { on := 6, ground := Ground.data }, { on := 4, ground := Ground.chain }, { on := 4, ground := Ground.guard }], guard := some (4, true) }) rfl (fun K hK => ?_) AllReadyH.nil
      go_simp
      refine (SB.out _ _ _ (P8.out.drewN 1) (Q8.out.drewN 1)).mono ?_
      rintro e w9a ⟨rfl, bs9⟩
      refine hK.out _ _ (hH.call bs9) (fun hH => ?_)
      try simp only [List.setIfInBounds_toArray, List.set_cons_zero, List.set_cons_succ]
      clear hK
      refine wpAnyH_ready (rs := [10]) (by kernel_rfl) (by simp) ?_
      refine AllReadyH.cons (o := { dst := some 45, op := Op.call { callee := Callee.value (Operand.func 11), args := #[Operand.tmp 43, Operand.tmp 44], argTypes := #[26, 26] }, type := 4, pos := "outright.go:201", after := #[{ on := 8, ground := Ground.data }, { on := 9, ground := Ground.data }, { on := 7, ground := Ground.chain }, { on := 4, ground := Ground.guard }], guard := some (4, true) }) rfl (fun K hK => ?_) AllReadyH.nil
      go_simp
      refine (SR.out _ hH.bb).mono ?_
      rintro e w9 ⟨⟨b2, rfl, ib⟩, b9⟩
      have eb : b2 = bb := by
        have h1 := RI.out rfl rfl
        have h2 := HB.out
        have h3 : b2 = true ↔ bb = true := by rw [ib, h2, h1]
        cases b2 <;> cases bb <;> simp_all
      subst eb
      have K9 : Hid (KD w [(X, 26, recC ka oa (.slice aa an ac)), (X + 1, 26, recC kb ob (.slice ba bn bc)), (X + 1 + 1, 28, ntL m), (X + 1 + 1 + 1, 28, ntL n), (X + 1 + 1 + 1 + 1, 32, [.int .i64 s.td, .slice sla sln slc, .slice sna snn snc]), (X + 1 + 1 + 1 + 1 + 1, 32, [.int .i64 t.td, .slice tla tln tlc, .slice tna tnn tnc]), (U1, 26, recC ua1 uo1 (.slice u1a u1n u1c)), (U2, 26, recC ua2 uo2 (.slice u2a u2n u2c))] w9) := hH.call b9
      have P9 : Hid True := trivial
      have Q9 : Hid True := trivial
      refine hK.out _ _ K9.out (fun hH => ?_)
      try simp only [List.setIfInBounds_toArray, List.set_cons_zero, List.set_cons_succ]
      clear hK b9 ib
      refine wpAnyH_take (i := 11) (oi := { dst := some 46, op := Op.binOp BinOp.neq 4 (Operand.tmp 42) (Operand.tmp 45) 4, type := 4, pos := "outright.go:201", after := #[{ on := 7, ground := Ground.data }, { on := 10, ground := Ground.data }, { on := 4, ground := Ground.guard }], guard := some (4, true) }) (v := .bool false) rfl (by kernel_rfl) (by kernel_rfl) (by kernel_rfl) (fun _ _ _ h => h) (Or.inl ⟨by rfl, fun w' h => by go_simp⟩) hH ?_
      try simp only [Act.put, List.setIfInBounds_toArray, List.set_cons_zero, List.set_cons_succ]
      refine wpAnyH_take (i := 12) (oi := { dst := some 47, op := Op.pick (Operand.tmp 39) (Operand.tmp 46) (Operand.const (Value.bool false)), type := 4, pos := "outright.go:201", after := #[{ on := 4, ground := Ground.data }, { on := 11, ground := Ground.data }], guard := none }) (v := .bool false) rfl (by kernel_rfl) (by kernel_rfl) (by kernel_rfl) (fun _ _ _ h => h) (Or.inl ⟨by rfl, fun w' h => by go_simp⟩) hH ?_
      try simp only [Act.put, List.setIfInBounds_toArray, List.set_cons_zero, List.set_cons_succ]
      refine wpAnyH_done (by kernel_rfl) ?_ _
      clear hH n0 P8 Q8 K8 HB
      clear P9 Q9 SB SR RI
      go_wp2_with ((with_reducible refine at_loadT 28 ?_); refine step_load rfl 28 _ rfl (X + 1 + 1) 0 rfl (ntL m) _ (Blk.all (K9.out.at (q := (X + 1 + 1, 28, ntL m)) 2 rfl)) Try.underlying28 rfl (sizN _) ?_)
      refine (EM.out _).mono ?_
      rintro e w10 ⟨vp2, rfl, rp, b10⟩
      have G10 : Hid (∀ g, vp2.ownBlock = some g → w9.heap.size ≤ g) := fun g hg => rp.block_ge hg
      have LX2 : Hid (X + 1 + 1 < w9.heap.size) := K9.out.lt (q := (X + 1 + 1, 28, ntL m)) 2 rfl
      obtain ⟨pa2, pc2, ev, -, -⟩ := (RowV.rd rp).len
      generalize ((ntB m).map bv).length = pn2 at ev
      subst ev
      have K10 : Hid (KD w [(X, 26, recC ka oa (.slice aa an ac)), (X + 1, 26, recC kb ob (.slice ba bn bc)), (X + 1 + 1, 28, ntL m), (X + 1 + 1 + 1, 28, ntL n), (X + 1 + 1 + 1 + 1, 32, [.int .i64 s.td, .slice sla sln slc, .slice sna snn snc]), (X + 1 + 1 + 1 + 1 + 1, 32, [.int .i64 t.td, .slice tla tln tlc, .slice tna tnn tnc]), (U1, 26, recC ua1 uo1 (.slice u1a u1n u1c)), (U2, 26, recC ua2 uo2 (.slice u2a u2n u2c))] w10) := K9.out.call b10
      have P10 : Hid (RdB w10 (.slice pa2 pn2 pc2) (ntB m)) := RowV.rd rp
      have S10 : Hid (w9.heap.size ≤ w10.heap.size) := b10.size
      clear K9 rp b10 EM
      go_wp2_with ((with_reducible refine at_loadT 28 ?_); refine step_load rfl 28 _ rfl (X + 1 + 1 + 1) 0 rfl (ntL n) _ (Blk.all (K10.out.at (q := (X + 1 + 1 + 1, 28, ntL n)) 3 rfl)) Try.underlying28 rfl (sizN _) ?_)
      refine (EN.out _).mono ?_
      rintro e w11 ⟨vq2, rfl, rq, b11⟩
      have G11 : Hid (∀ g, vq2.ownBlock = some g → w10.heap.size ≤ g) := fun g hg => rq.block_ge hg
      obtain ⟨qa2, qc2, ev, -, -⟩ := (RowV.rd rq).len
      generalize ((ntB n).map bv).length = qn2 at ev
      subst ev
      have K11 : Hid (KD w [(X, 26, recC ka oa (.slice aa an ac)), (X + 1, 26, recC kb ob (.slice ba bn bc)), (X + 1 + 1, 28, ntL m), (X + 1 + 1 + 1, 28, ntL n), (X + 1 + 1 + 1 + 1, 32, [.int .i64 s.td, .slice sla sln slc, .slice sna snn snc]), (X + 1 + 1 + 1 + 1 + 1, 32, [.int .i64 t.td, .slice tla tln tlc, .slice tna tnn tnc]), (U1, 26, recC ua1 uo1 (.slice u1a u1n u1c)), (U2, 26, recC ua2 uo2 (.slice u2a u2n u2c))] w11) := K10.out.call b11
      have P11 : Hid (RdB w11 (.slice pa2 pn2 pc2) (ntB m)) := Rd.later P10.out b11
      have Q11 : Hid (RdB w11 (.slice qa2 qn2 qc2) (ntB n)) := RowV.rd rq
      clear K10 rq b11 EN P10
      have c5 : w11.cell? ⟨X + 1 + 1 + 1, 5, none⟩ = some (.bool n.ak) := K11.out.cell (q := (X + 1 + 1 + 1, 28, ntL n)) 3 5 rfl _ rfl
      have e5 : w11.cell? ⟨X + 1 + 1, 5, none⟩ = some (.bool m.ak) := K11.out.cell (q := (X + 1 + 1, 28, ntL m)) 2 5 rfl _ rfl
      have z5 : w11.frozen? ⟨X + 1 + 1, 5, none⟩ = false := K11.out.fz (q := (X + 1 + 1, 28, ntL m)) 2 5 rfl
      have lt5 := K11.out.lt (q := (X + 1 + 1, 28, ntL m)) 2 rfl
      go_upto_region 10 with fail
      have g12 := setCell_grown w11 (X + 1 + 1) 5 (.bool n.ak)
      have K12 : Hid (KD w [(X, 26, recC ka oa (.slice aa an ac)), (X + 1, 26, recC kb ob (.slice ba bn bc)), (X + 1 + 1, 28, ntL m2), (X + 1 + 1 + 1, 28, ntL n), (X + 1 + 1 + 1 + 1, 32, [.int .i64 s.td, .slice sla sln slc, .slice sna snn snc]), (X + 1 + 1 + 1 + 1 + 1, 32, [.int .i64 t.td, .slice tla tln tlc, .slice tna tnn tnc]), (U1, 26, recC ua1 uo1 (.slice u1a u1n u1c)), (U2, 26, recC ua2 uo2 (.slice u2a u2n u2c))] (w11.setCell ⟨X + 1 + 1, 5, none⟩ (.bool n.ak))) := by
        have h := K11.out.set (q := (X + 1 + 1, 28, ntL m)) 2 5 rfl (.bool n.ak)
        rw [HM2.out] at h
        exact h
      have P12 : Hid (RdB (w11.setCell ⟨X + 1 + 1, 5, none⟩ (.bool n.ak)) (.slice pa2 pn2 pc2) (ntB m)) := Rd.grownN P11.out g12 (fun _ e => by have := G10.out _ e; have := LX2.out; omega)
      have Q12 : Hid (RdB (w11.setCell ⟨X + 1 + 1, 5, none⟩ (.bool n.ak)) (.slice qa2 qn2 qc2) (ntB n)) := Rd.grownN Q11.out g12 (fun _ e => by have := G11.out _ e; have := LX2.out; have := S10.out; omega)
      clear g12 K11 P11 Q11 c5 e5 z5 lt5 G10 G11 LX2 S10
      generalize w11.setCell ⟨X + 1 + 1, 5, none⟩ (.bool n.ak) = w12 at *
      have huN := Try.underlying28
      have n0 : (rn != rn) = false := by simp
      refine wp_region_held_drew (S := fun w' => KD w [(X, 26, recC ka oa (.slice aa an ac)), (X + 1, 26, recC kb ob (.slice ba bn bc)), (X + 1 + 1, 28, ntL m2), (X + 1 + 1 + 1, 28, ntL n), (X + 1 + 1 + 1 + 1, 32, [.int .i64 s.td, .slice sla sln slc, .slice sna snn snc]), (X + 1 + 1 + 1 + 1 + 1, 32, [.int .i64 t.td, .slice tla tln tlc, .slice tna tnn tnc]), (U1, 26, recC ua1 uo1 (.slice u1a u1n u1c)), (U2, 26, recC ua2 uo2 (.slice u2a u2n u2c))] w') (by kernel_rfl) (K12.out.drew) (fun hH => ?_)
      refine wpAnyH_take (i := 0) (oi := { dst := some 55, op := Op.move (Operand.tmp 13), type := 33, pos := "outright.go:207", after := #[], guard := none }) (v := .slice pa2 pn2 pc2) rfl (by kernel_rfl) (by kernel_rfl) (by kernel_rfl) (fun _ _ _ h => h) (Or.inl ⟨by rfl, fun w' h => by go_simp⟩) hH ?_
      try simp only [Act.put, List.setIfInBounds_toArray, List.set_cons_zero, List.set_cons_succ]
      refine wpAnyH_take (i := 1) (oi := { dst := some 56, op := Op.move (Operand.tmp 14), type := 33, pos := "outright.go:207", after := #[], guard := none }) (v := .slice qa2 qn2 qc2) rfl (by kernel_rfl) (by kernel_rfl) (by kernel_rfl) (fun _ _ _ h => h) (Or.inl ⟨by rfl, fun w' h => by go_simp⟩) hH ?_
      try simp only [Act.put, List.setIfInBounds_toArray, List.set_cons_zero, List.set_cons_succ]
      refine wpAnyH_take (i := 3) (oi := { dst := some 58, op := Op.load 28 (Operand.tmp 8), type := 28, pos := "outright.go:207", after := #[], guard := none }) (v := .agg (ntL m2).toArray) rfl (by kernel_rfl) (by kernel_rfl) (by kernel_rfl) (fun _ _ _ h => h) (yieldsIf_load_mid (by rfl) _ _ rfl (X + 1 + 1) 0 rfl (ntL m2) _ (fun w' h => Blk.all (h.at (q := (X + 1 + 1, 28, ntL m2)) 2 rfl)) huN rfl (sizN _)) hH ?_
      try simp only [Act.put, List.setIfInBounds_toArray, List.set_cons_zero, List.set_cons_succ]
      refine wpAnyH_take (i := 4) (oi := { dst := some 59, op := Op.load 28 (Operand.tmp 9), type := 28, pos := "outright.go:207", after := #[], guard := none }) (v := .agg (ntL n).toArray) rfl (by kernel_rfl) (by kernel_rfl) (by kernel_rfl) (fun _ _ _ h => h) (yieldsIf_load_mid (by rfl) _ _ rfl (X + 1 + 1 + 1) 0 rfl (ntL n) _ (fun w' h => Blk.all (h.at (q := (X + 1 + 1 + 1, 28, ntL n)) 3 rfl)) huN rfl (sizN _)) hH ?_
      try simp only [Act.put, List.setIfInBounds_toArray, List.set_cons_zero, List.set_cons_succ]
      refine wpAnyH_take (i := 5) (oi := { dst := some 60, op := Op.binOp BinOp.eql 28 (Operand.tmp 58) (Operand.tmp 59) 28, type := 4, pos := "outright.go:207", after := #[{ on := 3, ground := Ground.data }, { on := 4, ground := Ground.data }], guard := none }) (v := .bool rn) rfl (by kernel_rfl) (by kernel_rfl) (by kernel_rfl) (fun _ _ _ h => h) (yieldsIf_eql (by rfl) 28 28 _ _ rfl (ntL m2) (ntL n) rfl rfl gdn EQN.out) hH ?_
      try simp only [Act.put, List.setIfInBounds_toArray, List.set_cons_zero, List.set_cons_succ]
      refine wpAnyH_ready (rs := [2]) (by kernel_rfl) (by simp) ?_
      refine AllReadyH.cons (o := { dst := some 57, op := Op.call { callee := Callee.value (Operand.func 10), args := #[Operand.tmp 55, Operand.tmp 56], argTypes := #[33, 33] }, type := 4, pos := "outright.go:207", after := #[{ on := 0, ground := Ground.data }, { on := 1, ground := Ground.data }], guard := none }) rfl (fun K hK => ?_) AllReadyH.nil
      go_simp
      refine (SM.out _ _ _ (P12.out.drewN 1) (Q12.out.drewN 1)).mono ?_
      rintro e w14 ⟨rfl, b14⟩
      have K13 : Hid (KD w [(X, 26, recC ka oa (.slice aa an ac)), (X + 1, 26, recC kb ob (.slice ba bn bc)), (X + 1 + 1, 28, ntL m2), (X + 1 + 1 + 1, 28, ntL n), (X + 1 + 1 + 1 + 1, 32, [.int .i64 s.td, .slice sla sln slc, .slice sna snn snc]), (X + 1 + 1 + 1 + 1 + 1, 32, [.int .i64 t.td, .slice tla tln tlc, .slice tna tnn tnc]), (U1, 26, recC ua1 uo1 (.slice u1a u1n u1c)), (U2, 26, recC ua2 uo2 (.slice u2a u2n u2c))] w14) := hH.call b14
      refine hK.out _ _ K13.out (fun hH => ?_)
      try simp only [List.setIfInBounds_toArray, List.set_cons_zero, List.set_cons_succ]
      refine wpAnyH_take (i := 6) (oi := { dst := some 61, op := Op.binOp BinOp.neq 4 (Operand.tmp 57) (Operand.tmp 60) 4, type := 4, pos := "outright.go:207", after := #[{ on := 2, ground := Ground.data }, { on := 5, ground := Ground.data }], guard := none }) (v := .bool false) rfl (by kernel_rfl) (by kernel_rfl) (by kernel_rfl) (fun _ _ _ h => h) (Or.inl ⟨by rfl, fun w' h => by go_simp⟩) hH ?_
      try simp only [Act.put, List.setIfInBounds_toArray, List.set_cons_zero, List.set_cons_succ]
      refine wpAnyH_done (by kernel_rfl) ?_ _
      clear hH hK P12 Q12 K12 SM EQN n0 b14
      go_upto_region 12 with fail
      have huS := Try.underlying32
      have b0 : (bst == bst) = true := by simp
      refine wp_region_held_drew (S := fun w' => KD w [(X, 26, recC ka oa (.slice aa an ac)), (X + 1, 26, recC kb ob (.slice ba bn bc)), (X + 1 + 1, 28, ntL m2), (X + 1 + 1 + 1, 28, ntL n), (X + 1 + 1 + 1 + 1, 32, [.int .i64 s.td, .slice sla sln slc, .slice sna snn snc]), (X + 1 + 1 + 1 + 1 + 1, 32, [.int .i64 t.td, .slice tla tln tlc, .slice tna tnn tnc]), (U1, 26, recC ua1 uo1 (.slice u1a u1n u1c)), (U2, 26, recC ua2 uo2 (.slice u2a u2n u2c))] w') (by kernel_rfl) (K13.out.drew) (fun hH => ?_)
      refine wpAnyH_take (i := 0) (oi := { dst := some 62, op := Op.load 32 (Operand.tmp 10), type := 32, pos := "outright.go:210", after := #[], guard := none }) (v := .agg ([.int .i64 s.td, .slice sla sln slc, .slice sna snn snc]).toArray) rfl (by kernel_rfl) (by kernel_rfl) (by kernel_rfl) (fun _ _ _ h => h) (yieldsIf_load_mid (by rfl) _ _ rfl (X + 1 + 1 + 1 + 1) 0 rfl ([.int .i64 s.td, .slice sla sln slc, .slice sna snn snc]) _ (fun w' h => Blk.all (h.at (q := (X + 1 + 1 + 1 + 1, 32, [.int .i64 s.td, .slice sla sln slc, .slice sna snn snc])) 4 rfl)) huS rfl (sz3 _ _ _)) hH ?_
      try simp only [Act.put, List.setIfInBounds_toArray, List.set_cons_zero, List.set_cons_succ]
      refine wpAnyH_take (i := 3) (oi := { dst := some 65, op := Op.load 32 (Operand.tmp 11), type := 32, pos := "outright.go:210", after := #[], guard := none }) (v := .agg ([.int .i64 t.td, .slice tla tln tlc, .slice tna tnn tnc]).toArray) rfl (by kernel_rfl) (by kernel_rfl) (by kernel_rfl) (fun _ _ _ h => h) (yieldsIf_load_mid (by rfl) _ _ rfl (X + 1 + 1 + 1 + 1 + 1) 0 rfl ([.int .i64 t.td, .slice tla tln tlc, .slice tna tnn tnc]) _ (fun w' h => Blk.all (h.at (q := (X + 1 + 1 + 1 + 1 + 1, 32, [.int .i64 t.td, .slice tla tln tlc, .slice tna tnn tnc])) 5 rfl)) huS rfl (sz3 _ _ _)) hH ?_
      try simp only [Act.put, List.setIfInBounds_toArray, List.set_cons_zero, List.set_cons_succ]
      refine wpAnyH_take (i := 7) (oi := { dst := some 69, op := Op.load 32 (Operand.tmp 10), type := 32, pos := "outright.go:210", after := #[], guard := none }) (v := .agg ([.int .i64 s.td, .slice sla sln slc, .slice sna snn snc]).toArray) rfl (by kernel_rfl) (by kernel_rfl) (by kernel_rfl) (fun _ _ _ h => h) (yieldsIf_load_mid (by rfl) _ _ rfl (X + 1 + 1 + 1 + 1) 0 rfl ([.int .i64 s.td, .slice sla sln slc, .slice sna snn snc]) _ (fun w' h => Blk.all (h.at (q := (X + 1 + 1 + 1 + 1, 32, [.int .i64 s.td, .slice sla sln slc, .slice sna snn snc])) 4 rfl)) huS rfl (sz3 _ _ _)) hH ?_
      try simp only [Act.put, List.setIfInBounds_toArray, List.set_cons_zero, List.set_cons_succ]
      refine wpAnyH_take (i := 8) (oi := { dst := some 70, op := Op.load 32 (Operand.tmp 11), type := 32, pos := "outright.go:210", after := #[], guard := none }) (v := .agg ([.int .i64 t.td, .slice tla tln tlc, .slice tna tnn tnc]).toArray) rfl (by kernel_rfl) (by kernel_rfl) (by kernel_rfl) (fun _ _ _ h => h) (yieldsIf_load_mid (by rfl) _ _ rfl (X + 1 + 1 + 1 + 1 + 1) 0 rfl ([.int .i64 t.td, .slice tla tln tlc, .slice tna tnn tnc]) _ (fun w' h => Blk.all (h.at (q := (X + 1 + 1 + 1 + 1 + 1, 32, [.int .i64 t.td, .slice tla tln tlc, .slice tna tnn tnc])) 5 rfl)) huS rfl (sz3 _ _ _)) hH ?_
      try simp only [Act.put, List.setIfInBounds_toArray, List.set_cons_zero, List.set_cons_succ]
      refine wpAnyH_ready (rs := [1]) (by kernel_rfl) (by simp) ?_
      refine AllReadyH.cons (o := { dst := some 63, op := Op.call { callee := Callee.value (Operand.func 14), args := #[Operand.tmp 62], argTypes := #[32] }, type := 32, pos := "outright.go:210", after := #[{ on := 0, ground := Ground.data }], guard := none }) rfl (fun K hK => ?_) AllReadyH.nil
      go_simp
      refine (TWS.out _ hH.bb).mono ?_
      rintro e w15 ⟨vl1, vn1, rfl, r1, b1⟩
      obtain ⟨x1, x2, x3, x4, x5, x6, rfl, rfl⟩ := po_slices r1
      have R1 : Hid (RdPo w15 (.slice x1 x2 x3) (.slice x4 x5 x6) s) := r1
      refine hK.out _ _ (hH.call b1) (fun hH => ?_)
      try simp only [List.setIfInBounds_toArray, List.set_cons_zero, List.set_cons_succ]
      clear hK r1 b1
      refine wpAnyH_ready (rs := [2]) (by kernel_rfl) (by simp) ?_
      refine AllReadyH.cons (o := { dst := some 64, op := Op.call { callee := Callee.value (Operand.func 13), args := #[Operand.tmp 63], argTypes := #[32] }, type := 33, pos := "outright.go:210", after := #[{ on := 1, ground := Ground.data }, { on := 1, ground := Ground.chain }], guard := none }) rfl (fun K hK => ?_) AllReadyH.nil
      go_simp
      refine (ES.out _ _ _ R1.out).mono ?_
      rintro e w16 ⟨v1, rfl, rv1, b2⟩
      obtain ⟨y1, y3, ev, -, -⟩ := (RowV.rd rv1).len
      generalize ((poB s).map bv).length = y2 at ev
      subst ev
      have D1 : Hid (RdB w16 (.slice y1 y2 y3) (poB s)) := RowV.rd rv1
      refine hK.out _ _ (hH.call b2) (fun hH => ?_)
      try simp only [List.setIfInBounds_toArray, List.set_cons_zero, List.set_cons_succ]
      clear hK rv1 b2 R1
      refine wpAnyH_ready (rs := [4]) (by kernel_rfl) (by simp) ?_
      refine AllReadyH.cons (o := { dst := some 66, op := Op.call { callee := Callee.value (Operand.func 14), args := #[Operand.tmp 65], argTypes := #[32] }, type := 32, pos := "outright.go:210", after := #[{ on := 3, ground := Ground.data }, { on := 2, ground := Ground.chain }], guard := none }) rfl (fun K hK => ?_) AllReadyH.nil
      go_simp
      refine (TWT.out _ hH.bb).mono ?_
      rintro e w17 ⟨vl3, vn3, rfl, r3, b3⟩
      obtain ⟨x7, x8, x9, x10, x11, x12, rfl, rfl⟩ := po_slices r3
      have R3 : Hid (RdPo w17 (.slice x7 x8 x9) (.slice x10 x11 x12) t) := r3
      have D2 : Hid (RdB w17 (.slice y1 y2 y3) (poB s)) := Rd.later D1.out b3
      refine hK.out _ _ (hH.call b3) (fun hH => ?_)
      try simp only [List.setIfInBounds_toArray, List.set_cons_zero, List.set_cons_succ]
      clear hK r3 b3 D1
      refine wpAnyH_ready (rs := [5]) (by kernel_rfl) (by simp) ?_
      refine AllReadyH.cons (o := { dst := some 67, op := Op.call { callee := Callee.value (Operand.func 13), args := #[Operand.tmp 66], argTypes := #[32] }, type := 33, pos := "outright.go:210", after := #[{ on := 4, ground := Ground.data }, { on := 4, ground := Ground.chain }], guard := none }) rfl (fun K hK => ?_) AllReadyH.nil
      go_simp
      refine (ET.out _ _ _ R3.out).mono ?_
      rintro e w18 ⟨v4, rfl, rv4, b4⟩
      obtain ⟨y4, y6, ev, -, -⟩ := (RowV.rd rv4).len
      generalize ((poB t).map bv).length = y5 at ev
      subst ev
      have D3 : Hid (RdB w18 (.slice y1 y2 y3) (poB s)) := Rd.later D2.out b4
      have D4 : Hid (RdB w18 (.slice y4 y5 y6) (poB t)) := RowV.rd rv4
      refine hK.out _ _ (hH.call b4) (fun hH => ?_)
      try simp only [List.setIfInBounds_toArray, List.set_cons_zero, List.set_cons_succ]
      clear hK rv4 b4 R3 D2
      refine wpAnyH_ready (rs := [6]) (by kernel_rfl) (by simp) ?_
      refine AllReadyH.cons (o := { dst := some 68, op := Op.call { callee := Callee.value (Operand.func 10), args := #[Operand.tmp 64, Operand.tmp 67], argTypes := #[33, 33] }, type := 4, pos := "outright.go:210", after := #[{ on := 2, ground := Ground.data }, { on := 5, ground := Ground.data }, { on := 5, ground := Ground.chain }], guard := none }) rfl (fun K hK => ?_) AllReadyH.nil
      go_simp
      refine (SS2.out _ _ _ D3.out D4.out).mono ?_
      rintro e w19 ⟨rfl, b19⟩
      refine hK.out _ _ (hH.call b19) (fun hH => ?_)
      try simp only [List.setIfInBounds_toArray, List.set_cons_zero, List.set_cons_succ]
      clear hK D3 D4
      refine wpAnyH_ready (rs := [9]) (by kernel_rfl) (by simp) ?_
      refine AllReadyH.cons (o := { dst := some 71, op := Op.call { callee := Callee.value (Operand.func 15), args := #[Operand.tmp 69, Operand.tmp 70], argTypes := #[32, 32] }, type := 4, pos := "outright.go:210", after := #[{ on := 7, ground := Ground.data }, { on := 8, ground := Ground.data }, { on := 6, ground := Ground.chain }], guard := none }) rfl (fun K hK => ?_) AllReadyH.nil
      go_simp
      refine (SQ.out _ hH.bb).mono ?_
      rintro e w20 ⟨rfl, b20⟩
      have B20 : Hid (Below w.heap.size w w20) := (hH.call b20).bb
      refine hK.out _ _ (hH.call b20) (fun hH => ?_)
      try simp only [List.setIfInBounds_toArray, List.set_cons_zero, List.set_cons_succ]
      clear hK b20
      refine wpAnyH_take (i := 10) (oi := { dst := some 72, op := Op.binOp BinOp.eql 4 (Operand.tmp 68) (Operand.tmp 71) 4, type := 4, pos := "outright.go:210", after := #[{ on := 6, ground := Ground.data }, { on := 9, ground := Ground.data }], guard := none }) (v := .bool true) rfl (by kernel_rfl) (by kernel_rfl) (by kernel_rfl) (fun _ _ _ h => h) (Or.inl ⟨by rfl, fun w' h => by go_simp⟩) hH ?_
      try simp only [Act.put, List.setIfInBounds_toArray, List.set_cons_zero, List.set_cons_succ]
      refine wpAnyH_take (i := 11) (oi := { dst := some 12, op := Op.assign (Operand.tmp 72), type := 4, pos := "outright.go:210", after := #[{ on := 10, ground := Ground.data }, { on := 9, ground := Ground.chain }, { on := 0, ground := Ground.phase }, { on := 1, ground := Ground.phase }, { on := 2, ground := Ground.phase }, { on := 3, ground := Ground.phase }, { on := 4, ground := Ground.phase }, { on := 5, ground := Ground.phase }, { on := 6, ground := Ground.phase }, { on := 7, ground := Ground.phase }, { on := 8, ground := Ground.phase }, { on := 9, ground := Ground.phase }, { on := 10, ground := Ground.phase }], guard := none }) (v := .bool true) rfl (by kernel_rfl) (by kernel_rfl) (by kernel_rfl) (fun _ _ _ h => h) (Or.inl ⟨by rfl, fun w' h => by go_simp⟩) hH ?_
      try simp only [Act.put, List.setIfInBounds_toArray, List.set_cons_zero, List.set_cons_succ]
      refine wpAnyH_done (by kernel_rfl) ?_ _
      clear hH
      go_wp2_with fail
      go_ret
      exact ⟨rfl, B20.out⟩
    | false =>
      refine wp_region_held_drew (S := fun w' => KD w [(X, 26, recC ka oa (.slice aa an ac)), (X + 1, 26, recC kb ob (.slice ba bn bc)), (X + 1 + 1, 28, ntL m), (X + 1 + 1 + 1, 28, ntL n), (X + 1 + 1 + 1 + 1, 32, [.int .i64 s.td, .slice sla sln slc, .slice sna snn snc]), (X + 1 + 1 + 1 + 1 + 1, 32, [.int .i64 t.td, .slice tla tln tlc, .slice tna tnn tnc]), (U1, 26, recC ua1 uo1 (.slice u1a u1n u1c)), (U2, 26, recC ua2 uo2 (.slice u2a u2n u2c))] w') (by kernel_rfl) (K8.out.drew) (fun hH => ?_)
      refine wpAnyH_take (i := 0) (oi := { dst := some 35, op := Op.move (Operand.tmp 16), type := 4, pos := "outright.go:201", after := #[], guard := none }) (v := .bool true) rfl (by kernel_rfl) (by kernel_rfl) (by kernel_rfl) (fun _ _ _ h => h) (Or.inl ⟨by rfl, fun w' h => by go_simp⟩) hH ?_
      try simp only [Act.put, List.setIfInBounds_toArray, List.set_cons_zero, List.set_cons_succ]
      refine wpAnyH_take (i := 1) (oi := { dst := some 36, op := Op.move (Operand.tmp 35), type := 4, pos := "outright.go:201", after := #[{ on := 0, ground := Ground.data }], guard := none }) (v := .bool true) rfl (by kernel_rfl) (by kernel_rfl) (by kernel_rfl) (fun _ _ _ h => h) (Or.inl ⟨by rfl, fun w' h => by go_simp⟩) hH ?_
      try simp only [Act.put, List.setIfInBounds_toArray, List.set_cons_zero, List.set_cons_succ]
      refine wpAnyH_take (i := 2) (oi := { dst := some 37, op := Op.move (Operand.tmp 18), type := 4, pos := "outright.go:201", after := #[{ on := 1, ground := Ground.guard }], guard := some (1, true) }) (v := .bool false) rfl (by kernel_rfl) (by kernel_rfl) (by kernel_rfl) (fun _ _ _ h => h) (Or.inl ⟨by rfl, fun w' h => by go_simp⟩) hH ?_
      try simp only [Act.put, List.setIfInBounds_toArray, List.set_cons_zero, List.set_cons_succ]
      refine wpAnyH_take (i := 3) (oi := { dst := some 38, op := Op.pick (Operand.tmp 36) (Operand.tmp 37) (Operand.const (Value.bool false)), type := 4, pos := "outright.go:201", after := #[{ on := 1, ground := Ground.data }, { on := 2, ground := Ground.data }], guard := none }) (v := .bool false) rfl (by kernel_rfl) (by kernel_rfl) (by kernel_rfl) (fun _ _ _ h => h) (Or.inl ⟨by rfl, fun w' h => by go_simp⟩) hH ?_
      try simp only [Act.put, List.setIfInBounds_toArray, List.set_cons_zero, List.set_cons_succ]
      refine wpAnyH_take (i := 4) (oi := { dst := some 39, op := Op.move (Operand.tmp 38), type := 4, pos := "outright.go:201", after := #[{ on := 3, ground := Ground.data }, { on := 1, ground := Ground.chain }], guard := none }) (v := .bool false) rfl (by kernel_rfl) (by kernel_rfl) (by kernel_rfl) (fun _ _ _ h => h) (Or.inl ⟨by rfl, fun w' h => by go_simp⟩) hH ?_
      try simp only [Act.put, List.setIfInBounds_toArray, List.set_cons_zero, List.set_cons_succ]
      refine wpAnyH_take (i := 5) (oi := { dst := some 40, op := Op.move (Operand.tmp 13), type := 33, pos := "outright.go:201", after := #[{ on := 4, ground := Ground.guard }], guard := some (4, true) }) (v := undef) rfl (by kernel_rfl) (by kernel_rfl) (by kernel_rfl) (fun _ _ _ h => h) (Or.inr ⟨by rfl, rfl⟩) hH ?_
      try simp only [Act.put, List.setIfInBounds_toArray, List.set_cons_zero, List.set_cons_succ]
      refine wpAnyH_take (i := 6) (oi := { dst := some 41, op := Op.move (Operand.tmp 14), type := 33, pos := "outright.go:201", after := #[{ on := 4, ground := Ground.guard }], guard := some (4, true) }) (v := undef) rfl (by kernel_rfl) (by kernel_rfl) (by kernel_rfl) (fun _ _ _ h => h) (Or.inr ⟨by rfl, rfl⟩) hH ?_
      try simp only [Act.put, List.setIfInBounds_toArray, List.set_cons_zero, List.set_cons_succ]
      refine wpAnyH_take (i := 7) (oi := { dst := some 42, op := Op.call { callee := Callee.value (Operand.func 10), args := #[Operand.tmp 40, Operand.tmp 41], argTypes := #[33, 33] }, type := 4, pos := "outright.go:201", after := #[{ on := 5, ground := Ground.data }, { on := 6, ground := Ground.data }, { on := 4, ground := Ground.chain }, { on := 4, ground := Ground.guard }], guard := some (4, true) }) (v := undef) rfl (by kernel_rfl) (by kernel_rfl) (by kernel_rfl) (fun _ _ _ h => h) (Or.inr ⟨by rfl, rfl⟩) hH ?_
      try simp only [Act.put, List.setIfInBounds_toArray, List.set_cons_zero, List.set_cons_succ]
      refine wpAnyH_take (i := 8) (oi := { dst := some 43, op := Op.load 26 (Operand.tmp 15), type := 26, pos := "outright.go:201", after := #[{ on := 4, ground := Ground.guard }], guard := some (4, true) }) (v := undef) rfl (by kernel_rfl) (by kernel_rfl) (by kernel_rfl) (fun _ _ _ h => h) (Or.inr ⟨by rfl, rfl⟩) hH ?_
      try simp only [Act.put, List.setIfInBounds_toArray, List.set_cons_zero, List.set_cons_succ]
      refine wpAnyH_take (i := 9) (oi := { dst := some 44, op := Op.load 26 (Operand.tmp 17), type := 26, pos := "outright.go:201", after := #[{ on := 4, ground := Ground.guard }], guard := some (4, true) }) (v := undef) rfl (by kernel_rfl) (by kernel_rfl) (by kernel_rfl) (fun _ _ _ h => h) (Or.inr ⟨by rfl, rfl⟩) hH ?_
      try simp only [Act.put, List.setIfInBounds_toArray, List.set_cons_zero, List.set_cons_succ]
      refine wpAnyH_take (i := 10) (oi := { dst := some 45, op := Op.call { callee := Callee.value (Operand.func 11), args := #[Operand.tmp 43, Operand.tmp 44], argTypes := #[26, 26] }, type := 4, pos := "outright.go:201", after := #[{ on := 8, ground := Ground.data }, { on := 9, ground := Ground.data }, { on := 7, ground := Ground.chain }, { on := 4, ground := Ground.guard }], guard := some (4, true) }) (v := undef) rfl (by kernel_rfl) (by kernel_rfl) (by kernel_rfl) (fun _ _ _ h => h) (Or.inr ⟨by rfl, rfl⟩) hH ?_
      try simp only [Act.put, List.setIfInBounds_toArray, List.set_cons_zero, List.set_cons_succ]
      refine wpAnyH_take (i := 11) (oi := { dst := some 46, op := Op.binOp BinOp.neq 4 (Operand.tmp 42) (Operand.tmp 45) 4, type := 4, pos := "outright.go:201", after := #[{ on := 7, ground := Ground.data }, { on := 10, ground := Ground.data }, { on := 4, ground := Ground.guard }], guard := some (4, true) }) (v := undef) rfl (by kernel_rfl) (by kernel_rfl) (by kernel_rfl) (fun _ _ _ h => h) (Or.inr ⟨by rfl, rfl⟩) hH ?_
      try simp only [Act.put, List.setIfInBounds_toArray, List.set_cons_zero, List.set_cons_succ]
      refine wpAnyH_take (i := 12) (oi := { dst := some 47, op := Op.pick (Operand.tmp 39) (Operand.tmp 46) (Operand.const (Value.bool false)), type := 4, pos := "outright.go:201", after := #[{ on := 4, ground := Ground.data }, { on := 11, ground := Ground.data }], guard := none }) (v := .bool false) rfl (by kernel_rfl) (by kernel_rfl) (by kernel_rfl) (fun _ _ _ h => h) (Or.inl ⟨by rfl, fun w' h => by go_simp⟩) hH ?_
      try simp only [Act.put, List.setIfInBounds_toArray, List.set_cons_zero, List.set_cons_succ]
      refine wpAnyH_done (by kernel_rfl) ?_ _
      clear hH P8 Q8 HB
      have K9 : Hid (KD w [(X, 26, recC ka oa (.slice aa an ac)), (X + 1, 26, recC kb ob (.slice ba bn bc)), (X + 1 + 1, 28, ntL m), (X + 1 + 1 + 1, 28, ntL n), (X + 1 + 1 + 1 + 1, 32, [.int .i64 s.td, .slice sla sln slc, .slice sna snn snc]), (X + 1 + 1 + 1 + 1 + 1, 32, [.int .i64 t.td, .slice tla tln tlc, .slice tna tnn tnc]), (U1, 26, recC ua1 uo1 (.slice u1a u1n u1c)), (U2, 26, recC ua2 uo2 (.slice u2a u2n u2c))] w8.drew) := K8.out.drew
      have P9 : Hid True := trivial
      have Q9 : Hid True := trivial
      generalize w8.drew = w9 at *
      clear K8
      clear P9 Q9 SB SR RI
      go_wp2_with ((with_reducible refine at_loadT 28 ?_); refine step_load rfl 28 _ rfl (X + 1 + 1) 0 rfl (ntL m) _ (Blk.all (K9.out.at (q := (X + 1 + 1, 28, ntL m)) 2 rfl)) Try.underlying28 rfl (sizN _) ?_)
      refine (EM.out _).mono ?_
      rintro e w10 ⟨vp2, rfl, rp, b10⟩
      have G10 : Hid (∀ g, vp2.ownBlock = some g → w9.heap.size ≤ g) := fun g hg => rp.block_ge hg
      have LX2 : Hid (X + 1 + 1 < w9.heap.size) := K9.out.lt (q := (X + 1 + 1, 28, ntL m)) 2 rfl
      obtain ⟨pa2, pc2, ev, -, -⟩ := (RowV.rd rp).len
      generalize ((ntB m).map bv).length = pn2 at ev
      subst ev
      have K10 : Hid (KD w [(X, 26, recC ka oa (.slice aa an ac)), (X + 1, 26, recC kb ob (.slice ba bn bc)), (X + 1 + 1, 28, ntL m), (X + 1 + 1 + 1, 28, ntL n), (X + 1 + 1 + 1 + 1, 32, [.int .i64 s.td, .slice sla sln slc, .slice sna snn snc]), (X + 1 + 1 + 1 + 1 + 1, 32, [.int .i64 t.td, .slice tla tln tlc, .slice tna tnn tnc]), (U1, 26, recC ua1 uo1 (.slice u1a u1n u1c)), (U2, 26, recC ua2 uo2 (.slice u2a u2n u2c))] w10) := K9.out.call b10
      have P10 : Hid (RdB w10 (.slice pa2 pn2 pc2) (ntB m)) := RowV.rd rp
      have S10 : Hid (w9.heap.size ≤ w10.heap.size) := b10.size
      clear K9 rp b10 EM
      go_wp2_with ((with_reducible refine at_loadT 28 ?_); refine step_load rfl 28 _ rfl (X + 1 + 1 + 1) 0 rfl (ntL n) _ (Blk.all (K10.out.at (q := (X + 1 + 1 + 1, 28, ntL n)) 3 rfl)) Try.underlying28 rfl (sizN _) ?_)
      refine (EN.out _).mono ?_
      rintro e w11 ⟨vq2, rfl, rq, b11⟩
      have G11 : Hid (∀ g, vq2.ownBlock = some g → w10.heap.size ≤ g) := fun g hg => rq.block_ge hg
      obtain ⟨qa2, qc2, ev, -, -⟩ := (RowV.rd rq).len
      generalize ((ntB n).map bv).length = qn2 at ev
      subst ev
      have K11 : Hid (KD w [(X, 26, recC ka oa (.slice aa an ac)), (X + 1, 26, recC kb ob (.slice ba bn bc)), (X + 1 + 1, 28, ntL m), (X + 1 + 1 + 1, 28, ntL n), (X + 1 + 1 + 1 + 1, 32, [.int .i64 s.td, .slice sla sln slc, .slice sna snn snc]), (X + 1 + 1 + 1 + 1 + 1, 32, [.int .i64 t.td, .slice tla tln tlc, .slice tna tnn tnc]), (U1, 26, recC ua1 uo1 (.slice u1a u1n u1c)), (U2, 26, recC ua2 uo2 (.slice u2a u2n u2c))] w11) := K10.out.call b11
      have P11 : Hid (RdB w11 (.slice pa2 pn2 pc2) (ntB m)) := Rd.later P10.out b11
      have Q11 : Hid (RdB w11 (.slice qa2 qn2 qc2) (ntB n)) := RowV.rd rq
      clear K10 rq b11 EN P10
      have c5 : w11.cell? ⟨X + 1 + 1 + 1, 5, none⟩ = some (.bool n.ak) := K11.out.cell (q := (X + 1 + 1 + 1, 28, ntL n)) 3 5 rfl _ rfl
      have e5 : w11.cell? ⟨X + 1 + 1, 5, none⟩ = some (.bool m.ak) := K11.out.cell (q := (X + 1 + 1, 28, ntL m)) 2 5 rfl _ rfl
      have z5 : w11.frozen? ⟨X + 1 + 1, 5, none⟩ = false := K11.out.fz (q := (X + 1 + 1, 28, ntL m)) 2 5 rfl
      have lt5 := K11.out.lt (q := (X + 1 + 1, 28, ntL m)) 2 rfl
      go_upto_region 10 with fail
      have g12 := setCell_grown w11 (X + 1 + 1) 5 (.bool n.ak)
      have K12 : Hid (KD w [(X, 26, recC ka oa (.slice aa an ac)), (X + 1, 26, recC kb ob (.slice ba bn bc)), (X + 1 + 1, 28, ntL m2), (X + 1 + 1 + 1, 28, ntL n), (X + 1 + 1 + 1 + 1, 32, [.int .i64 s.td, .slice sla sln slc, .slice sna snn snc]), (X + 1 + 1 + 1 + 1 + 1, 32, [.int .i64 t.td, .slice tla tln tlc, .slice tna tnn tnc]), (U1, 26, recC ua1 uo1 (.slice u1a u1n u1c)), (U2, 26, recC ua2 uo2 (.slice u2a u2n u2c))] (w11.setCell ⟨X + 1 + 1, 5, none⟩ (.bool n.ak))) := by
        have h := K11.out.set (q := (X + 1 + 1, 28, ntL m)) 2 5 rfl (.bool n.ak)
        rw [HM2.out] at h
        exact h
      have P12 : Hid (RdB (w11.setCell ⟨X + 1 + 1, 5, none⟩ (.bool n.ak)) (.slice pa2 pn2 pc2) (ntB m)) := Rd.grownN P11.out g12 (fun _ e => by have := G10.out _ e; have := LX2.out; omega)
      have Q12 : Hid (RdB (w11.setCell ⟨X + 1 + 1, 5, none⟩ (.bool n.ak)) (.slice qa2 qn2 qc2) (ntB n)) := Rd.grownN Q11.out g12 (fun _ e => by have := G11.out _ e; have := LX2.out; have := S10.out; omega)
      clear g12 K11 P11 Q11 c5 e5 z5 lt5 G10 G11 LX2 S10
      generalize w11.setCell ⟨X + 1 + 1, 5, none⟩ (.bool n.ak) = w12 at *
      have huN := Try.underlying28
      have n0 : (rn != rn) = false := by simp
      refine wp_region_held_drew (S := fun w' => KD w [(X, 26, recC ka oa (.slice aa an ac)), (X + 1, 26, recC kb ob (.slice ba bn bc)), (X + 1 + 1, 28, ntL m2), (X + 1 + 1 + 1, 28, ntL n), (X + 1 + 1 + 1 + 1, 32, [.int .i64 s.td, .slice sla sln slc, .slice sna snn snc]), (X + 1 + 1 + 1 + 1 + 1, 32, [.int .i64 t.td, .slice tla tln tlc, .slice tna tnn tnc]), (U1, 26, recC ua1 uo1 (.slice u1a u1n u1c)), (U2, 26, recC ua2 uo2 (.slice u2a u2n u2c))] w') (by kernel_rfl) (K12.out.drew) (fun hH => ?_)
      refine wpAnyH_take (i := 0) (oi := { dst := some 55, op := Op.move (Operand.tmp 13), type := 33, pos := "outright.go:207", after := #[], guard := none }) (v := .slice pa2 pn2 pc2) rfl (by kernel_rfl) (by kernel_rfl) (by kernel_rfl) (fun _ _ _ h => h) (Or.inl ⟨by rfl, fun w' h => by go_simp⟩) hH ?_
      try simp only [Act.put, List.setIfInBounds_toArray, List.set_cons_zero, List.set_cons_succ]
      refine wpAnyH_take (i := 1) (oi := { dst := some 56, op := Op.move (Operand.tmp 14), type := 33, pos := "outright.go:207", after := #[], guard := none }) (v := .slice qa2 qn2 qc2) rfl (by kernel_rfl) (by kernel_rfl) (by kernel_rfl) (fun _ _ _ h => h) (Or.inl ⟨by rfl, fun w' h => by go_simp⟩) hH ?_
      try simp only [Act.put, List.setIfInBounds_toArray, List.set_cons_zero, List.set_cons_succ]
      refine wpAnyH_take (i := 3) (oi := { dst := some 58, op := Op.load 28 (Operand.tmp 8), type := 28, pos := "outright.go:207", after := #[], guard := none }) (v := .agg (ntL m2).toArray) rfl (by kernel_rfl) (by kernel_rfl) (by kernel_rfl) (fun _ _ _ h => h) (yieldsIf_load_mid (by rfl) _ _ rfl (X + 1 + 1) 0 rfl (ntL m2) _ (fun w' h => Blk.all (h.at (q := (X + 1 + 1, 28, ntL m2)) 2 rfl)) huN rfl (sizN _)) hH ?_
      try simp only [Act.put, List.setIfInBounds_toArray, List.set_cons_zero, List.set_cons_succ]
      refine wpAnyH_take (i := 4) (oi := { dst := some 59, op := Op.load 28 (Operand.tmp 9), type := 28, pos := "outright.go:207", after := #[], guard := none }) (v := .agg (ntL n).toArray) rfl (by kernel_rfl) (by kernel_rfl) (by kernel_rfl) (fun _ _ _ h => h) (yieldsIf_load_mid (by rfl) _ _ rfl (X + 1 + 1 + 1) 0 rfl (ntL n) _ (fun w' h => Blk.all (h.at (q := (X + 1 + 1 + 1, 28, ntL n)) 3 rfl)) huN rfl (sizN _)) hH ?_
      try simp only [Act.put, List.setIfInBounds_toArray, List.set_cons_zero, List.set_cons_succ]
      refine wpAnyH_take (i := 5) (oi := { dst := some 60, op := Op.binOp BinOp.eql 28 (Operand.tmp 58) (Operand.tmp 59) 28, type := 4, pos := "outright.go:207", after := #[{ on := 3, ground := Ground.data }, { on := 4, ground := Ground.data }], guard := none }) (v := .bool rn) rfl (by kernel_rfl) (by kernel_rfl) (by kernel_rfl) (fun _ _ _ h => h) (yieldsIf_eql (by rfl) 28 28 _ _ rfl (ntL m2) (ntL n) rfl rfl gdn EQN.out) hH ?_
      try simp only [Act.put, List.setIfInBounds_toArray, List.set_cons_zero, List.set_cons_succ]
      refine wpAnyH_ready (rs := [2]) (by kernel_rfl) (by simp) ?_
      refine AllReadyH.cons (o := { dst := some 57, op := Op.call { callee := Callee.value (Operand.func 10), args := #[Operand.tmp 55, Operand.tmp 56], argTypes := #[33, 33] }, type := 4, pos := "outright.go:207", after := #[{ on := 0, ground := Ground.data }, { on := 1, ground := Ground.data }], guard := none }) rfl (fun K hK => ?_) AllReadyH.nil
      go_simp
      refine (SM.out _ _ _ (P12.out.drewN 1) (Q12.out.drewN 1)).mono ?_
      rintro e w14 ⟨rfl, b14⟩
      have K13 : Hid (KD w [(X, 26, recC ka oa (.slice aa an ac)), (X + 1, 26, recC kb ob (.slice ba bn bc)), (X + 1 + 1, 28, ntL m2), (X + 1 + 1 + 1, 28, ntL n), (X + 1 + 1 + 1 + 1, 32, [.int .i64 s.td, .slice sla sln slc, .slice sna snn snc]), (X + 1 + 1 + 1 + 1 + 1, 32, [.int .i64 t.td, .slice tla tln tlc, .slice tna tnn tnc]), (U1, 26, recC ua1 uo1 (.slice u1a u1n u1c)), (U2, 26, recC ua2 uo2 (.slice u2a u2n u2c))] w14) := hH.call b14
      refine hK.out _ _ K13.out (fun hH => ?_)
      try simp only [List.setIfInBounds_toArray, List.set_cons_zero, List.set_cons_succ]
      refine wpAnyH_take (i := 6) (oi := { dst := some 61, op := Op.binOp BinOp.neq 4 (Operand.tmp 57) (Operand.tmp 60) 4, type := 4, pos := "outright.go:207", after := #[{ on := 2, ground := Ground.data }, { on := 5, ground := Ground.data }], guard := none }) (v := .bool false) rfl (by kernel_rfl) (by kernel_rfl) (by kernel_rfl) (fun _ _ _ h => h) (Or.inl ⟨by rfl, fun w' h => by go_simp⟩) hH ?_
      try simp only [Act.put, List.setIfInBounds_toArray, List.set_cons_zero, List.set_cons_succ]
      refine wpAnyH_done (by kernel_rfl) ?_ _
      clear hH hK P12 Q12 K12 SM EQN n0 b14
      go_upto_region 12 with fail
      have huS := Try.underlying32
      have b0 : (bst == bst) = true := by simp
      refine wp_region_held_drew (S := fun w' => KD w [(X, 26, recC ka oa (.slice aa an ac)), (X + 1, 26, recC kb ob (.slice ba bn bc)), (X + 1 + 1, 28, ntL m2), (X + 1 + 1 + 1, 28, ntL n), (X + 1 + 1 + 1 + 1, 32, [.int .i64 s.td, .slice sla sln slc, .slice sna snn snc]), (X + 1 + 1 + 1 + 1 + 1, 32, [.int .i64 t.td, .slice tla tln tlc, .slice tna tnn tnc]), (U1, 26, recC ua1 uo1 (.slice u1a u1n u1c)), (U2, 26, recC ua2 uo2 (.slice u2a u2n u2c))] w') (by kernel_rfl) (K13.out.drew) (fun hH => ?_)
      refine wpAnyH_take (i := 0) (oi := { dst := some 62, op := Op.load 32 (Operand.tmp 10), type := 32, pos := "outright.go:210", after := #[], guard := none }) (v := .agg ([.int .i64 s.td, .slice sla sln slc, .slice sna snn snc]).toArray) rfl (by kernel_rfl) (by kernel_rfl) (by kernel_rfl) (fun _ _ _ h => h) (yieldsIf_load_mid (by rfl) _ _ rfl (X + 1 + 1 + 1 + 1) 0 rfl ([.int .i64 s.td, .slice sla sln slc, .slice sna snn snc]) _ (fun w' h => Blk.all (h.at (q := (X + 1 + 1 + 1 + 1, 32, [.int .i64 s.td, .slice sla sln slc, .slice sna snn snc])) 4 rfl)) huS rfl (sz3 _ _ _)) hH ?_
      try simp only [Act.put, List.setIfInBounds_toArray, List.set_cons_zero, List.set_cons_succ]
      refine wpAnyH_take (i := 3) (oi := { dst := some 65, op := Op.load 32 (Operand.tmp 11), type := 32, pos := "outright.go:210", after := #[], guard := none }) (v := .agg ([.int .i64 t.td, .slice tla tln tlc, .slice tna tnn tnc]).toArray) rfl (by kernel_rfl) (by kernel_rfl) (by kernel_rfl) (fun _ _ _ h => h) (yieldsIf_load_mid (by rfl) _ _ rfl (X + 1 + 1 + 1 + 1 + 1) 0 rfl ([.int .i64 t.td, .slice tla tln tlc, .slice tna tnn tnc]) _ (fun w' h => Blk.all (h.at (q := (X + 1 + 1 + 1 + 1 + 1, 32, [.int .i64 t.td, .slice tla tln tlc, .slice tna tnn tnc])) 5 rfl)) huS rfl (sz3 _ _ _)) hH ?_
      try simp only [Act.put, List.setIfInBounds_toArray, List.set_cons_zero, List.set_cons_succ]
      refine wpAnyH_take (i := 7) (oi := { dst := some 69, op := Op.load 32 (Operand.tmp 10), type := 32, pos := "outright.go:210", after := #[], guard := none }) (v := .agg ([.int .i64 s.td, .slice sla sln slc, .slice sna snn snc]).toArray) rfl (by kernel_rfl) (by kernel_rfl) (by kernel_rfl) (fun _ _ _ h => h) (yieldsIf_load_mid (by rfl) _ _ rfl (X + 1 + 1 + 1 + 1) 0 rfl ([.int .i64 s.td, .slice sla sln slc, .slice sna snn snc]) _ (fun w' h => Blk.all (h.at (q := (X + 1 + 1 + 1 + 1, 32, [.int .i64 s.td, .slice sla sln slc, .slice sna snn snc])) 4 rfl)) huS rfl (sz3 _ _ _)) hH ?_
      try simp only [Act.put, List.setIfInBounds_toArray, List.set_cons_zero, List.set_cons_succ]
      refine wpAnyH_take (i := 8) (oi := { dst := some 70, op := Op.load 32 (Operand.tmp 11), type := 32, pos := "outright.go:210", after := #[], guard := none }) (v := .agg ([.int .i64 t.td, .slice tla tln tlc, .slice tna tnn tnc]).toArray) rfl (by kernel_rfl) (by kernel_rfl) (by kernel_rfl) (fun _ _ _ h => h) (yieldsIf_load_mid (by rfl) _ _ rfl (X + 1 + 1 + 1 + 1 + 1) 0 rfl ([.int .i64 t.td, .slice tla tln tlc, .slice tna tnn tnc]) _ (fun w' h => Blk.all (h.at (q := (X + 1 + 1 + 1 + 1 + 1, 32, [.int .i64 t.td, .slice tla tln tlc, .slice tna tnn tnc])) 5 rfl)) huS rfl (sz3 _ _ _)) hH ?_
      try simp only [Act.put, List.setIfInBounds_toArray, List.set_cons_zero, List.set_cons_succ]
      refine wpAnyH_ready (rs := [1]) (by kernel_rfl) (by simp) ?_
      refine AllReadyH.cons (o := { dst := some 63, op := Op.call { callee := Callee.value (Operand.func 14), args := #[Operand.tmp 62], argTypes := #[32] }, type := 32, pos := "outright.go:210", after := #[{ on := 0, ground := Ground.data }], guard := none }) rfl (fun K hK => ?_) AllReadyH.nil
      go_simp
      refine (TWS.out _ hH.bb).mono ?_
      rintro e w15 ⟨vl1, vn1, rfl, r1, b1⟩
      obtain ⟨x1, x2, x3, x4, x5, x6, rfl, rfl⟩ := po_slices r1
      have R1 : Hid (RdPo w15 (.slice x1 x2 x3) (.slice x4 x5 x6) s) := r1
      refine hK.out _ _ (hH.call b1) (fun hH => ?_)
      try simp only [List.setIfInBounds_toArray, List.set_cons_zero, List.set_cons_succ]
      clear hK r1 b1
      refine wpAnyH_ready (rs := [2]) (by kernel_rfl) (by simp) ?_
      refine AllReadyH.cons (o := { dst := some 64, op := Op.call { callee := Callee.value (Operand.func 13), args := #[Operand.tmp 63], argTypes := #[32] }, type := 33, pos := "outright.go:210", after := #[{ on := 1, ground := Ground.data }, { on := 1, ground := Ground.chain }], guard := none }) rfl (fun K hK => ?_) AllReadyH.nil
      go_simp
      refine (ES.out _ _ _ R1.out).mono ?_
      rintro e w16 ⟨v1, rfl, rv1, b2⟩
      obtain ⟨y1, y3, ev, -, -⟩ := (RowV.rd rv1).len
      generalize ((poB s).map bv).length = y2 at ev
      subst ev
      have D1 : Hid (RdB w16 (.slice y1 y2 y3) (poB s)) := RowV.rd rv1
      refine hK.out _ _ (hH.call b2) (fun hH => ?_)
      try simp only [List.setIfInBounds_toArray, List.set_cons_zero, List.set_cons_succ]
      clear hK rv1 b2 R1
      refine wpAnyH_ready (rs := [4]) (by kernel_rfl) (by simp) ?_
      refine AllReadyH.cons (o := { dst := some 66, op := Op.call { callee := Callee.value (Operand.func 14), args := #[Operand.tmp 65], argTypes := #[32] }, type := 32, pos := "outright.go:210", after := #[{ on := 3, ground := Ground.data }, { on := 2, ground := Ground.chain }], guard := none }) rfl (fun K hK => ?_) AllReadyH.nil
      go_simp
      refine (TWT.out _ hH.bb).mono ?_
      rintro e w17 ⟨vl3, vn3, rfl, r3, b3⟩
      obtain ⟨x7, x8, x9, x10, x11, x12, rfl, rfl⟩ := po_slices r3
      have R3 : Hid (RdPo w17 (.slice x7 x8 x9) (.slice x10 x11 x12) t) := r3
      have D2 : Hid (RdB w17 (.slice y1 y2 y3) (poB s)) := Rd.later D1.out b3
      refine hK.out _ _ (hH.call b3) (fun hH => ?_)
      try simp only [List.setIfInBounds_toArray, List.set_cons_zero, List.set_cons_succ]
      clear hK r3 b3 D1
      refine wpAnyH_ready (rs := [5]) (by kernel_rfl) (by simp) ?_
      refine AllReadyH.cons (o := { dst := some 67, op := Op.call { callee := Callee.value (Operand.func 13), args := #[Operand.tmp 66], argTypes := #[32] }, type := 33, pos := "outright.go:210", after := #[{ on := 4, ground := Ground.data }, { on := 4, ground := Ground.chain }], guard := none }) rfl (fun K hK => ?_) AllReadyH.nil
      go_simp
      refine (ET.out _ _ _ R3.out).mono ?_
      rintro e w18 ⟨v4, rfl, rv4, b4⟩
      obtain ⟨y4, y6, ev, -, -⟩ := (RowV.rd rv4).len
      generalize ((poB t).map bv).length = y5 at ev
      subst ev
      have D3 : Hid (RdB w18 (.slice y1 y2 y3) (poB s)) := Rd.later D2.out b4
      have D4 : Hid (RdB w18 (.slice y4 y5 y6) (poB t)) := RowV.rd rv4
      refine hK.out _ _ (hH.call b4) (fun hH => ?_)
      try simp only [List.setIfInBounds_toArray, List.set_cons_zero, List.set_cons_succ]
      clear hK rv4 b4 R3 D2
      refine wpAnyH_ready (rs := [6]) (by kernel_rfl) (by simp) ?_
      refine AllReadyH.cons (o := { dst := some 68, op := Op.call { callee := Callee.value (Operand.func 10), args := #[Operand.tmp 64, Operand.tmp 67], argTypes := #[33, 33] }, type := 4, pos := "outright.go:210", after := #[{ on := 2, ground := Ground.data }, { on := 5, ground := Ground.data }, { on := 5, ground := Ground.chain }], guard := none }) rfl (fun K hK => ?_) AllReadyH.nil
      go_simp
      refine (SS2.out _ _ _ D3.out D4.out).mono ?_
      rintro e w19 ⟨rfl, b19⟩
      refine hK.out _ _ (hH.call b19) (fun hH => ?_)
      try simp only [List.setIfInBounds_toArray, List.set_cons_zero, List.set_cons_succ]
      clear hK D3 D4
      refine wpAnyH_ready (rs := [9]) (by kernel_rfl) (by simp) ?_
      refine AllReadyH.cons (o := { dst := some 71, op := Op.call { callee := Callee.value (Operand.func 15), args := #[Operand.tmp 69, Operand.tmp 70], argTypes := #[32, 32] }, type := 4, pos := "outright.go:210", after := #[{ on := 7, ground := Ground.data }, { on := 8, ground := Ground.data }, { on := 6, ground := Ground.chain }], guard := none }) rfl (fun K hK => ?_) AllReadyH.nil
      go_simp
      refine (SQ.out _ hH.bb).mono ?_
      rintro e w20 ⟨rfl, b20⟩
      have B20 : Hid (Below w.heap.size w w20) := (hH.call b20).bb
      refine hK.out _ _ (hH.call b20) (fun hH => ?_)
      try simp only [List.setIfInBounds_toArray, List.set_cons_zero, List.set_cons_succ]
      clear hK b20
      refine wpAnyH_take (i := 10) (oi := { dst := some 72, op := Op.binOp BinOp.eql 4 (Operand.tmp 68) (Operand.tmp 71) 4, type := 4, pos := "outright.go:210", after := #[{ on := 6, ground := Ground.data }, { on := 9, ground := Ground.data }], guard := none }) (v := .bool true) rfl (by kernel_rfl) (by kernel_rfl) (by kernel_rfl) (fun _ _ _ h => h) (Or.inl ⟨by rfl, fun w' h => by go_simp⟩) hH ?_
      try simp only [Act.put, List.setIfInBounds_toArray, List.set_cons_zero, List.set_cons_succ]
      refine wpAnyH_take (i := 11) (oi := { dst := some 12, op := Op.assign (Operand.tmp 72), type := 4, pos := "outright.go:210", after := #[{ on := 10, ground := Ground.data }, { on := 9, ground := Ground.chain }, { on := 0, ground := Ground.phase }, { on := 1, ground := Ground.phase }, { on := 2, ground := Ground.phase }, { on := 3, ground := Ground.phase }, { on := 4, ground := Ground.phase }, { on := 5, ground := Ground.phase }, { on := 6, ground := Ground.phase }, { on := 7, ground := Ground.phase }, { on := 8, ground := Ground.phase }, { on := 9, ground := Ground.phase }, { on := 10, ground := Ground.phase }], guard := none }) (v := .bool true) rfl (by kernel_rfl) (by kernel_rfl) (by kernel_rfl) (fun _ _ _ h => h) (Or.inl ⟨by rfl, fun w' h => by go_simp⟩) hH ?_
      try simp only [Act.put, List.setIfInBounds_toArray, List.set_cons_zero, List.set_cons_succ]
      refine wpAnyH_done (by kernel_rfl) ?_ _
      clear hH
      go_wp2_with fail
      go_ret
      exact ⟨rfl, B20.out⟩
  | false =>
    refine wp_region_held_drew (S := fun w' => KD w [(X, 26, recC ka oa (.slice aa an ac)), (X + 1, 26, recC kb ob (.slice ba bn bc)), (X + 1 + 1, 28, ntL m), (X + 1 + 1 + 1, 28, ntL n), (X + 1 + 1 + 1 + 1, 32, [.int .i64 s.td, .slice sla sln slc, .slice sna snn snc]), (X + 1 + 1 + 1 + 1 + 1, 32, [.int .i64 t.td, .slice tla tln tlc, .slice tna tnn tnc]), (U1, 26, recC ua1 uo1 (.slice u1a u1n u1c)), (U2, 26, recC ua2 uo2 (.slice u2a u2n u2c))] w') (by kernel_rfl) (K8.out.drew) (fun hH => ?_)
    refine wpAnyH_take (i := 0) (oi := { dst := some 35, op := Op.move (Operand.tmp 16), type := 4, pos := "outright.go:201", after := #[], guard := none }) (v := .bool false) rfl (by kernel_rfl) (by kernel_rfl) (by kernel_rfl) (fun _ _ _ h => h) (Or.inl ⟨by rfl, fun w' h => by go_simp⟩) hH ?_
    try simp only [Act.put, List.setIfInBounds_toArray, List.set_cons_zero, List.set_cons_succ]
    refine wpAnyH_take (i := 1) (oi := { dst := some 36, op := Op.move (Operand.tmp 35), type := 4, pos := "outright.go:201", after := #[{ on := 0, ground := Ground.data }], guard := none }) (v := .bool false) rfl (by kernel_rfl) (by kernel_rfl) (by kernel_rfl) (fun _ _ _ h => h) (Or.inl ⟨by rfl, fun w' h => by go_simp⟩) hH ?_
    try simp only [Act.put, List.setIfInBounds_toArray, List.set_cons_zero, List.set_cons_succ]
    refine wpAnyH_take (i := 2) (oi := { dst := some 37, op := Op.move (Operand.tmp 18), type := 4, pos := "outright.go:201", after := #[{ on := 1, ground := Ground.guard }], guard := some (1, true) }) (v := undef) rfl (by kernel_rfl) (by kernel_rfl) (by kernel_rfl) (fun _ _ _ h => h) (Or.inr ⟨by rfl, rfl⟩) hH ?_
    try simp only [Act.put, List.setIfInBounds_toArray, List.set_cons_zero, List.set_cons_succ]
    refine wpAnyH_take (i := 3) (oi := { dst := some 38, op := Op.pick (Operand.tmp 36) (Operand.tmp 37) (Operand.const (Value.bool false)), type := 4, pos := "outright.go:201", after := #[{ on := 1, ground := Ground.data }, { on := 2, ground := Ground.data }], guard := none }) (v := .bool false) rfl (by kernel_rfl) (by kernel_rfl) (by kernel_rfl) (fun _ _ _ h => h) (Or.inl ⟨by rfl, fun w' h => by go_simp⟩) hH ?_
    try simp only [Act.put, List.setIfInBounds_toArray, List.set_cons_zero, List.set_cons_succ]
    refine wpAnyH_take (i := 4) (oi := { dst := some 39, op := Op.move (Operand.tmp 38), type := 4, pos := "outright.go:201", after := #[{ on := 3, ground := Ground.data }, { on := 1, ground := Ground.chain }], guard := none }) (v := .bool false) rfl (by kernel_rfl) (by kernel_rfl) (by kernel_rfl) (fun _ _ _ h => h) (Or.inl ⟨by rfl, fun w' h => by go_simp⟩) hH ?_
    try simp only [Act.put, List.setIfInBounds_toArray, List.set_cons_zero, List.set_cons_succ]
    refine wpAnyH_take (i := 5) (oi := { dst := some 40, op := Op.move (Operand.tmp 13), type := 33, pos := "outright.go:201", after := #[{ on := 4, ground := Ground.guard }], guard := some (4, true) }) (v := undef) rfl (by kernel_rfl) (by kernel_rfl) (by kernel_rfl) (fun _ _ _ h => h) (Or.inr ⟨by rfl, rfl⟩) hH ?_
    try simp only [Act.put, List.setIfInBounds_toArray, List.set_cons_zero, List.set_cons_succ]
    refine wpAnyH_take (i := 6) (oi := { dst := some 41, op := Op.move (Operand.tmp 14), type := 33, pos := "outright.go:201", after := #[{ on := 4, ground := Ground.guard }], guard := some (4, true) }) (v := undef) rfl (by kernel_rfl) (by kernel_rfl) (by kernel_rfl) (fun _ _ _ h => h) (Or.inr ⟨by rfl, rfl⟩) hH ?_
    try simp only [Act.put, List.setIfInBounds_toArray, List.set_cons_zero, List.set_cons_succ]
    refine wpAnyH_take (i := 7) (oi := { dst := some 42, op := Op.call { callee := Callee.value (Operand.func 10), args := #[Operand.tmp 40, Operand.tmp 41], argTypes := #[33, 33] }, type := 4, pos := "outright.go:201", after := #[{ on := 5, ground := Ground.data }, { on := 6, ground := Ground.data }, { on := 4, ground := Ground.chain }, { on := 4, ground := Ground.guard }], guard := some (4, true) }) (v := undef) rfl (by kernel_rfl) (by kernel_rfl) (by kernel_rfl) (fun _ _ _ h => h) (Or.inr ⟨by rfl, rfl⟩) hH ?_
    try simp only [Act.put, List.setIfInBounds_toArray, List.set_cons_zero, List.set_cons_succ]
    refine wpAnyH_take (i := 8) (oi := { dst := some 43, op := Op.load 26 (Operand.tmp 15), type := 26, pos := "outright.go:201", after := #[{ on := 4, ground := Ground.guard }], guard := some (4, true) }) (v := undef) rfl (by kernel_rfl) (by kernel_rfl) (by kernel_rfl) (fun _ _ _ h => h) (Or.inr ⟨by rfl, rfl⟩) hH ?_
    try simp only [Act.put, List.setIfInBounds_toArray, List.set_cons_zero, List.set_cons_succ]
    refine wpAnyH_take (i := 9) (oi := { dst := some 44, op := Op.load 26 (Operand.tmp 17), type := 26, pos := "outright.go:201", after := #[{ on := 4, ground := Ground.guard }], guard := some (4, true) }) (v := undef) rfl (by kernel_rfl) (by kernel_rfl) (by kernel_rfl) (fun _ _ _ h => h) (Or.inr ⟨by rfl, rfl⟩) hH ?_
    try simp only [Act.put, List.setIfInBounds_toArray, List.set_cons_zero, List.set_cons_succ]
    refine wpAnyH_take (i := 10) (oi := { dst := some 45, op := Op.call { callee := Callee.value (Operand.func 11), args := #[Operand.tmp 43, Operand.tmp 44], argTypes := #[26, 26] }, type := 4, pos := "outright.go:201", after := #[{ on := 8, ground := Ground.data }, { on := 9, ground := Ground.data }, { on := 7, ground := Ground.chain }, { on := 4, ground := Ground.guard }], guard := some (4, true) }) (v := undef) rfl (by kernel_rfl) (by kernel_rfl) (by kernel_rfl) (fun _ _ _ h => h) (Or.inr ⟨by rfl, rfl⟩) hH ?_
    try simp only [Act.put, List.setIfInBounds_toArray, List.set_cons_zero, List.set_cons_succ]
    refine wpAnyH_take (i := 11) (oi := { dst := some 46, op := Op.binOp BinOp.neq 4 (Operand.tmp 42) (Operand.tmp 45) 4, type := 4, pos := "outright.go:201", after := #[{ on := 7, ground := Ground.data }, { on := 10, ground := Ground.data }, { on := 4, ground := Ground.guard }], guard := some (4, true) }) (v := undef) rfl (by kernel_rfl) (by kernel_rfl) (by kernel_rfl) (fun _ _ _ h => h) (Or.inr ⟨by rfl, rfl⟩) hH ?_
    try simp only [Act.put, List.setIfInBounds_toArray, List.set_cons_zero, List.set_cons_succ]
    refine wpAnyH_take (i := 12) (oi := { dst := some 47, op := Op.pick (Operand.tmp 39) (Operand.tmp 46) (Operand.const (Value.bool false)), type := 4, pos := "outright.go:201", after := #[{ on := 4, ground := Ground.data }, { on := 11, ground := Ground.data }], guard := none }) (v := .bool false) rfl (by kernel_rfl) (by kernel_rfl) (by kernel_rfl) (fun _ _ _ h => h) (Or.inl ⟨by rfl, fun w' h => by go_simp⟩) hH ?_
    try simp only [Act.put, List.setIfInBounds_toArray, List.set_cons_zero, List.set_cons_succ]
    refine wpAnyH_done (by kernel_rfl) ?_ _
    clear hH P8 Q8 HB
    have K9 : Hid (KD w [(X, 26, recC ka oa (.slice aa an ac)), (X + 1, 26, recC kb ob (.slice ba bn bc)), (X + 1 + 1, 28, ntL m), (X + 1 + 1 + 1, 28, ntL n), (X + 1 + 1 + 1 + 1, 32, [.int .i64 s.td, .slice sla sln slc, .slice sna snn snc]), (X + 1 + 1 + 1 + 1 + 1, 32, [.int .i64 t.td, .slice tla tln tlc, .slice tna tnn tnc]), (U1, 26, recC ua1 uo1 (.slice u1a u1n u1c)), (U2, 26, recC ua2 uo2 (.slice u2a u2n u2c))] w8.drew) := K8.out.drew
    have P9 : Hid True := trivial
    have Q9 : Hid True := trivial
    generalize w8.drew = w9 at *
    clear K8
    clear P9 Q9 SB SR RI
    go_wp2_with ((with_reducible refine at_loadT 28 ?_); refine step_load rfl 28 _ rfl (X + 1 + 1) 0 rfl (ntL m) _ (Blk.all (K9.out.at (q := (X + 1 + 1, 28, ntL m)) 2 rfl)) Try.underlying28 rfl (sizN _) ?_)
    refine (EM.out _).mono ?_
    rintro e w10 ⟨vp2, rfl, rp, b10⟩
    have G10 : Hid (∀ g, vp2.ownBlock = some g → w9.heap.size ≤ g) := fun g hg => rp.block_ge hg
    have LX2 : Hid (X + 1 + 1 < w9.heap.size) := K9.out.lt (q := (X + 1 + 1, 28, ntL m)) 2 rfl
    obtain ⟨pa2, pc2, ev, -, -⟩ := (RowV.rd rp).len
    generalize ((ntB m).map bv).length = pn2 at ev
    subst ev
    have K10 : Hid (KD w [(X, 26, recC ka oa (.slice aa an ac)), (X + 1, 26, recC kb ob (.slice ba bn bc)), (X + 1 + 1, 28, ntL m), (X + 1 + 1 + 1, 28, ntL n), (X + 1 + 1 + 1 + 1, 32, [.int .i64 s.td, .slice sla sln slc, .slice sna snn snc]), (X + 1 + 1 + 1 + 1 + 1, 32, [.int .i64 t.td, .slice tla tln tlc, .slice tna tnn tnc]), (U1, 26, recC ua1 uo1 (.slice u1a u1n u1c)), (U2, 26, recC ua2 uo2 (.slice u2a u2n u2c))] w10) := K9.out.call b10
    have P10 : Hid (RdB w10 (.slice pa2 pn2 pc2) (ntB m)) := RowV.rd rp
    have S10 : Hid (w9.heap.size ≤ w10.heap.size) := b10.size
    clear K9 rp b10 EM
    go_wp2_with ((with_reducible refine at_loadT 28 ?_); refine step_load rfl 28 _ rfl (X + 1 + 1 + 1) 0 rfl (ntL n) _ (Blk.all (K10.out.at (q := (X + 1 + 1 + 1, 28, ntL n)) 3 rfl)) Try.underlying28 rfl (sizN _) ?_)
    refine (EN.out _).mono ?_
    rintro e w11 ⟨vq2, rfl, rq, b11⟩
    have G11 : Hid (∀ g, vq2.ownBlock = some g → w10.heap.size ≤ g) := fun g hg => rq.block_ge hg
    obtain ⟨qa2, qc2, ev, -, -⟩ := (RowV.rd rq).len
    generalize ((ntB n).map bv).length = qn2 at ev
    subst ev
    have K11 : Hid (KD w [(X, 26, recC ka oa (.slice aa an ac)), (X + 1, 26, recC kb ob (.slice ba bn bc)), (X + 1 + 1, 28, ntL m), (X + 1 + 1 + 1, 28, ntL n), (X + 1 + 1 + 1 + 1, 32, [.int .i64 s.td, .slice sla sln slc, .slice sna snn snc]), (X + 1 + 1 + 1 + 1 + 1, 32, [.int .i64 t.td, .slice tla tln tlc, .slice tna tnn tnc]), (U1, 26, recC ua1 uo1 (.slice u1a u1n u1c)), (U2, 26, recC ua2 uo2 (.slice u2a u2n u2c))] w11) := K10.out.call b11
    have P11 : Hid (RdB w11 (.slice pa2 pn2 pc2) (ntB m)) := Rd.later P10.out b11
    have Q11 : Hid (RdB w11 (.slice qa2 qn2 qc2) (ntB n)) := RowV.rd rq
    clear K10 rq b11 EN P10
    have c5 : w11.cell? ⟨X + 1 + 1 + 1, 5, none⟩ = some (.bool n.ak) := K11.out.cell (q := (X + 1 + 1 + 1, 28, ntL n)) 3 5 rfl _ rfl
    have e5 : w11.cell? ⟨X + 1 + 1, 5, none⟩ = some (.bool m.ak) := K11.out.cell (q := (X + 1 + 1, 28, ntL m)) 2 5 rfl _ rfl
    have z5 : w11.frozen? ⟨X + 1 + 1, 5, none⟩ = false := K11.out.fz (q := (X + 1 + 1, 28, ntL m)) 2 5 rfl
    have lt5 := K11.out.lt (q := (X + 1 + 1, 28, ntL m)) 2 rfl
    go_upto_region 10 with fail
    have g12 := setCell_grown w11 (X + 1 + 1) 5 (.bool n.ak)
    have K12 : Hid (KD w [(X, 26, recC ka oa (.slice aa an ac)), (X + 1, 26, recC kb ob (.slice ba bn bc)), (X + 1 + 1, 28, ntL m2), (X + 1 + 1 + 1, 28, ntL n), (X + 1 + 1 + 1 + 1, 32, [.int .i64 s.td, .slice sla sln slc, .slice sna snn snc]), (X + 1 + 1 + 1 + 1 + 1, 32, [.int .i64 t.td, .slice tla tln tlc, .slice tna tnn tnc]), (U1, 26, recC ua1 uo1 (.slice u1a u1n u1c)), (U2, 26, recC ua2 uo2 (.slice u2a u2n u2c))] (w11.setCell ⟨X + 1 + 1, 5, none⟩ (.bool n.ak))) := by
      have h := K11.out.set (q := (X + 1 + 1, 28, ntL m)) 2 5 rfl (.bool n.ak)
      rw [HM2.out] at h
      exact h
    have P12 : Hid (RdB (w11.setCell ⟨X + 1 + 1, 5, none⟩ (.bool n.ak)) (.slice pa2 pn2 pc2) (ntB m)) := Rd.grownN P11.out g12 (fun _ e => by have := G10.out _ e; have := LX2.out; omega)
    have Q12 : Hid (RdB (w11.setCell ⟨X + 1 + 1, 5, none⟩ (.bool n.ak)) (.slice qa2 qn2 qc2) (ntB n)) := Rd.grownN Q11.out g12 (fun _ e => by have := G11.out _ e; have := LX2.out; have := S10.out; omega)
    clear g12 K11 P11 Q11 c5 e5 z5 lt5 G10 G11 LX2 S10
    generalize w11.setCell ⟨X + 1 + 1, 5, none⟩ (.bool n.ak) = w12 at *
    have huN := Try.underlying28
    have n0 : (rn != rn) = false := by simp
    refine wp_region_held_drew (S := fun w' => KD w [(X, 26, recC ka oa (.slice aa an ac)), (X + 1, 26, recC kb ob (.slice ba bn bc)), (X + 1 + 1, 28, ntL m2), (X + 1 + 1 + 1, 28, ntL n), (X + 1 + 1 + 1 + 1, 32, [.int .i64 s.td, .slice sla sln slc, .slice sna snn snc]), (X + 1 + 1 + 1 + 1 + 1, 32, [.int .i64 t.td, .slice tla tln tlc, .slice tna tnn tnc]), (U1, 26, recC ua1 uo1 (.slice u1a u1n u1c)), (U2, 26, recC ua2 uo2 (.slice u2a u2n u2c))] w') (by kernel_rfl) (K12.out.drew) (fun hH => ?_)
    refine wpAnyH_take (i := 0) (oi := { dst := some 55, op := Op.move (Operand.tmp 13), type := 33, pos := "outright.go:207", after := #[], guard := none }) (v := .slice pa2 pn2 pc2) rfl (by kernel_rfl) (by kernel_rfl) (by kernel_rfl) (fun _ _ _ h => h) (Or.inl ⟨by rfl, fun w' h => by go_simp⟩) hH ?_
    try simp only [Act.put, List.setIfInBounds_toArray, List.set_cons_zero, List.set_cons_succ]
    refine wpAnyH_take (i := 1) (oi := { dst := some 56, op := Op.move (Operand.tmp 14), type := 33, pos := "outright.go:207", after := #[], guard := none }) (v := .slice qa2 qn2 qc2) rfl (by kernel_rfl) (by kernel_rfl) (by kernel_rfl) (fun _ _ _ h => h) (Or.inl ⟨by rfl, fun w' h => by go_simp⟩) hH ?_
    try simp only [Act.put, List.setIfInBounds_toArray, List.set_cons_zero, List.set_cons_succ]
    refine wpAnyH_take (i := 3) (oi := { dst := some 58, op := Op.load 28 (Operand.tmp 8), type := 28, pos := "outright.go:207", after := #[], guard := none }) (v := .agg (ntL m2).toArray) rfl (by kernel_rfl) (by kernel_rfl) (by kernel_rfl) (fun _ _ _ h => h) (yieldsIf_load_mid (by rfl) _ _ rfl (X + 1 + 1) 0 rfl (ntL m2) _ (fun w' h => Blk.all (h.at (q := (X + 1 + 1, 28, ntL m2)) 2 rfl)) huN rfl (sizN _)) hH ?_
    try simp only [Act.put, List.setIfInBounds_toArray, List.set_cons_zero, List.set_cons_succ]
    refine wpAnyH_take (i := 4) (oi := { dst := some 59, op := Op.load 28 (Operand.tmp 9), type := 28, pos := "outright.go:207", after := #[], guard := none }) (v := .agg (ntL n).toArray) rfl (by kernel_rfl) (by kernel_rfl) (by kernel_rfl) (fun _ _ _ h => h) (yieldsIf_load_mid (by rfl) _ _ rfl (X + 1 + 1 + 1) 0 rfl (ntL n) _ (fun w' h => Blk.all (h.at (q := (X + 1 + 1 + 1, 28, ntL n)) 3 rfl)) huN rfl (sizN _)) hH ?_
    try simp only [Act.put, List.setIfInBounds_toArray, List.set_cons_zero, List.set_cons_succ]
    refine wpAnyH_take (i := 5) (oi := { dst := some 60, op := Op.binOp BinOp.eql 28 (Operand.tmp 58) (Operand.tmp 59) 28, type := 4, pos := "outright.go:207", after := #[{ on := 3, ground := Ground.data }, { on := 4, ground := Ground.data }], guard := none }) (v := .bool rn) rfl (by kernel_rfl) (by kernel_rfl) (by kernel_rfl) (fun _ _ _ h => h) (yieldsIf_eql (by rfl) 28 28 _ _ rfl (ntL m2) (ntL n) rfl rfl gdn EQN.out) hH ?_
    try simp only [Act.put, List.setIfInBounds_toArray, List.set_cons_zero, List.set_cons_succ]
    refine wpAnyH_ready (rs := [2]) (by kernel_rfl) (by simp) ?_
    refine AllReadyH.cons (o := { dst := some 57, op := Op.call { callee := Callee.value (Operand.func 10), args := #[Operand.tmp 55, Operand.tmp 56], argTypes := #[33, 33] }, type := 4, pos := "outright.go:207", after := #[{ on := 0, ground := Ground.data }, { on := 1, ground := Ground.data }], guard := none }) rfl (fun K hK => ?_) AllReadyH.nil
    go_simp
    refine (SM.out _ _ _ (P12.out.drewN 1) (Q12.out.drewN 1)).mono ?_
    rintro e w14 ⟨rfl, b14⟩
    have K13 : Hid (KD w [(X, 26, recC ka oa (.slice aa an ac)), (X + 1, 26, recC kb ob (.slice ba bn bc)), (X + 1 + 1, 28, ntL m2), (X + 1 + 1 + 1, 28, ntL n), (X + 1 + 1 + 1 + 1, 32, [.int .i64 s.td, .slice sla sln slc, .slice sna snn snc]), (X + 1 + 1 + 1 + 1 + 1, 32, [.int .i64 t.td, .slice tla tln tlc, .slice tna tnn tnc]), (U1, 26, recC ua1 uo1 (.slice u1a u1n u1c)), (U2, 26, recC ua2 uo2 (.slice u2a u2n u2c))] w14) := hH.call b14
    refine hK.out _ _ K13.out (fun hH => ?_)
    try simp only [List.setIfInBounds_toArray, List.set_cons_zero, List.set_cons_succ]
    refine wpAnyH_take (i := 6) (oi := { dst := some 61, op := Op.binOp BinOp.neq 4 (Operand.tmp 57) (Operand.tmp 60) 4, type := 4, pos := "outright.go:207", after := #[{ on := 2, ground := Ground.data }, { on := 5, ground := Ground.data }], guard := none }) (v := .bool false) rfl (by kernel_rfl) (by kernel_rfl) (by kernel_rfl) (fun _ _ _ h => h) (Or.inl ⟨by rfl, fun w' h => by go_simp⟩) hH ?_
    try simp only [Act.put, List.setIfInBounds_toArray, List.set_cons_zero, List.set_cons_succ]
    refine wpAnyH_done (by kernel_rfl) ?_ _
    clear hH hK P12 Q12 K12 SM EQN n0 b14
    go_upto_region 12 with fail
    have huS := Try.underlying32
    have b0 : (bst == bst) = true := by simp
    refine wp_region_held_drew (S := fun w' => KD w [(X, 26, recC ka oa (.slice aa an ac)), (X + 1, 26, recC kb ob (.slice ba bn bc)), (X + 1 + 1, 28, ntL m2), (X + 1 + 1 + 1, 28, ntL n), (X + 1 + 1 + 1 + 1, 32, [.int .i64 s.td, .slice sla sln slc, .slice sna snn snc]), (X + 1 + 1 + 1 + 1 + 1, 32, [.int .i64 t.td, .slice tla tln tlc, .slice tna tnn tnc]), (U1, 26, recC ua1 uo1 (.slice u1a u1n u1c)), (U2, 26, recC ua2 uo2 (.slice u2a u2n u2c))] w') (by kernel_rfl) (K13.out.drew) (fun hH => ?_)
    refine wpAnyH_take (i := 0) (oi := { dst := some 62, op := Op.load 32 (Operand.tmp 10), type := 32, pos := "outright.go:210", after := #[], guard := none }) (v := .agg ([.int .i64 s.td, .slice sla sln slc, .slice sna snn snc]).toArray) rfl (by kernel_rfl) (by kernel_rfl) (by kernel_rfl) (fun _ _ _ h => h) (yieldsIf_load_mid (by rfl) _ _ rfl (X + 1 + 1 + 1 + 1) 0 rfl ([.int .i64 s.td, .slice sla sln slc, .slice sna snn snc]) _ (fun w' h => Blk.all (h.at (q := (X + 1 + 1 + 1 + 1, 32, [.int .i64 s.td, .slice sla sln slc, .slice sna snn snc])) 4 rfl)) huS rfl (sz3 _ _ _)) hH ?_
    try simp only [Act.put, List.setIfInBounds_toArray, List.set_cons_zero, List.set_cons_succ]
    refine wpAnyH_take (i := 3) (oi := { dst := some 65, op := Op.load 32 (Operand.tmp 11), type := 32, pos := "outright.go:210", after := #[], guard := none }) (v := .agg ([.int .i64 t.td, .slice tla tln tlc, .slice tna tnn tnc]).toArray) rfl (by kernel_rfl) (by kernel_rfl) (by kernel_rfl) (fun _ _ _ h => h) (yieldsIf_load_mid (by rfl) _ _ rfl (X + 1 + 1 + 1 + 1 + 1) 0 rfl ([.int .i64 t.td, .slice tla tln tlc, .slice tna tnn tnc]) _ (fun w' h => Blk.all (h.at (q := (X + 1 + 1 + 1 + 1 + 1, 32, [.int .i64 t.td, .slice tla tln tlc, .slice tna tnn tnc])) 5 rfl)) huS rfl (sz3 _ _ _)) hH ?_
    try simp only [Act.put, List.setIfInBounds_toArray, List.set_cons_zero, List.set_cons_succ]
    refine wpAnyH_take (i := 7) (oi := { dst := some 69, op := Op.load 32 (Operand.tmp 10), type := 32, pos := "outright.go:210", after := #[], guard := none }) (v := .agg ([.int .i64 s.td, .slice sla sln slc, .slice sna snn snc]).toArray) rfl (by kernel_rfl) (by kernel_rfl) (by kernel_rfl) (fun _ _ _ h => h) (yieldsIf_load_mid (by rfl) _ _ rfl (X + 1 + 1 + 1 + 1) 0 rfl ([.int .i64 s.td, .slice sla sln slc, .slice sna snn snc]) _ (fun w' h => Blk.all (h.at (q := (X + 1 + 1 + 1 + 1, 32, [.int .i64 s.td, .slice sla sln slc, .slice sna snn snc])) 4 rfl)) huS rfl (sz3 _ _ _)) hH ?_
    try simp only [Act.put, List.setIfInBounds_toArray, List.set_cons_zero, List.set_cons_succ]
    refine wpAnyH_take (i := 8) (oi := { dst := some 70, op := Op.load 32 (Operand.tmp 11), type := 32, pos := "outright.go:210", after := #[], guard := none }) (v := .agg ([.int .i64 t.td, .slice tla tln tlc, .slice tna tnn tnc]).toArray) rfl (by kernel_rfl) (by kernel_rfl) (by kernel_rfl) (fun _ _ _ h => h) (yieldsIf_load_mid (by rfl) _ _ rfl (X + 1 + 1 + 1 + 1 + 1) 0 rfl ([.int .i64 t.td, .slice tla tln tlc, .slice tna tnn tnc]) _ (fun w' h => Blk.all (h.at (q := (X + 1 + 1 + 1 + 1 + 1, 32, [.int .i64 t.td, .slice tla tln tlc, .slice tna tnn tnc])) 5 rfl)) huS rfl (sz3 _ _ _)) hH ?_
    try simp only [Act.put, List.setIfInBounds_toArray, List.set_cons_zero, List.set_cons_succ]
    refine wpAnyH_ready (rs := [1]) (by kernel_rfl) (by simp) ?_
    refine AllReadyH.cons (o := { dst := some 63, op := Op.call { callee := Callee.value (Operand.func 14), args := #[Operand.tmp 62], argTypes := #[32] }, type := 32, pos := "outright.go:210", after := #[{ on := 0, ground := Ground.data }], guard := none }) rfl (fun K hK => ?_) AllReadyH.nil
    go_simp
    refine (TWS.out _ hH.bb).mono ?_
    rintro e w15 ⟨vl1, vn1, rfl, r1, b1⟩
    obtain ⟨x1, x2, x3, x4, x5, x6, rfl, rfl⟩ := po_slices r1
    have R1 : Hid (RdPo w15 (.slice x1 x2 x3) (.slice x4 x5 x6) s) := r1
    refine hK.out _ _ (hH.call b1) (fun hH => ?_)
    try simp only [List.setIfInBounds_toArray, List.set_cons_zero, List.set_cons_succ]
    clear hK r1 b1
    refine wpAnyH_ready (rs := [2]) (by kernel_rfl) (by simp) ?_
    refine AllReadyH.cons (o := { dst := some 64, op := Op.call { callee := Callee.value (Operand.func 13), args := #[Operand.tmp 63], argTypes := #[32] }, type := 33, pos := "outright.go:210", after := #[{ on := 1, ground := Ground.data }, { on := 1, ground := Ground.chain }], guard := none }) rfl (fun K hK => ?_) AllReadyH.nil
    go_simp
    refine (ES.out _ _ _ R1.out).mono ?_
    rintro e w16 ⟨v1, rfl, rv1, b2⟩
    obtain ⟨y1, y3, ev, -, -⟩ := (RowV.rd rv1).len
    generalize ((poB s).map bv).length = y2 at ev
    subst ev
    have D1 : Hid (RdB w16 (.slice y1 y2 y3) (poB s)) := RowV.rd rv1
    refine hK.out _ _ (hH.call b2) (fun hH => ?_)
    try simp only [List.setIfInBounds_toArray, List.set_cons_zero, List.set_cons_succ]
    clear hK rv1 b2 R1
    refine wpAnyH_ready (rs := [4]) (by kernel_rfl) (by simp) ?_
    refine AllReadyH.cons (o := { dst := some 66, op := Op.call { callee := Callee.value (Operand.func 14), args := #[Operand.tmp 65], argTypes := #[32] }, type := 32, pos := "outright.go:210", after := #[{ on := 3, ground := Ground.data }, { on := 2, ground := Ground.chain }], guard := none }) rfl (fun K hK => ?_) AllReadyH.nil
    go_simp
    refine (TWT.out _ hH.bb).mono ?_
    rintro e w17 ⟨vl3, vn3, rfl, r3, b3⟩
    obtain ⟨x7, x8, x9, x10, x11, x12, rfl, rfl⟩ := po_slices r3
    have R3 : Hid (RdPo w17 (.slice x7 x8 x9) (.slice x10 x11 x12) t) := r3
    have D2 : Hid (RdB w17 (.slice y1 y2 y3) (poB s)) := Rd.later D1.out b3
    refine hK.out _ _ (hH.call b3) (fun hH => ?_)
    try simp only [List.setIfInBounds_toArray, List.set_cons_zero, List.set_cons_succ]
    clear hK r3 b3 D1
    refine wpAnyH_ready (rs := [5]) (by kernel_rfl) (by simp) ?_
    refine AllReadyH.cons (o := { dst := some 67, op := Op.call { callee := Callee.value (Operand.func 13), args := #[Operand.tmp 66], argTypes := #[32] }, type := 33, pos := "outright.go:210", after := #[{ on := 4, ground := Ground.data }, { on := 4, ground := Ground.chain }], guard := none }) rfl (fun K hK => ?_) AllReadyH.nil
    go_simp
    refine (ET.out _ _ _ R3.out).mono ?_
    rintro e w18 ⟨v4, rfl, rv4, b4⟩
    obtain ⟨y4, y6, ev, -, -⟩ := (RowV.rd rv4).len
    generalize ((poB t).map bv).length = y5 at ev
    subst ev
    have D3 : Hid (RdB w18 (.slice y1 y2 y3) (poB s)) := Rd.later D2.out b4
    have D4 : Hid (RdB w18 (.slice y4 y5 y6) (poB t)) := RowV.rd rv4
    refine hK.out _ _ (hH.call b4) (fun hH => ?_)
    try simp only [List.setIfInBounds_toArray, List.set_cons_zero, List.set_cons_succ]
    clear hK rv4 b4 R3 D2
    refine wpAnyH_ready (rs := [6]) (by kernel_rfl) (by simp) ?_
    refine AllReadyH.cons (o := { dst := some 68, op := Op.call { callee := Callee.value (Operand.func 10), args := #[Operand.tmp 64, Operand.tmp 67], argTypes := #[33, 33] }, type := 4, pos := "outright.go:210", after := #[{ on := 2, ground := Ground.data }, { on := 5, ground := Ground.data }, { on := 5, ground := Ground.chain }], guard := none }) rfl (fun K hK => ?_) AllReadyH.nil
    go_simp
    refine (SS2.out _ _ _ D3.out D4.out).mono ?_
    rintro e w19 ⟨rfl, b19⟩
    refine hK.out _ _ (hH.call b19) (fun hH => ?_)
    try simp only [List.setIfInBounds_toArray, List.set_cons_zero, List.set_cons_succ]
    clear hK D3 D4
    refine wpAnyH_ready (rs := [9]) (by kernel_rfl) (by simp) ?_
    refine AllReadyH.cons (o := { dst := some 71, op := Op.call { callee := Callee.value (Operand.func 15), args := #[Operand.tmp 69, Operand.tmp 70], argTypes := #[32, 32] }, type := 4, pos := "outright.go:210", after := #[{ on := 7, ground := Ground.data }, { on := 8, ground := Ground.data }, { on := 6, ground := Ground.chain }], guard := none }) rfl (fun K hK => ?_) AllReadyH.nil
    go_simp
    refine (SQ.out _ hH.bb).mono ?_
    rintro e w20 ⟨rfl, b20⟩
    have B20 : Hid (Below w.heap.size w w20) := (hH.call b20).bb
    refine hK.out _ _ (hH.call b20) (fun hH => ?_)
    try simp only [List.setIfInBounds_toArray, List.set_cons_zero, List.set_cons_succ]
    clear hK b20
    refine wpAnyH_take (i := 10) (oi := { dst := some 72, op := Op.binOp BinOp.eql 4 (Operand.tmp 68) (Operand.tmp 71) 4, type := 4, pos := "outright.go:210", after := #[{ on := 6, ground := Ground.data }, { on := 9, ground := Ground.data }], guard := none }) (v := .bool true) rfl (by kernel_rfl) (by kernel_rfl) (by kernel_rfl) (fun _ _ _ h => h) (Or.inl ⟨by rfl, fun w' h => by go_simp⟩) hH ?_
    try simp only [Act.put, List.setIfInBounds_toArray, List.set_cons_zero, List.set_cons_succ]
    refine wpAnyH_take (i := 11) (oi := { dst := some 12, op := Op.assign (Operand.tmp 72), type := 4, pos := "outright.go:210", after := #[{ on := 10, ground := Ground.data }, { on := 9, ground := Ground.chain }, { on := 0, ground := Ground.phase }, { on := 1, ground := Ground.phase }, { on := 2, ground := Ground.phase }, { on := 3, ground := Ground.phase }, { on := 4, ground := Ground.phase }, { on := 5, ground := Ground.phase }, { on := 6, ground := Ground.phase }, { on := 7, ground := Ground.phase }, { on := 8, ground := Ground.phase }, { on := 9, ground := Ground.phase }, { on := 10, ground := Ground.phase }], guard := none }) (v := .bool true) rfl (by kernel_rfl) (by kernel_rfl) (by kernel_rfl) (fun _ _ _ h => h) (Or.inl ⟨by rfl, fun w' h => by go_simp⟩) hH ?_
    try simp only [Act.put, List.setIfInBounds_toArray, List.set_cons_zero, List.set_cons_succ]
    refine wpAnyH_done (by kernel_rfl) ?_ _
    clear hH
    go_wp2_with fail
    go_ret
    exact ⟨rfl, B20.out⟩
end Go.Proofs.Ytdbjjeaflfoppaa
