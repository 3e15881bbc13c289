/-
  Ours: the reference's handed.
-/
import Derived.Test.YtcnhcdlbippjoaaNwRf0
namespace Go.Proofs.Ytcnhcdlbippjoaa
open Go.RowKit NwM

theorem Rd.tail1 {w : World} {g o o' n c : Nat} {v : Value} {vs : List Value} (h : Rd w (.slice (some ⟨g, o, none⟩) n c) (v :: vs)) (ho : 1 < c → o' = o + 1) : Rd w (.slice (some ⟨g, o', none⟩) (n - 1) (c - 1)) vs := by
  obtain ⟨ao, cap, e, h1, h2, h3⟩ := h
  injection e with e1 e2 e3
  subst e1 e2 e3
  simp only [List.length_cons] at *
  refine ⟨_, _, by rw [Nat.add_sub_cancel], by omega, fun h => (by cases h), fun i hi => ?_⟩
  obtain ⟨g', o2, e, lt, hc⟩ := h3 (i + 1) (by omega)
  injection e with e
  injection e with e1 e2
  subst e1 e2
  refine ⟨g, o', rfl, lt, ?_⟩
  rw [ho (by omega)]
  rw [show o + 1 + i = o + (i + 1) from by omega, hc]
  rfl
theorem RowM.push {base n g cap : Nat} {w : World} {xs : List Ms} {x : Ms} (hn : xs.length = n) (h : w.ownsRow base 84 5 (.slice (some ⟨g, 0, none⟩) (n + 1) cap) (n + 1) (xs.flatMap msL ++ msL x)) : RowM base w (.slice (some ⟨g, 0, none⟩) (n + 1) cap) (xs ++ [x]) := by
  unfold RowM
  rw [flat_push, List.length_append, hn]
  exact h
/-- What handed leaves. -/
def HdAns (C : Nat → Prop) (r : RNt) (p : Pk) (w : World) (e : Ending) (w' : World) : Prop := ∃ v, e = .returned v ∧ RfPost C w (rhand r p) v w'
theorem hd_lost {C : Nat → Prop} {r : RNt} {p : Pk} {w w' : World} {aa : Option Addr} {an ac : Nat} {fa : Option Addr} {fn fc : Nat} {ma : Option Addr} {mn mc : Nat} (hc : r.fs.headD 49 = 120) (h : RefV C w (rfate1 r) aa an ac fa fn fc ma mn mc) (b : Below w.heap.size w w') :
    HdAns C r p w (.returned (.agg #[.int .i64 ((r.now : Nat) : Int), .slice aa an ac, .slice fa fn fc, .slice ma mn mc])) w' := by
  refine ⟨_, rfl, ⟨C, ?_, fun g hg => .inl hg⟩, b⟩
  unfold rhand
  rw [if_pos hc]
  exact ⟨aa, an, ac, fa, fn, fc, ma, mn, mc, rfl, h.below b⟩
theorem hd_sent {C : Nat → Prop} {r : RNt} {p : Pk} {w w' : World} {base : Nat} {aa : Option Addr} {an ac : Nat} {fa : Option Addr} {fn fc : Nat} {ma : Option Addr} {mn mc g n cp : Nat} {x : Ms} (hc : r.fs.headD 49 ≠ 120) (hx : rmsg p r.now (r.fs.headD 49) = x) (h : RefV C w (rfate1 r) aa an ac fa fn fc ma mn mc) (hp : Bd C w p.ba p.bn p.bc p.bs) (hn : r.ms.length = n) (b : Below w.heap.size w w') (hb : w.heap.size ≤ base)
    (hr : w'.ownsRow base 84 5 (.slice (some ⟨g, 0, none⟩) (n + 1) cp) (n + 1) (r.ms.flatMap msL ++ msL x)) :
    HdAns C r p w (.returned (.agg #[.int .i64 ((r.now : Nat) : Int), .slice aa an ac, .slice fa fn fc, .slice (some ⟨g, 0, none⟩) (n + 1) cp])) w' := by
  have h' := h.below b
  have gl := own_lt hr (g := g) rfl
  have gb := (own_heap hr (g := g) rfl).1
  have hpx : Bd C w' x.ba x.bn x.bc x.bs := by
    rw [← hx]
    have : Bd C w' p.ba p.bn p.bc p.bs := hp.kp (Kp.of_below b (fun _ => False)) (fun _ _ h => h)
    unfold rmsg
    split <;> exact this
  refine ⟨_, rfl, ⟨fun y => C y ∨ y = g, ?_, fun y hy => hy.imp id (fun e => by omega)⟩, b⟩
  unfold rhand
  rw [if_neg hc, hx]
  refine ⟨aa, an, ac, fa, fn, fc, _, _, cp, rfl, h'.acc, h'.fts, own_mono (RowM.push hn hr) (Nat.zero_le _), fun y e => .inl (h'.ca y e), fun y e => .inl (h'.cf y e), fun y e => .inr (by simpa [Value.ownBlock] using e.symm), fun y hy => (h'.ba y hy).mono (fun _ h => .inl h), fun y hy => ?_, fun y hy => ?_⟩
  · rcases List.mem_append.1 hy with hy | hy
    · exact (h'.bm y hy).mono (fun _ h => .inl h)
    · rw [List.mem_singleton.1 hy]; exact hpx.mono (fun _ h => .inl h)
  · rcases hy with hy | rfl
    · exact h'.c y hy
    · exact gl
/-- The last stores: the row into the network, the network into the answer. -/
theorem hd_fin {Q base g n cp : Nat} {w w1 w7 : World} {xs : List Value} {x0 x1 x2 x3 z0 z1 z2 z3 : Value} (B7 : Blk Q 34 [x0, x1, x2, x3] w7) (B8 : Blk (Q + 1 + 1) 34 [z0, z1, z2, z3] w7) (hr : w7.ownsRow base 84 5 (.slice (some ⟨g, 0, none⟩) n cp) n xs) (hw : Below w.heap.size w w1) (hQ : w.heap.size = Q) (hb : Below w1.heap.size w1 w7) :
    Blk (Q + 1 + 1) 34 [x0, x1, x2, .slice (some ⟨g, 0, none⟩) n cp] (((((w7.setCell ⟨Q, 3, none⟩ (.slice (some ⟨g, 0, none⟩) n cp)).setCell ⟨Q + 1 + 1, 0, none⟩ x0).setCell ⟨Q + 1 + 1, 1, none⟩ x1).setCell ⟨Q + 1 + 1, 2, none⟩ x2).setCell ⟨Q + 1 + 1, 3, none⟩ (.slice (some ⟨g, 0, none⟩) n cp)) ∧
    (((((w7.setCell ⟨Q, 3, none⟩ (.slice (some ⟨g, 0, none⟩) n cp)).setCell ⟨Q + 1 + 1, 0, none⟩ x0).setCell ⟨Q + 1 + 1, 1, none⟩ x1).setCell ⟨Q + 1 + 1, 2, none⟩ x2).setCell ⟨Q + 1 + 1, 3, none⟩ (.slice (some ⟨g, 0, none⟩) n cp)).ownsRow base 84 5 (.slice (some ⟨g, 0, none⟩) n cp) n xs ∧
    Below w.heap.size w (((((w7.setCell ⟨Q, 3, none⟩ (.slice (some ⟨g, 0, none⟩) n cp)).setCell ⟨Q + 1 + 1, 0, none⟩ x0).setCell ⟨Q + 1 + 1, 1, none⟩ x1).setCell ⟨Q + 1 + 1, 2, none⟩ x2).setCell ⟨Q + 1 + 1, 3, none⟩ (.slice (some ⟨g, 0, none⟩) n cp)) := by
  have s1 := setCell_grown w7 Q 3 (.slice (some ⟨g, 0, none⟩) n cp)
  have b8 := B8.grown s1 (fun e => by injection e with e; omega)
  have s2 := grownBy_trans (grownBy_trans (grownBy_trans (setCell_grown (w7.setCell ⟨Q, 3, none⟩ (.slice (some ⟨g, 0, none⟩) n cp)) (Q + 1 + 1) 0 x0) (setCell_grown _ (Q + 1 + 1) 1 x1)) (setCell_grown _ (Q + 1 + 1) 2 x2)) (setCell_grown _ (Q + 1 + 1) 3 (.slice (some ⟨g, 0, none⟩) n cp))
  obtain ⟨_, cur, hc⟩ := own_heap hr (g := g) rfl
  have g1 : g ≠ Q := ne_ty hc B7 (by decide)
  have g2 : g ≠ Q + 1 + 1 := ne_ty hc B8 (by decide)
  have blk : ∀ y, (Value.slice (some ⟨g, 0, none⟩) n cp).ownBlock = some y → g = y := fun y e => by simpa [Value.ownBlock] using e
  refine ⟨(((b8.set (i := 0) x0).set (i := 1) x1).set (i := 2) x2).set (i := 3) _, own_grown (own_grown hr s1 (fun y e q => ?_)) s2 (fun y e q => ?_), ?_⟩
  · injection q with q
    exact g1 (by rw [blk y e, ← q])
  · injection q with q
    exact g2 (by rw [blk y e, ← q])
  · exact below_row (below_row (below_trans hw hb) s1 (by omega)) s2 (by omega)
theorem RdB.first {w : World} {v : Value} {c : Nat} {r : List Nat} (h : RdB w v (c :: r)) : ∃ g o cap, v = .slice (some ⟨g, o, none⟩) (r.length + 1) cap ∧ g < w.heap.size ∧ w.cell? ⟨g, o, none⟩ = some (.int .u8 (c : Int)) := by
  obtain ⟨ao, cap, e, _, _, H⟩ := h
  obtain ⟨g, o, rfl, lt, e2⟩ := H 0 (by simp)
  exact ⟨g, o, cap, by simpa using e, lt, by simpa [bv] using e2⟩
set_option maxRecDepth 40000 in
set_option maxHeartbeats 8000000 in
theorem handed_nil (C : Nat → Prop) (r : RNt) (p : Pk) (w : World) (aa : Option Addr) (an ac : Nat) (fa : Option Addr) (fn fc : Nat) (ma : Option Addr) (mn mc : Nat) (h : RefV C w r aa an ac fa fn fc ma mn mc) (hp : Bd C w p.ba p.bn p.bc p.bs) (hnow : r.now ≤ 1000000000) (hms : r.ms.length ≤ 1000000000) (hf : r.fs = []) :
    Calls Try.prog 41 #[.agg #[.int .i64 ((r.now : Nat) : Int), .slice aa an ac, .slice fa fn fc, .slice ma mn mc], .agg #[.bool p.ack, .int .i64 p.id, .slice p.ba p.bn p.bc, .int .i64 0, .int .i64 0]] w (HdAns C r p w) := by
  obtain ⟨i0, hi0, hz0, hz1, hz2⟩ := info_parts infoMs
  obtain ⟨N, hN⟩ : ∃ N, r.ms.length = N := ⟨_, rfl⟩
  have HN : Hid (r.ms.length = N) := hN
  have hmn : mn = N := by
    obtain ⟨_, _, ev⟩ := h.mss.len
    injection ev with _ ev _
    rw [ev, hN]
  subst hmn
  have RM : Hid (RowM 0 w (.slice ma mn mc) r.ms) := h.mss
  have HR : Hid (RefV C w r aa an ac fa fn fc ma mn mc ∧ Bd C w p.ba p.bn p.bc p.bs) := ⟨h, hp⟩
  rw [hN] at hms
  clear hN hp
  obtain rfl : fn = 0 := by
    obtain ⟨_, _, ev, -, -⟩ := h.fts.len
    injection ev with _ ev _
    rw [ev, hf]; rfl
  have HC : Hid (r.fs.headD 49 ≠ 120 ∧ rmsg p r.now (r.fs.headD 49) = ⟨p.ack, p.id, p.ba, p.bn, p.bc, p.bs, r.now + 1, 0⟩) := by
    show _ ∧ _
    rw [hf]
    exact ⟨by decide, rfl⟩
  have RR : Hid (RefV C w (rfate1 r) aa an ac fa 0 fc ma mn mc) := ⟨h.acc, (by show RdB w _ r.fs.tail; have := h.fts; rw [hf] at this ⊢; exact this), h.mss, h.ca, h.cf, h.cm, h.ba, h.bm, h.c⟩
  clear h hf
  go_enter Try.func41, Try.ntmps41
  go_upto_region 12 with fail
  have K1 : Hid (Blk w.heap.size 34 [.int .i64 ((r.now : Nat) : Int), .slice aa an ac, .slice fa 0 fc, .slice ma mn mc] (((w.alloc (.cells #[.int .i64 ((r.now : Nat) : Int), .slice aa an ac, .slice fa 0 fc, .slice ma mn mc] 34)).alloc (.cells #[.bool p.ack, .int .i64 p.id, .slice p.ba p.bn p.bc, .int .i64 (((r.now : Nat) : Int) + 1), .int .i64 0] 84)).alloc (.cells #[.int .i64 0, .slice none 0 0, .slice none 0 0, .slice none 0 0] 34)) ∧ Blk (w.heap.size + 1) 84 [.bool p.ack, .int .i64 p.id, .slice p.ba p.bn p.bc, .int .i64 (((r.now : Nat) : Int) + 1), .int .i64 0] (((w.alloc (.cells #[.int .i64 ((r.now : Nat) : Int), .slice aa an ac, .slice fa 0 fc, .slice ma mn mc] 34)).alloc (.cells #[.bool p.ack, .int .i64 p.id, .slice p.ba p.bn p.bc, .int .i64 (((r.now : Nat) : Int) + 1), .int .i64 0] 84)).alloc (.cells #[.int .i64 0, .slice none 0 0, .slice none 0 0, .slice none 0 0] 34)) ∧ Blk (w.heap.size + 1 + 1) 34 [.int .i64 0, .slice none 0 0, .slice none 0 0, .slice none 0 0] (((w.alloc (.cells #[.int .i64 ((r.now : Nat) : Int), .slice aa an ac, .slice fa 0 fc, .slice ma mn mc] 34)).alloc (.cells #[.bool p.ack, .int .i64 p.id, .slice p.ba p.bn p.bc, .int .i64 (((r.now : Nat) : Int) + 1), .int .i64 0] 84)).alloc (.cells #[.int .i64 0, .slice none 0 0, .slice none 0 0, .slice none 0 0] 34)) ∧ (((w.alloc (.cells #[.int .i64 ((r.now : Nat) : Int), .slice aa an ac, .slice fa 0 fc, .slice ma mn mc] 34)).alloc (.cells #[.bool p.ack, .int .i64 p.id, .slice p.ba p.bn p.bc, .int .i64 (((r.now : Nat) : Int) + 1), .int .i64 0] 84)).alloc (.cells #[.int .i64 0, .slice none 0 0, .slice none 0 0, .slice none 0 0] 34)).heap.size = w.heap.size + 3) := ⟨((Blk.new _ _ _).old _).old _, (Blk.new2 _ _ _ _).old _, Blk.new3 _ _ _ _ _, by simp⟩
  have KB : Hid (Below w.heap.size w (((w.alloc (.cells #[.int .i64 ((r.now : Nat) : Int), .slice aa an ac, .slice fa 0 fc, .slice ma mn mc] 34)).alloc (.cells #[.bool p.ack, .int .i64 p.id, .slice p.ba p.bn p.bc, .int .i64 (((r.now : Nat) : Int) + 1), .int .i64 0] 84)).alloc (.cells #[.int .i64 0, .slice none 0 0, .slice none 0 0, .slice none 0 0] 34))) := below_trans (below_trans (below_alloc _ _) (below_alloc _ _)) (below_alloc _ _)
  obtain ⟨Q, hQ⟩ : ∃ Q, w.heap.size = Q := ⟨_, rfl⟩
  rw [hQ] at K1 ⊢
  have HQ : Hid (w.heap.size = Q) := hQ
  clear hQ
  generalize ((w.alloc (.cells #[.int .i64 ((r.now : Nat) : Int), .slice aa an ac, .slice fa 0 fc, .slice ma mn mc] 34)).alloc (.cells #[.bool p.ack, .int .i64 p.id, .slice p.ba p.bn p.bc, .int .i64 (((r.now : Nat) : Int) + 1), .int .i64 0] 84)).alloc (.cells #[.int .i64 0, .slice none 0 0, .slice none 0 0, .slice none 0 0] 34) = w1 at *
  go_wp2_with fail
  go_loopw [7, 6] (fun vk vl wr => ∃ k : Nat, ∃ la ln lc, vk = .int .i64 (k : Int) ∧ vl = .slice la ln lc ∧ k ≤ mn ∧ wr.ownsRow w1.heap.size 84 5 (.slice la ln lc) k ((r.ms.take k).flatMap msL) ∧ Below w1.heap.size w1 wr) (fun vk _ _ => mn - (intOf vk).toNat)
  case atStart => exact ⟨0, none, 0, 0, rfl, rfl, by omega, World.ownsRow_nil _ _ _ _, Below.refl _ _⟩
  case round =>
    obtain ⟨k, la, ln, lc, rfl, rfl, hk, hro, hbw⟩ := hrel
    have q3 := (K1.out.1.below hbw).cell 3 _ rfl
    have lQ : Q < wr.heap.size := (K1.out.1.below hbw).lt
    by_cases hlt : (k : Int) < (mn : Int)
    · obtain ⟨x, hx⟩ : ∃ x, r.ms[k]? = some x := ⟨r.ms[k]'(by rw [HN.out]; omega), List.getElem?_eq_getElem _⟩
      obtain ⟨gm, rfl, lgm, y0, y1, y2, y3, y4⟩ := RowM.at (own_grown RM.out (grownBy_below (below_trans KB.out hbw) none) (fun _ _ => by simp)) hx
      have TS : Hid ((r.ms.take (k + 1)).flatMap msL = (r.ms.take k).flatMap msL ++ msL x) := by show _ = _; rw [List.take_add_one, hx, List.flatMap_append]; simp
      have OW : Hid (wr.ownsRow w1.heap.size 84 5 (.slice la ln lc) k ((r.ms.take k).flatMap msL)) := hro
      have HB : Hid (Below w1.heap.size w1 wr) := hbw
      have bsz : w1.heap.size ≤ wr.heap.size := hbw.size
      have l1 : k + 1 ≤ maxLen := by unfold maxLen; omega
      have l2 : (k + 1) * 56 ≤ 140737488355328 := by omega
      have hkN : k < mn := by omega
      clear hro hbw hx
      go_wp2_with (at_builtin; refine wpList_pushR rfl (.tmp 48) (.tmp 54) 32 rfl 84 i0 (.agg #[.bool false, .int .i64 0, .slice none 0 0, .int .i64 0, .int .i64 0]) 5 56 Try.underlying32 hi0 hz0 hz1 hz2 rfl (by decide) w1.heap.size _ k ((r.ms.take k).flatMap msL) (msL x) rfl (msL_one x) rfl OW.out bsz rfl l1 l2 ?_; intro g7 cp7 w7 o7 gr7 at7)
      have F7 : Hid (w7.ownsRow w1.heap.size 84 5 (.slice (some ⟨g7, 0, none⟩) (k + 1) cp7) (k + 1) ((r.ms.take (k + 1)).flatMap msL) ∧ Below w1.heap.size w1 w7) := ⟨by rw [TS.out]; exact o7, HB.out.grown gr7 bsz (fun x e => (own_heap OW.out e).1)⟩
      clear o7 gr7 at7 OW HB TS
      go_roundw
      case rel => exact ⟨k + 1, _, _, _, by go_num, rfl, by omega, F7.out⟩
      case measure => simp [intOf]; omega
    · obtain rfl : k = mn := by omega
      have e1 : r.ms.take k = r.ms := List.take_of_length_le (by rw [HN.out]; exact Nat.le_refl _)
      rw [e1] at hro
      have OW : Hid (wr.ownsRow w1.heap.size 84 5 (.slice la ln lc) k (r.ms.flatMap msL)) := hro
      have HB : Hid (Below w1.heap.size w1 wr) := hbw
      have bsz : w1.heap.size ≤ wr.heap.size := hbw.size
      have BQ := K1.out.1.below hbw
      have BM := K1.out.2.1.below hbw
      have BR := K1.out.2.2.1.below hbw
      have m0 := BM.cell 0 _ rfl
      have m1 := BM.cell 1 _ rfl
      have m2 := BM.cell 2 _ rfl
      have m3 := BM.cell 3 _ rfl
      have m4 := BM.cell 4 _ rfl
      have lM := BM.lt
      have BB : Hid (Blk Q 34 [.int .i64 ((r.now : Nat) : Int), .slice aa an ac, .slice fa 0 fc, .slice ma k mc] wr ∧ Blk (Q + 1 + 1) 34 [.int .i64 0, .slice none 0 0, .slice none 0 0, .slice none 0 0] wr) := ⟨BQ, BR⟩
      have l1 : k + 1 ≤ maxLen := by unfold maxLen; omega
      have l2 : (k + 1) * 56 ≤ 140737488355328 := by omega
      clear hro hbw BQ BM BR
      go_upto_region 17 with fail
      go_wp2_with (at_builtin; refine wpList_pushR rfl (.tmp 56) (.tmp 58) 32 rfl 84 i0 (.agg #[.bool false, .int .i64 0, .slice none 0 0, .int .i64 0, .int .i64 0]) 5 56 Try.underlying32 hi0 hz0 hz1 hz2 rfl (by decide) w1.heap.size _ k (r.ms.flatMap msL) [.bool p.ack, .int .i64 p.id, .slice p.ba p.bn p.bc, .int .i64 (((r.now : Nat) : Int) + 1), .int .i64 0] rfl (msL_one (⟨p.ack, p.id, p.ba, p.bn, p.bc, p.bs, (r.now + 1), 0⟩ : Ms)) rfl OW.out bsz rfl l1 l2 ?_; intro g7 cp7 w7 o7 gr7 at7; have z1 : w1.heap.size = Q + 3 := K1.out.2.2.2; have zb : ∀ y, (Value.slice la ln lc).ownBlock = some y → w1.heap.size ≤ y := (fun y e => (own_heap OW.out e).1); have B7 := BB.out.1.grown gr7 (fun e => by have := zb Q e; omega); have B8 := BB.out.2.grown gr7 (fun e => by have := zb (Q + 1 + 1) e; omega); have cc0 := B7.cell 0 _ rfl; have cc1 := B7.cell 1 _ rfl; have cc2 := B7.cell 2 _ rfl; have cc3 := B7.cell 3 _ rfl; have ff3 := B7.fz 3; have lt7 := B7.lt; have dd0 := B8.cell 0 _ rfl; have dd1 := B8.cell 1 _ rfl; have dd2 := B8.cell 2 _ rfl; have dd3 := B8.cell 3 _ rfl; have ff := B8.fz; have lt8 := B8.lt; have P7 : Hid (Blk Q 34 [.int .i64 ((r.now : Nat) : Int), .slice aa an ac, .slice fa 0 fc, .slice ma k mc] w7 ∧ Blk (Q + 1 + 1) 34 [.int .i64 0, .slice none 0 0, .slice none 0 0, .slice none 0 0] w7 ∧ w7.ownsRow w1.heap.size 84 5 (.slice (some ⟨g7, 0, none⟩) (k + 1) cp7) (k + 1) (r.ms.flatMap msL ++ msL (⟨p.ack, p.id, p.ba, p.bn, p.bc, p.bs, (r.now + 1), 0⟩ : Ms)) ∧ Below w1.heap.size w1 w7) := ⟨B7, B8, o7, HB.out.grown gr7 bsz zb⟩; clear B7 B8 o7 gr7 at7)
      have FN := hd_fin P7.out.1 P7.out.2.1 P7.out.2.2.1 KB.out HQ.out P7.out.2.2.2
      have F9 : Hid (HdAns C r p w (.returned (.agg #[.int .i64 ((r.now : Nat) : Int), .slice aa an ac, .slice fa 0 fc, .slice (some ⟨g7, 0, none⟩) (k + 1) cp7])) (((((w7.setCell ⟨Q, 3, none⟩ (.slice (some ⟨g7, 0, none⟩) (k + 1) cp7)).setCell ⟨Q + 1 + 1, 0, none⟩ (.int .i64 ((r.now : Nat) : Int))).setCell ⟨Q + 1 + 1, 1, none⟩ (.slice aa an ac)).setCell ⟨Q + 1 + 1, 2, none⟩ (.slice fa 0 fc)).setCell ⟨Q + 1 + 1, 3, none⟩ (.slice (some ⟨g7, 0, none⟩) (k + 1) cp7))) := hd_sent HC.out.1 HC.out.2 RR.out HR.out.2 HN.out FN.2.2 (by have := KB.out.size; omega) FN.2.1
      have FB : Hid (Blk (Q + 1 + 1) 34 [.int .i64 ((r.now : Nat) : Int), .slice aa an ac, .slice fa 0 fc, .slice (some ⟨g7, 0, none⟩) (k + 1) cp7] (((((w7.setCell ⟨Q, 3, none⟩ (.slice (some ⟨g7, 0, none⟩) (k + 1) cp7)).setCell ⟨Q + 1 + 1, 0, none⟩ (.int .i64 ((r.now : Nat) : Int))).setCell ⟨Q + 1 + 1, 1, none⟩ (.slice aa an ac)).setCell ⟨Q + 1 + 1, 2, none⟩ (.slice fa 0 fc)).setCell ⟨Q + 1 + 1, 3, none⟩ (.slice (some ⟨g7, 0, none⟩) (k + 1) cp7))) := FN.1
      clear FN P7
      go_wp2_with fail
      exact ret_blk rfl rfl (Q + 1 + 1) _ [.int .i64 ((r.now : Nat) : Int), .slice aa an ac, .slice fa 0 fc, .slice (some ⟨g7, 0, none⟩) (k + 1) cp7] _ rfl FB.out Try.underlying34 rfl (by kernel_rfl) F9.out
end Go.Proofs.Ytcnhcdlbippjoaa
