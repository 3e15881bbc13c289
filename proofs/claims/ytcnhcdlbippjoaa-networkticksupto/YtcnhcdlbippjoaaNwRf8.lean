/-
  Ours: the reference's taken.
-/
import Derived.Test.YtcnhcdlbippjoaaNwRf7
namespace Go.Proofs.Ytcnhcdlbippjoaa
open Go.RowKit NwM
namespace NwM
def rtaken (r : RNt) (a : Ac) : RNt := if rknown r a.id then r else { r with ac := r.ac ++ [a] }
def rarr (r : RNt) (m : Ms) : RNt := rhand (rtaken r ⟨m.id, r.now, m.ba, m.bn, m.bc, m.bs⟩) (ackP m.id)
end NwM
theorem tk_mid {C : Nat → Prop} {w w2 w7 : World} {r : RNt} {x : Ac} {Q g7 cp7 k : Nat} {aa : Option Addr} {an ac : Nat} {fa : Option Addr} {fn fc : Nat} {ma : Option Addr} {mn mc : Nat} (h : RefV C w r aa an ac fa fn fc ma mn mc) (hb : Bd C w x.ba x.bn x.bc x.bs) (hQ : w.heap.size = Q) (hz : Q + 3 ≤ w2.heap.size) (hn : r.ac.length = k) (b7 : Below w.heap.size w w7) (o7 : w7.ownsRow w2.heap.size 74 3 (.slice (some ⟨g7, 0, none⟩) (k + 1) cp7) (k + 1) (r.ac.flatMap acL ++ acL x)) :
    RefV (fun g => C g ∨ g = g7) (w7.setCell ⟨Q, 1, none⟩ (.slice (some ⟨g7, 0, none⟩) (k + 1) cp7)) { r with ac := r.ac ++ [x] } (some ⟨g7, 0, none⟩) (k + 1) cp7 fa fn fc ma mn mc ∧ Below w.heap.size w (w7.setCell ⟨Q, 1, none⟩ (.slice (some ⟨g7, 0, none⟩) (k + 1) cp7)) ∧ w2.heap.size ≤ g7 := by
  have s1 := setCell_grown w7 Q 1 (.slice (some ⟨g7, 0, none⟩) (k + 1) cp7)
  have b9 : Below w.heap.size w (w7.setCell ⟨Q, 1, none⟩ (.slice (some ⟨g7, 0, none⟩) (k + 1) cp7)) := below_row b7 s1 (by omega)
  have gb := (own_heap o7 (g := g7) rfl).1
  have o9 := own_grown o7 s1 (fun y e q => by
    injection q with q
    have : g7 = y := by simpa [Value.ownBlock] using e
    omega)
  have h9 := h.below b9
  have o0 : RowA w2.heap.size (w7.setCell ⟨Q, 1, none⟩ (.slice (some ⟨g7, 0, none⟩) (k + 1) cp7)) (.slice (some ⟨g7, 0, none⟩) (k + 1) cp7) (r.ac ++ [x]) := by
    show World.ownsRow _ _ _ _ _ (r.ac ++ [x]).length ((r.ac ++ [x]).flatMap acL)
    rw [flat_push, List.length_append, hn]
    exact o9
  refine ⟨⟨own_mono o0 (Nat.zero_le _), h9.fts, h9.mss, fun y e => .inr (by simpa [Value.ownBlock] using e.symm), fun y e => .inl (h9.cf y e), fun y e => .inl (h9.cm y e), fun y hy => ?_, fun y hy => (h9.bm y hy).mono (fun _ h => .inl h), fun y hy => ?_⟩, b9, gb⟩
  · rcases List.mem_append.1 hy with hy | hy
    · exact (h9.ba y hy).mono (fun _ h => .inl h)
    · rw [List.mem_singleton.1 hy]
      exact (hb.kp (Kp.of_below b9 (fun _ => False)) (fun _ _ h => h)).mono (fun _ h => .inl h)
  · rcases hy with hy | rfl
    · exact h9.c y hy
    · exact own_lt o9 (g := y) rfl
set_option maxRecDepth 20000 in
set_option maxHeartbeats 4000000 in
theorem rtaken_yes (C : Nat → Prop) (r : RNt) (w : World) (v : Value) (m : Ms) (h : RefAt C w r v) (hk : rknown r m.id = true) (hac : r.ac.length ≤ 1000000000) (hnow : r.now ≤ 1000000000) (hms : r.ms.length ≤ 1000000000) (hfs : ∀ f ∈ r.fs, isF f) :
    Calls Try.prog 35 #[v, .agg #[.bool m.ack, .int .i64 m.id, .slice m.ba m.bn m.bc, .int .i64 ((m.at' : Nat) : Int), .int .i64 ((m.ag : Nat) : Int)]] w (fun e w' => ∃ v', e = .returned v' ∧ RfPost C w (rarr r m) v' w') := by
  have RA : Hid (RefAt C w r v) := h
  have HF : Hid (r.ac.length ≤ 1000000000 ∧ r.now ≤ 1000000000 ∧ r.ms.length ≤ 1000000000 ∧ ∀ f ∈ r.fs, isF f) := ⟨hac, hnow, hms, hfs⟩
  obtain ⟨aa, an, ac, fa, fn, fc, ma, mn, mc, rfl, h⟩ := h
  have HK : Hid (rknown r m.id = true) := hk
  clear h hk hac hnow hms hfs
  go_enter Try.func35, Try.ntmps35
  go_upto_region 2 with fail
  have K1 : Hid (Blk w.heap.size 34 [.int .i64 ((r.now : Nat) : Int), .slice aa an ac, .slice fa fn fc, .slice ma mn mc] (((w.alloc (.cells #[.int .i64 ((r.now : Nat) : Int), .slice aa an ac, .slice fa fn fc, .slice ma mn mc] 34)).alloc (.cells #[.bool m.ack, .int .i64 m.id, .slice m.ba m.bn m.bc, .int .i64 ((m.at' : Nat) : Int), .int .i64 ((m.ag : Nat) : Int)] 84)).alloc (.cells #[.int .i64 0, .slice none 0 0, .slice none 0 0, .slice none 0 0] 34)) ∧ Blk (w.heap.size + 1) 84 (msL m) (((w.alloc (.cells #[.int .i64 ((r.now : Nat) : Int), .slice aa an ac, .slice fa fn fc, .slice ma mn mc] 34)).alloc (.cells #[.bool m.ack, .int .i64 m.id, .slice m.ba m.bn m.bc, .int .i64 ((m.at' : Nat) : Int), .int .i64 ((m.ag : Nat) : Int)] 84)).alloc (.cells #[.int .i64 0, .slice none 0 0, .slice none 0 0, .slice none 0 0] 34)) ∧ Blk (w.heap.size + 1 + 1) 34 [.int .i64 0, .slice none 0 0, .slice none 0 0, .slice none 0 0] (((w.alloc (.cells #[.int .i64 ((r.now : Nat) : Int), .slice aa an ac, .slice fa fn fc, .slice ma mn mc] 34)).alloc (.cells #[.bool m.ack, .int .i64 m.id, .slice m.ba m.bn m.bc, .int .i64 ((m.at' : Nat) : Int), .int .i64 ((m.ag : Nat) : Int)] 84)).alloc (.cells #[.int .i64 0, .slice none 0 0, .slice none 0 0, .slice none 0 0] 34)) ∧ (((w.alloc (.cells #[.int .i64 ((r.now : Nat) : Int), .slice aa an ac, .slice fa fn fc, .slice ma mn mc] 34)).alloc (.cells #[.bool m.ack, .int .i64 m.id, .slice m.ba m.bn m.bc, .int .i64 ((m.at' : Nat) : Int), .int .i64 ((m.ag : Nat) : Int)] 84)).alloc (.cells #[.int .i64 0, .slice none 0 0, .slice none 0 0, .slice none 0 0] 34)).heap.size = w.heap.size + 3) := ⟨((Blk.new _ _ _).old _).old _, (Blk.new2 _ _ _ _).old _, Blk.new3 _ _ _ _ _, by simp⟩
  have KB : Hid (Below w.heap.size w (((w.alloc (.cells #[.int .i64 ((r.now : Nat) : Int), .slice aa an ac, .slice fa fn fc, .slice ma mn mc] 34)).alloc (.cells #[.bool m.ack, .int .i64 m.id, .slice m.ba m.bn m.bc, .int .i64 ((m.at' : Nat) : Int), .int .i64 ((m.ag : Nat) : Int)] 84)).alloc (.cells #[.int .i64 0, .slice none 0 0, .slice none 0 0, .slice none 0 0] 34))) := below_trans (below_trans (below_alloc _ _) (below_alloc _ _)) (below_alloc _ _)
  obtain ⟨Q, hQ⟩ : ∃ Q, w.heap.size = Q := ⟨_, rfl⟩
  rw [hQ] at K1 ⊢
  have HQ : Hid (w.heap.size = Q) := hQ
  clear hQ
  generalize ((w.alloc (.cells #[.int .i64 ((r.now : Nat) : Int), .slice aa an ac, .slice fa fn fc, .slice ma mn mc] 34)).alloc (.cells #[.bool m.ack, .int .i64 m.id, .slice m.ba m.bn m.bc, .int .i64 ((m.at' : Nat) : Int), .int .i64 ((m.ag : Nat) : Int)] 84)).alloc (.cells #[.int .i64 0, .slice none 0 0, .slice none 0 0, .slice none 0 0] 34) = w1 at *
  have q0 := K1.out.1.cell 0 _ rfl
  have q1 := K1.out.1.cell 1 _ rfl
  have q2 := K1.out.1.cell 2 _ rfl
  have q3 := K1.out.1.cell 3 _ rfl
  have p1 := K1.out.2.1.cell 1 _ rfl
  have lQ := K1.out.1.lt
  have lP := K1.out.2.1.lt
  have HH : Hid (Calls Try.prog 42 #[.agg #[.int .i64 ((r.now : Nat) : Int), .slice aa an ac, .slice fa fn fc, .slice ma mn mc], .int .i64 m.id] w1 fun e w' => e = .returned (.bool true) ∧ Below w1.heap.size w1 w') := by
    have := rhas_at C r m.id w1 _ (RA.out.below KB.out) HF.out.1
    rw [HK.out] at this
    exact this
  go_wp2_with fail
  refine HH.out.mono ?_
  rintro e w2 ⟨rfl, b2⟩
  have B2 : Hid (Below w1.heap.size w1 w2) := b2
  clear HH b2 q0 q1 q2 q3 p1 lQ lP
  have q0 := (K1.out.1.below B2.out).cell 0 _ rfl
  have q1 := (K1.out.1.below B2.out).cell 1 _ rfl
  have q2 := (K1.out.1.below B2.out).cell 2 _ rfl
  have q3 := (K1.out.1.below B2.out).cell 3 _ rfl
  have p1 := (K1.out.2.1.below B2.out).cell 1 _ rfl
  have p2 := (K1.out.2.1.below B2.out).cell 2 _ rfl
  have lQ := (K1.out.1.below B2.out).lt
  have lP := (K1.out.2.1.below B2.out).lt
  have WB : Hid (Below w.heap.size w w2) := below_trans KB.out B2.out
  have HD : Hid (Calls Try.prog 41 #[.agg #[.int .i64 ((r.now : Nat) : Int), .slice aa an ac, .slice fa fn fc, .slice ma mn mc], .agg #[.bool true, .int .i64 m.id, .slice none 0 0, .int .i64 0, .int .i64 0]] w2 (HdAns C r (ackP m.id) w2)) := handed_at C r (ackP m.id) w2 _ (RA.out.below WB.out) (Bd.nil _ _) HF.out.2.1 HF.out.2.2.1 HF.out.2.2.2
  go_wp2_with fail
  refine HD.out.mono ?_
  rintro e w8 ⟨v8, rfl, P8⟩
  have B8 := (K1.out.2.2.1.below B2.out).below P8.2
  obtain ⟨ab, bn, bc, fb, gn, gc, mb, nn, nc, rfl, bk, pp⟩ := rf_fin (C := C) P8 HQ.out (P := Q + 1 + 1) (by omega) (by have := B2.out.size; have := K1.out.2.2.2; omega) (fun g hg => .inl hg) (fun g hg => by have := RA.out.lt g hg; have := HQ.out; omega) WB.out B8
  have PP := (show Hid (RfPost C w (rhand r (ackP m.id)) _ _) from pp)
  have BK := (show Hid _ from bk)
  have dd0 := B8.cell 0 _ rfl
  have dd1 := B8.cell 1 _ rfl
  have dd2 := B8.cell 2 _ rfl
  have dd3 := B8.cell 3 _ rfl
  have ff := B8.fz
  have lt8 := B8.lt
  clear HD P8 bk pp B8
  go_wp2_with fail
  exact ret_blk rfl rfl (Q + 1 + 1) _ [.int .i64 (((rhand r (ackP m.id)).now : Nat) : Int), .slice ab bn bc, .slice fb gn gc, .slice mb nn nc] _ rfl BK.out Try.underlying34 rfl (by kernel_rfl) ⟨_, rfl, by unfold rarr rtaken; rw [if_pos HK.out]; exact PP.out⟩
set_option maxRecDepth 20000 in
set_option maxHeartbeats 4000000 in
theorem rtaken_no (C : Nat → Prop) (r : RNt) (w : World) (v : Value) (m : Ms) (h : RefAt C w r v) (hk : rknown r m.id = false) (hb : Bd C w m.ba m.bn m.bc m.bs) (hac : r.ac.length ≤ 1000000000) (hnow : r.now ≤ 1000000000) (hms : r.ms.length ≤ 1000000000) (hfs : ∀ f ∈ r.fs, isF f) :
    Calls Try.prog 35 #[v, .agg #[.bool m.ack, .int .i64 m.id, .slice m.ba m.bn m.bc, .int .i64 ((m.at' : Nat) : Int), .int .i64 ((m.ag : Nat) : Int)]] w (fun e w' => ∃ v', e = .returned v' ∧ RfPost C w (rarr r m) v' w') := by
  have RA : Hid (RefAt C w r v) := h
  have HF : Hid (r.ac.length ≤ 1000000000 ∧ r.now ≤ 1000000000 ∧ r.ms.length ≤ 1000000000 ∧ ∀ f ∈ r.fs, isF f) := ⟨hac, hnow, hms, hfs⟩
  obtain ⟨aa, an, ac, fa, fn, fc, ma, mn, mc, rfl, h⟩ := h
  have HK : Hid (rknown r m.id = false) := hk
  have HB : Hid (Bd C w m.ba m.bn m.bc m.bs) := hb
  obtain ⟨i0, hi0, hz0, hz1, hz2⟩ := info_parts infoAc
  obtain ⟨N, hN⟩ : ∃ N, r.ac.length = N := ⟨_, rfl⟩
  have HN : Hid (r.ac.length = N) := hN
  obtain rfl : an = N := by
    obtain ⟨_, _, ev, -⟩ := h.acc.len
    injection ev with _ ev _
    rw [ev, hN]
  have RM : Hid (RefV C w r aa an ac fa fn fc ma mn mc) := h
  rw [hN] at hac
  clear h hk hb hnow hms hfs hN
  go_enter Try.func35, Try.ntmps35
  go_upto_region 2 with fail
  have K1 : Hid (Blk w.heap.size 34 [.int .i64 ((r.now : Nat) : Int), .slice aa an ac, .slice fa fn fc, .slice ma mn mc] (((w.alloc (.cells #[.int .i64 ((r.now : Nat) : Int), .slice aa an ac, .slice fa fn fc, .slice ma mn mc] 34)).alloc (.cells #[.bool m.ack, .int .i64 m.id, .slice m.ba m.bn m.bc, .int .i64 ((m.at' : Nat) : Int), .int .i64 ((m.ag : Nat) : Int)] 84)).alloc (.cells #[.int .i64 0, .slice none 0 0, .slice none 0 0, .slice none 0 0] 34)) ∧ Blk (w.heap.size + 1) 84 (msL m) (((w.alloc (.cells #[.int .i64 ((r.now : Nat) : Int), .slice aa an ac, .slice fa fn fc, .slice ma mn mc] 34)).alloc (.cells #[.bool m.ack, .int .i64 m.id, .slice m.ba m.bn m.bc, .int .i64 ((m.at' : Nat) : Int), .int .i64 ((m.ag : Nat) : Int)] 84)).alloc (.cells #[.int .i64 0, .slice none 0 0, .slice none 0 0, .slice none 0 0] 34)) ∧ Blk (w.heap.size + 1 + 1) 34 [.int .i64 0, .slice none 0 0, .slice none 0 0, .slice none 0 0] (((w.alloc (.cells #[.int .i64 ((r.now : Nat) : Int), .slice aa an ac, .slice fa fn fc, .slice ma mn mc] 34)).alloc (.cells #[.bool m.ack, .int .i64 m.id, .slice m.ba m.bn m.bc, .int .i64 ((m.at' : Nat) : Int), .int .i64 ((m.ag : Nat) : Int)] 84)).alloc (.cells #[.int .i64 0, .slice none 0 0, .slice none 0 0, .slice none 0 0] 34)) ∧ (((w.alloc (.cells #[.int .i64 ((r.now : Nat) : Int), .slice aa an ac, .slice fa fn fc, .slice ma mn mc] 34)).alloc (.cells #[.bool m.ack, .int .i64 m.id, .slice m.ba m.bn m.bc, .int .i64 ((m.at' : Nat) : Int), .int .i64 ((m.ag : Nat) : Int)] 84)).alloc (.cells #[.int .i64 0, .slice none 0 0, .slice none 0 0, .slice none 0 0] 34)).heap.size = w.heap.size + 3) := ⟨((Blk.new _ _ _).old _).old _, (Blk.new2 _ _ _ _).old _, Blk.new3 _ _ _ _ _, by simp⟩
  have KB : Hid (Below w.heap.size w (((w.alloc (.cells #[.int .i64 ((r.now : Nat) : Int), .slice aa an ac, .slice fa fn fc, .slice ma mn mc] 34)).alloc (.cells #[.bool m.ack, .int .i64 m.id, .slice m.ba m.bn m.bc, .int .i64 ((m.at' : Nat) : Int), .int .i64 ((m.ag : Nat) : Int)] 84)).alloc (.cells #[.int .i64 0, .slice none 0 0, .slice none 0 0, .slice none 0 0] 34))) := below_trans (below_trans (below_alloc _ _) (below_alloc _ _)) (below_alloc _ _)
  obtain ⟨Q, hQ⟩ : ∃ Q, w.heap.size = Q := ⟨_, rfl⟩
  rw [hQ] at K1 ⊢
  have HQ : Hid (w.heap.size = Q) := hQ
  clear hQ
  generalize ((w.alloc (.cells #[.int .i64 ((r.now : Nat) : Int), .slice aa an ac, .slice fa fn fc, .slice ma mn mc] 34)).alloc (.cells #[.bool m.ack, .int .i64 m.id, .slice m.ba m.bn m.bc, .int .i64 ((m.at' : Nat) : Int), .int .i64 ((m.ag : Nat) : Int)] 84)).alloc (.cells #[.int .i64 0, .slice none 0 0, .slice none 0 0, .slice none 0 0] 34) = w1 at *
  have q0 := K1.out.1.cell 0 _ rfl
  have q1 := K1.out.1.cell 1 _ rfl
  have q2 := K1.out.1.cell 2 _ rfl
  have q3 := K1.out.1.cell 3 _ rfl
  have p1 := K1.out.2.1.cell 1 _ rfl
  have lQ := K1.out.1.lt
  have lP := K1.out.2.1.lt
  have HH : Hid (Calls Try.prog 42 #[.agg #[.int .i64 ((r.now : Nat) : Int), .slice aa an ac, .slice fa fn fc, .slice ma mn mc], .int .i64 m.id] w1 fun e w' => e = .returned (.bool false) ∧ Below w1.heap.size w1 w') := by
    have := rhas_at C r m.id w1 _ (RA.out.below KB.out) HF.out.1
    rw [HK.out] at this
    exact this
  go_wp2_with fail
  refine HH.out.mono ?_
  rintro e w2 ⟨rfl, b2⟩
  have B2 : Hid (Below w1.heap.size w1 w2) := b2
  clear HH b2 q0 q1 q2 q3 p1 lQ lP
  have q0 := (K1.out.1.below B2.out).cell 0 _ rfl
  have q1 := (K1.out.1.below B2.out).cell 1 _ rfl
  have q2 := (K1.out.1.below B2.out).cell 2 _ rfl
  have q3 := (K1.out.1.below B2.out).cell 3 _ rfl
  have p1 := (K1.out.2.1.below B2.out).cell 1 _ rfl
  have p2 := (K1.out.2.1.below B2.out).cell 2 _ rfl
  have lQ := (K1.out.1.below B2.out).lt
  have lP := (K1.out.2.1.below B2.out).lt
  have WB : Hid (Below w.heap.size w w2) := below_trans KB.out B2.out
  have RA2 : Hid (RowA 0 w2 (.slice aa an ac) r.ac) := (RM.out.below WB.out).acc
  have KQ : Hid (Blk Q 34 [.int .i64 ((r.now : Nat) : Int), .slice aa an ac, .slice fa fn fc, .slice ma mn mc] w2 ∧ Blk (Q + 1) 84 (msL m) w2 ∧ Blk (Q + 1 + 1) 34 [.int .i64 0, .slice none 0 0, .slice none 0 0, .slice none 0 0] w2 ∧ Q + 3 ≤ w2.heap.size) := ⟨K1.out.1.below B2.out, K1.out.2.1.below B2.out, K1.out.2.2.1.below B2.out, by have := B2.out.size; have := K1.out.2.2.2; omega⟩
  clear K1 KB B2
  go_wp2_with fail
  clear q0 q1 q2 q3 p1 p2 lQ lP
  go_loopw [6, 5] (fun vk vl wr => ∃ k : Nat, ∃ la ln lc, vk = .int .i64 (k : Int) ∧ vl = .slice la ln lc ∧ k ≤ an ∧ wr.ownsRow w2.heap.size 74 3 (.slice la ln lc) k ((r.ac.take k).flatMap acL) ∧ Below w2.heap.size w2 wr) (fun vk _ _ => an - (intOf vk).toNat)
  case atStart => exact ⟨0, none, 0, 0, rfl, rfl, by omega, World.ownsRow_nil _ _ _ _, Below.refl _ _⟩
  case round =>
    obtain ⟨k, la, ln, lc, rfl, rfl, hk, hro, hbw⟩ := hrel
    have q1 := (KQ.out.1.below hbw).cell 1 _ rfl
    have lQ : Q < wr.heap.size := (KQ.out.1.below hbw).lt
    by_cases hlt : (k : Int) < (an : Int)
    · obtain ⟨x, hx⟩ : ∃ x, r.ac[k]? = some x := ⟨r.ac[k]'(by rw [HN.out]; omega), List.getElem?_eq_getElem _⟩
      obtain ⟨g, cp, e, -, lg, -⟩ := RA2.out.some (by rw [HN.out]; omega)
      rw [HN.out] at e
      injection e with e1 e2 e3
      subst e1 e3
      have R3 : RowA 0 wr (.slice (some ⟨g, 0, none⟩) an ac) r.ac := own_grown RA2.out (grownBy_below hbw none) (fun _ _ => by simp)
      have lg' : g < wr.heap.size := Nat.lt_of_lt_of_le lg hbw.size
      have y0 : wr.cell? ⟨g, k * 3, none⟩ = some (.int .i64 x.id) := by have := Row3.cell acL3 R3 hx 0 _ rfl; simpa using this
      have y1 : wr.cell? ⟨g, k * 3 + 1, none⟩ = some (.int .i64 x.tk) := by have := Row3.cell acL3 R3 hx 1 _ rfl; simpa using this
      have y2 : wr.cell? ⟨g, k * 3 + 2, none⟩ = some (.slice x.ba x.bn x.bc) := by have := Row3.cell acL3 R3 hx 2 _ rfl; simpa using this
      have TS : Hid ((r.ac.take (k + 1)).flatMap acL = (r.ac.take k).flatMap acL ++ acL x) := by show _ = _; rw [List.take_add_one, hx, List.flatMap_append]; simp
      have OW : Hid (wr.ownsRow w2.heap.size 74 3 (.slice la ln lc) k ((r.ac.take k).flatMap acL)) := hro
      have HB2 : Hid (Below w2.heap.size w2 wr) := hbw
      have bsz : w2.heap.size ≤ wr.heap.size := hbw.size
      have l1 : k + 1 ≤ maxLen := by unfold maxLen; omega
      have l2 : (k + 1) * 40 ≤ 140737488355328 := by omega
      have hkN : k < an := by omega
      clear hro hbw hx R3 lg
      go_wp2_with (at_builtin; refine wpList_pushR rfl (.tmp 19) (.tmp 25) 30 rfl 74 i0 (.agg #[.int .i64 0, .int .i64 0, .slice none 0 0]) 3 40 Try.underlying30 hi0 hz0 hz1 hz2 rfl (by decide) w2.heap.size _ k ((r.ac.take k).flatMap acL) (acL x) rfl (acL_one x) rfl OW.out bsz rfl l1 l2 ?_; intro g7 cp7 w7 o7 gr7 at7)
      have F7 : Hid (w7.ownsRow w2.heap.size 74 3 (.slice (some ⟨g7, 0, none⟩) (k + 1) cp7) (k + 1) ((r.ac.take (k + 1)).flatMap acL) ∧ Below w2.heap.size w2 w7) := ⟨by rw [TS.out]; exact o7, HB2.out.grown gr7 bsz (fun x e => (own_heap OW.out e).1)⟩
      clear o7 gr7 at7 OW HB2 TS
      go_roundw
      case rel => exact ⟨k + 1, _, _, _, by go_num, rfl, by omega, F7.out⟩
      case measure => simp [intOf]; omega
    · obtain rfl : k = an := by omega
      have e1 : r.ac.take k = r.ac := List.take_of_length_le (by rw [HN.out]; exact Nat.le_refl _)
      rw [e1] at hro
      have OW : Hid (wr.ownsRow w2.heap.size 74 3 (.slice la ln lc) k (r.ac.flatMap acL)) := hro
      have HB2 : Hid (Below w2.heap.size w2 wr) := hbw
      have bsz : w2.heap.size ≤ wr.heap.size := hbw.size
      have q0 := (KQ.out.1.below hbw).cell 0 _ rfl
      have p1 := (KQ.out.2.1.below hbw).cell 1 _ rfl
      have p2 := (KQ.out.2.1.below hbw).cell 2 _ rfl
      have lP := (KQ.out.2.1.below hbw).lt
      have l1 : k + 1 ≤ maxLen := by unfold maxLen; omega
      have l2 : (k + 1) * 40 ≤ 140737488355328 := by omega
      clear hro hbw e1
      go_wp2_with (at_builtin; refine wpList_pushR rfl (.tmp 27) (.tmp 35) 30 rfl 74 i0 (.agg #[.int .i64 0, .int .i64 0, .slice none 0 0]) 3 40 Try.underlying30 hi0 hz0 hz1 hz2 rfl (by decide) w2.heap.size _ k (r.ac.flatMap acL) [.int .i64 m.id, .int .i64 ((r.now : Nat) : Int), .slice m.ba m.bn m.bc] rfl (acL_one (⟨m.id, r.now, m.ba, m.bn, m.bc, m.bs⟩ : Ac)) rfl OW.out bsz rfl l1 l2 ?_; intro g7 cp7 w7 o7 gr7 at7; have zb : ∀ y, (Value.slice la ln lc).ownBlock = some y → w2.heap.size ≤ y := (fun y e => (own_heap OW.out e).1); have zz := KQ.out.2.2.2; have B7 := (KQ.out.1.below HB2.out).grown gr7 (fun e => by have := zb Q e; omega); have M7 := (KQ.out.2.1.below HB2.out).grown gr7 (fun e => by have := zb (Q + 1) e; omega); have Z7 := (KQ.out.2.2.1.below HB2.out).grown gr7 (fun e => by have := zb (Q + 1 + 1) e; omega); have b7 : Below w.heap.size w w7 := below_trans WB.out (HB2.out.grown gr7 bsz zb); have T7 : Hid (RefV (fun g => C g ∨ g = g7) (w7.setCell ⟨Q, 1, none⟩ (.slice (some ⟨g7, 0, none⟩) (k + 1) cp7)) _ _ _ _ _ _ _ _ _ _ ∧ Below w.heap.size w (w7.setCell ⟨Q, 1, none⟩ (.slice (some ⟨g7, 0, none⟩) (k + 1) cp7)) ∧ w2.heap.size ≤ g7) := tk_mid (x := (⟨m.id, r.now, m.ba, m.bn, m.bc, m.bs⟩ : Ac)) RM.out HB.out HQ.out zz HN.out b7 o7; have ff7 := B7.fz 1; have lt7 := B7.lt; have cq1 := B7.cell 1 _ rfl; have cq0 := B7.cell 0 _ rfl; have cq2 := B7.cell 2 _ rfl; have cq3 := B7.cell 3 _ rfl; have cm1 := M7.cell 1 _ rfl; have ltm := M7.lt; clear zb zz q0 q1 p1 p2 lP lQ; have D9 : Hid (Blk Q 34 [.int .i64 ((r.now : Nat) : Int), (.slice (some ⟨g7, 0, none⟩) (k + 1) cp7), .slice fa fn fc, .slice ma mn mc] (w7.setCell ⟨Q, 1, none⟩ (.slice (some ⟨g7, 0, none⟩) (k + 1) cp7)) ∧ Blk (Q + 1) 84 (msL m) (w7.setCell ⟨Q, 1, none⟩ (.slice (some ⟨g7, 0, none⟩) (k + 1) cp7)) ∧ Blk (Q + 1 + 1) 34 [.int .i64 0, .slice none 0 0, .slice none 0 0, .slice none 0 0] (w7.setCell ⟨Q, 1, none⟩ (.slice (some ⟨g7, 0, none⟩) (k + 1) cp7))) := ⟨B7.set (i := 1) _, M7.grown (setCell_grown w7 Q 1 _) (fun e => by injection e with e; omega), Z7.grown (setCell_grown w7 Q 1 _) (fun e => by injection e with e; omega)⟩; clear B7 M7 Z7 o7 gr7 at7 b7)
      have HD : Hid (Calls Try.prog 41 #[.agg #[.int .i64 ((r.now : Nat) : Int), (.slice (some ⟨g7, 0, none⟩) (k + 1) cp7), .slice fa fn fc, .slice ma mn mc], .agg #[.bool true, .int .i64 m.id, .slice none 0 0, .int .i64 0, .int .i64 0]] (w7.setCell ⟨Q, 1, none⟩ (.slice (some ⟨g7, 0, none⟩) (k + 1) cp7)) (HdAns (fun g => C g ∨ g = g7) ({ r with ac := r.ac ++ [⟨m.id, r.now, m.ba, m.bn, m.bc, m.bs⟩] } : RNt) (ackP m.id) (w7.setCell ⟨Q, 1, none⟩ (.slice (some ⟨g7, 0, none⟩) (k + 1) cp7)))) := handed_at _ ({ r with ac := r.ac ++ [⟨m.id, r.now, m.ba, m.bn, m.bc, m.bs⟩] } : RNt) (ackP m.id) _ _ ⟨_, _, _, _, _, _, _, _, _, rfl, T7.out.1⟩ (Bd.nil _ _) HF.out.2.1 HF.out.2.2.1 HF.out.2.2.2
      have Z9 : Hid ((w7.setCell ⟨Q, 1, none⟩ (.slice (some ⟨g7, 0, none⟩) (k + 1) cp7)).heap.size = w7.heap.size ∧ Q + 3 ≤ w7.heap.size) := ⟨by simp, by have := KQ.out.2.2.2; have := own_lt T7.out.1.acc (g := g7) rfl; simp at this; have := T7.out.2.2; omega⟩
      refine HD.out.mono ?_
      clear HD
      generalize (w7.setCell ⟨Q, 1, none⟩ (.slice (some ⟨g7, 0, none⟩) (k + 1) cp7)) = w9 at *
      rintro e w8 ⟨v8, rfl, P8⟩
      have B8 := D9.out.2.2.below P8.2
      obtain ⟨ab, bn, bc, fb, gn, gc, mb, nn, nc, rfl, bk, pp⟩ := rf_fin (C := C) P8 HQ.out (P := Q + 1 + 1) (by omega) (by have := Z9.out; omega) (fun g hg => hg.imp (fun h => h) (fun hg => by have := KQ.out.2.2.2; have := T7.out.2.2; omega)) (fun g hg => by have := RA.out.lt g hg; have := HQ.out; omega) T7.out.2.1 B8
      have PP := (show Hid (RfPost C w (rhand ({ r with ac := r.ac ++ [⟨m.id, r.now, m.ba, m.bn, m.bc, m.bs⟩] } : RNt) (ackP m.id)) _ _) from pp)
      have BK := (show Hid _ from bk)
      have dd0 := B8.cell 0 _ rfl
      have dd1 := B8.cell 1 _ rfl
      have dd2 := B8.cell 2 _ rfl
      have dd3 := B8.cell 3 _ rfl
      have ff := B8.fz
      have lt8 := B8.lt
      clear P8 bk pp B8
      go_wp2_with fail
      exact ret_blk rfl rfl (Q + 1 + 1) _ [.int .i64 (((rhand ({ r with ac := r.ac ++ [⟨m.id, r.now, m.ba, m.bn, m.bc, m.bs⟩] } : RNt) (ackP m.id)).now : Nat) : Int), .slice ab bn bc, .slice fb gn gc, .slice mb nn nc] _ rfl BK.out Try.underlying34 rfl (by kernel_rfl) ⟨_, rfl, by unfold rarr rtaken; rw [if_neg (by rw [HK.out]; simp)]; exact PP.out⟩
end Go.Proofs.Ytcnhcdlbippjoaa
