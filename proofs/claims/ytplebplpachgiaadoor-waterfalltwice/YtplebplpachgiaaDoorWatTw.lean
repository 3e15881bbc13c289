/-
  Ours: the walk of WaterfallTwice.
-/
import Derived.Test.YtplebplpachgiaaDoorWatAl
import Derived.Test.YtplebplpachgiaaDoorWatPay
import Derived.Test.YtplebplpachgiaaDoorWatEq
import Derived.Test.YtplebplpachgiaaDoorWatKB
namespace Go.Proofs.YtplebplpachgiaaDoor
open Go.RowKit LedM WatM

set_option maxRecDepth 20000 in
set_option maxHeartbeats 2000000 in
theorem twice_any (o f i p a b : Int) (w : World) (ho : i64 o) (hf : i64 f) (hi : i64 i) (hp : i64 p) (ha : i64 a) (hb : i64 b) (hT : TabO w) :
    Calls Tryd.prog 4 #[.int .i64 o, .agg (bkL [f, i, p]).toArray, .int .i64 a, .int .i64 b] w fun e w' => e = .returned (.bool true) ∧ Below w.heap.size w w' := by
  have PA : Hid (∀ w', Calls Tryd.prog 6 #[.int .i64 o, .agg (bkL [f, i, p]).toArray, .int .i64 a] w' fun e w2 => e = .returned (.bool (payB o f i p a)) ∧ Below w'.heap.size w' w2) := fun w' => payable_at o f i p a w'
  have AL : Hid (∀ (f i p a : Int) w', i64 f ∧ i64 i ∧ i64 p ∧ i64 a → Below w.heap.size w w' → Calls Tryd.prog 8 #[.int .i64 o, .agg (bkL [f, i, p]).toArray, .int .i64 a] w' fun e w2 => e = .returned (.tuple #[.agg (bkL (alP o f i p a)).toArray, .int .i64 (alE o f i p a)]) ∧ Below w'.heap.size w' w2) := fun f i p a w' h b => alloc_at o f i p a w' ho h.1 h.2.1 h.2.2.1 h.2.2.2 (hT.later b)
  have K0 : Hid (KB w [(w.heap.size, 23, bkL [f, i, p])] (w.alloc (.cells (bkL [f, i, p]).toArray 23))) := (KB.start w).new _ _
  have H4 : Hid (i64 f ∧ i64 i ∧ i64 p ∧ i64 a) := ⟨hf, hi, hp, ha⟩
  unfold i64 at ho hf hi hp ha hb
  clear hT
  go_enter Tryd.func4, Tryd.ntmps4
  go_wp2_with (refine step_load rfl 23 _ rfl w.heap.size 0 rfl (bkL [f, i, p]) _ (K0.out.at 0 rfl).all Tryd.underlying23 rfl infoO ?_)
  refine (PA.out _).mono ?_
  rintro e w1 ⟨rfl, b1⟩
  have K1 : Hid (KB w [(w.heap.size, 23, bkL [f, i, p])] w1) := K0.out.call b1
  clear PA K0 b1
  by_cases hB : payB o f i p a = true
  case neg =>
    have hB : payB o f i p a = false := by simpa using hB
    rw [hB]
    clear hB
    go_wp2_with fail
    go_ret
    exact ⟨rfl, K1.out.bb⟩
  case pos =>
    obtain ⟨hn, hf0, hi0, hp0, ha1⟩ := of_decide_eq_true hB
    rw [hB]
    clear hB
    by_cases h2 : b < 1
    · go_wp2_with fail
      go_ret
      exact ⟨rfl, K1.out.bb⟩
    · by_cases h3 : b ≤ 9223372036854775807 - a
      case neg =>
        go_wp2_with fail
        go_ret
        exact ⟨rfl, K1.out.bb⟩
      case pos =>
        obtain ⟨n, rfl⟩ : ∃ n : Nat, o = (n : Int) := ⟨o.toNat, by omega⟩
        have hn6 : n < 6 := by omega
        have hb1 : 1 ≤ b := by omega
        obtain ⟨x, y, z, u, eA, x0, xf, y0, yi, z0, zp, u0, su⟩ := alG_fits hn6 hf0 hi0 hp0 ha1
        obtain ⟨x', y', z', u', eB, x0', xf', y0', yi', z0', zp', u0', su'⟩ := alG_fits (n := n) (f := f - x) (i := i - y) (p := p - z) (a := b) hn6 (by omega) (by omega) (by omega) hb1
        have eC := alG_two hn6 hf0 hi0 hp0 ha1 hb1 eA eB
        have A1 : Hid (∀ w', Below w.heap.size w w' → Calls Tryd.prog 8 #[.int .i64 (n : Int), .agg (bkL [f, i, p]).toArray, .int .i64 a] w' fun e w2 => e = .returned (.tuple #[.agg (bkL [x, y, z, u, 0]).toArray, .int .i64 0]) ∧ Below w'.heap.size w' w2) := fun w' hb => by
          have := AL.out f i p a w' H4.out hb
          rwa [(alE_ok hn6 hf0 hi0 hp0 ha1).1, (alE_ok hn6 hf0 hi0 hp0 ha1).2, eA] at this
        have A2 : Hid (∀ w', Below w.heap.size w w' → Calls Tryd.prog 8 #[.int .i64 (n : Int), .agg (bkL [f - x, i - y, p - z]).toArray, .int .i64 b] w' fun e w2 => e = .returned (.tuple #[.agg (bkL [x', y', z', u', 0]).toArray, .int .i64 0]) ∧ Below w'.heap.size w' w2) := fun w' hbb => by
          have := AL.out (f - x) (i - y) (p - z) b w' ⟨⟨by omega, by omega⟩, ⟨by omega, by omega⟩, ⟨by omega, by omega⟩, hb⟩ hbb
          have q := alE_ok (n := n) (f := f - x) (i := i - y) (p := p - z) (a := b) hn6 (by omega) (by omega) (by omega) hb1
          rwa [q.1, q.2, eB] at this
        obtain ⟨s, hs⟩ : ∃ s, a + b = s := ⟨_, rfl⟩
        obtain ⟨c0, hc0⟩ : ∃ c, x + x' = c := ⟨_, rfl⟩
        obtain ⟨c1, hc1⟩ : ∃ c, y + y' = c := ⟨_, rfl⟩
        obtain ⟨c2, hc2⟩ : ∃ c, z + z' = c := ⟨_, rfl⟩
        obtain ⟨c3, hc3⟩ : ∃ c, u + u' = c := ⟨_, rfl⟩
        rw [hs, hc0, hc1, hc2, hc3] at eC
        have A3 : Hid (∀ w', Below w.heap.size w w' → Calls Tryd.prog 8 #[.int .i64 (n : Int), .agg (bkL [f, i, p]).toArray, .int .i64 s] w' fun e w2 => e = .returned (.tuple #[.agg (bkL [c0, c1, c2, c3, 0]).toArray, .int .i64 0]) ∧ Below w'.heap.size w' w2) := fun w' hbb => by
          have := AL.out f i p s w' ⟨H4.out.1, H4.out.2.1, H4.out.2.2.1, ⟨by omega, by omega⟩⟩ hbb
          have q := alE_ok (n := n) (f := f) (i := i) (p := p) (a := s) hn6 (by omega) (by omega) (by omega) (by omega)
          rwa [q.1, q.2, eC] at this
        have sc : c0 + c1 + c2 + c3 = s := by omega
        have bs1 : 0 ≤ s ∧ s ≤ 9223372036854775807 := by omega
        have bc0 : 0 ≤ c0 ∧ c0 ≤ s := by omega
        have bc1 : 0 ≤ c1 ∧ c0 + c1 ≤ s := by omega
        have bc2 : 0 ≤ c2 ∧ c0 + c1 + c2 ≤ s := by omega
        have bc3 : 0 ≤ c3 ∧ c3 ≤ s := by omega
        clear eA eB eC AL H4 hn su su'
        go_wp2_with (refine step_load rfl 23 _ rfl w.heap.size 0 rfl (bkL [f, i, p]) _ (K1.out.at 0 rfl).all Tryd.underlying23 rfl infoO ?_)
        refine (A1.out _ K1.out.bb).mono ?_
        rintro e w2 ⟨rfl, b2⟩
        have K2 : Hid (KB w [(w.heap.size, 23, bkL [f, i, p])] w2) := K1.out.call b2
        have Z2 : Hid (Blk w2.heap.size 29 (bkL z5) (w2.alloc z5o)) := Blk.new 29 (bkL z5) w2
        clear A1 K1 b2
        go_upto_region 6 with (refine step_store rfl 29 _ _ rfl w2.heap.size 0 29 (bkL z5) (bkL [x, y, z, u, 0]) rfl rfl Z2.out (Nat.le_refl _) infoP (bkL_one _) ?_; intro w3 nb3 g3; have K3 : Hid (KB w [(w2.heap.size, 29, bkL [x, y, z, u, 0]), (w.heap.size, 23, bkL [f, i, p])] w3) := K2.out.put _ nb3 g3; clear nb3 g3 K2 Z2)
        have m0 := (K3.out.at 0 rfl).cell 0 _ rfl
        have m1 := (K3.out.at 0 rfl).cell 1 _ rfl
        have m2 := (K3.out.at 0 rfl).cell 2 _ rfl
        have o0 := (K3.out.at 1 rfl).cell 0 _ rfl
        have o1 := (K3.out.at 1 rfl).cell 1 _ rfl
        have o2 := (K3.out.at 1 rfl).cell 2 _ rfl
        have KL : Hid (KB w [(w3.heap.size, 23, bkL [f - x, i - y, p - z]), (w2.heap.size, 29, bkL [x, y, z, u, 0]), (w.heap.size, 23, bkL [f, i, p])] (w3.alloc (.cells #[.int .i64 (f - x), .int .i64 (i - y), .int .i64 (p - z)] 23))) := K3.out.new _ (bkL [f - x, i - y, p - z])
        clear K3
        go_wp2_with fail
        refine (A2.out _ KL.out.bb).mono ?_
        rintro e w4 ⟨rfl, b4⟩
        have K4 : Hid (KB w _ w4) := KL.out.call b4
        have Z4 : Hid (Blk w4.heap.size 29 (bkL z5) (w4.alloc z5o)) := Blk.new 29 (bkL z5) w4
        clear A2 KL b4 m0 m1 m2 o0 o1 o2
        go_wp2_with (first
          | (refine step_store rfl 29 _ _ rfl w4.heap.size 0 29 (bkL z5) (bkL [x', y', z', u', 0]) rfl rfl Z4.out (Nat.le_refl _) infoP (bkL_one _) ?_; intro w5 nb5 g5; have K5 : Hid (KB w ((w4.heap.size, 29, bkL [x', y', z', u', 0]) :: _) w5) := K4.out.put _ nb5 g5; clear nb5 g5 K4 Z4)
          | (refine step_load rfl 23 _ rfl w.heap.size 0 rfl (bkL [f, i, p]) _ (K5.out.at 3 rfl).all Tryd.underlying23 rfl infoO ?_))
        refine (A3.out _ K5.out.bb).mono ?_
        rintro e w6 ⟨rfl, b6⟩
        have K6 : Hid (KB w _ w6) := K5.out.call b6
        have Z6 : Hid (Blk w6.heap.size 29 (bkL z5) (w6.alloc z5o)) := Blk.new 29 (bkL z5) w6
        clear A3 K5 b6
        go_upto_region 9 with (refine step_store rfl 29 _ _ rfl w6.heap.size 0 29 (bkL z5) (bkL [c0, c1, c2, c3, 0]) rfl rfl Z6.out (Nat.le_refl _) infoP (bkL_one _) ?_; intro w7 nb7 g7; have K7 : Hid (KB w ((w6.heap.size, 29, bkL [c0, c1, c2, c3, 0]) :: _) w7) := K6.out.put _ nb7 g7; clear nb7 g7 K6 Z6)
        have m0 := (K7.out.at 3 rfl).cell 0 _ rfl
        have m1 := (K7.out.at 3 rfl).cell 1 _ rfl
        have m2 := (K7.out.at 3 rfl).cell 2 _ rfl
        have m3 := (K7.out.at 3 rfl).cell 3 _ rfl
        have m4 := (K7.out.at 3 rfl).cell 4 _ rfl
        have n0 := (K7.out.at 1 rfl).cell 0 _ rfl
        have n1 := (K7.out.at 1 rfl).cell 1 _ rfl
        have n2 := (K7.out.at 1 rfl).cell 2 _ rfl
        have n3 := (K7.out.at 1 rfl).cell 3 _ rfl
        have n4 := (K7.out.at 1 rfl).cell 4 _ rfl
        have q0 := (K7.out.at 0 rfl).cell 0 _ rfl
        have q1 := (K7.out.at 0 rfl).cell 1 _ rfl
        have q2 := (K7.out.at 0 rfl).cell 2 _ rfl
        have q3 := (K7.out.at 0 rfl).cell 3 _ rfl
        have K8 : Hid (KB w _ (w7.alloc (.cells #[.int .i64 c0, .int .i64 c1, .int .i64 c2, .int .i64 c3, .int .i64 0] 29))) := K7.out.new _ (bkL [c0, c1, c2, c3, 0])
        go_wp2_with (refine step_load rfl 29 _ rfl w6.heap.size 0 rfl (bkL [c0, c1, c2, c3, 0]) _ (K8.out.at 1 rfl).all Tryd.underlying29 rfl infoP ?_)
        refine (equal_yes c0 c1 c2 c3 0 _).mono ?_
        rintro e w9 ⟨rfl, b9⟩
        have K9 : Hid (Below w.heap.size w w9) := below_trans K8.out.bb b9
        clear K8 K7 b9
        go_wp2_with fail
        go_ret
        exact ⟨rfl, K9.out⟩
end Go.Proofs.YtplebplpachgiaaDoor
