/-
  Ours: the reference's Calm and Flying.
-/
import Derived.Test.YtcnhcdlbippjoaaNwRf5
import Derived.BigQuiet
namespace Go.Proofs.Ytcnhcdlbippjoaa
open Go.RowKit NwM
namespace NwM
def rcalm (r : RNt) : RNt := { r with fs := [] }
def fly1 (n : Nat) (m : Ms) : Nat := (if n < m.at' then 1 else 0) + (if n < m.ag then 1 else 0)
def rfly (r : RNt) : Nat := (r.ms.map (fly1 r.now)).sum
end NwM
theorem calm_ref {C : Nat → Prop} {w : World} {r : RNt} {aa : Option Addr} {an ac : Nat} {fa : Option Addr} {fn fc : Nat} {ma : Option Addr} {mn mc : Nat} (h : RefV C w r aa an ac fa fn fc ma mn mc) : RefV C w (rcalm r) aa an ac none 0 0 ma mn mc :=
  ⟨h.acc, (Bd.nil C w).1, h.mss, h.ca, (Bd.nil C w).2, h.cm, h.ba, h.bm, h.c⟩
theorem rf_post {C : Nat → Prop} {w w' : World} {r : RNt} {aa : Option Addr} {an ac : Nat} {fa : Option Addr} {fn fc : Nat} {ma : Option Addr} {mn mc : Nat} (h : RefV C w r aa an ac fa fn fc ma mn mc) (b : Below w.heap.size w w') :
    RfPost C w r (.agg #[.int .i64 ((r.now : Nat) : Int), .slice aa an ac, .slice fa fn fc, .slice ma mn mc]) w' :=
  ⟨⟨C, ⟨aa, an, ac, fa, fn, fc, ma, mn, mc, rfl, h.below b⟩, fun _ hg => .inl hg⟩, b⟩
set_option maxRecDepth 20000 in
set_option maxHeartbeats 2000000 in
theorem rCalm_at (C : Nat → Prop) (r : RNt) (w : World) (v : Value) (h : RefAt C w r v) :
    Calls Try.prog 17 #[v] w fun e w' => ∃ v', e = .returned v' ∧ RfPost C w (rcalm r) v' w' := by
  obtain ⟨aa, an, ac, fa, fn, fc, ma, mn, mc, rfl, h⟩ := h
  have RR : Hid (RefV C w (rcalm r) aa an ac none 0 0 ma mn mc) := calm_ref h
  clear h
  go_enter Try.func17, Try.ntmps17
  go_wp2_with fail
  exact ret_blk rfl rfl (w.heap.size + 1) _ [.int .i64 ((r.now : Nat) : Int), .slice aa an ac, .slice none 0 0, .slice ma mn mc] _ rfl (Blk.new2 _ _ _ _) Try.underlying34 rfl (by kernel_rfl) ⟨_, rfl, rf_post (r := rcalm r) RR.out (below_trans (below_alloc _ _) (below_alloc _ _))⟩
set_option maxRecDepth 20000 in
set_option maxHeartbeats 2000000 in
theorem rFlying_at (C : Nat → Prop) (r : RNt) (w : World) (v : Value) (h : RefAt C w r v) (hms : r.ms.length ≤ 1000000000) :
    Calls Try.prog 28 #[v] w fun e w' => e = .returned (.int .i64 ((rfly r : Nat) : Int)) ∧ Below w.heap.size w w' := by
  obtain ⟨aa, an, ac, fa, fn, fc, ma, mn, mc, rfl, h⟩ := h
  obtain ⟨N, hN⟩ : ∃ N, r.ms.length = N := ⟨_, rfl⟩
  have HN : Hid (r.ms.length = N) := hN
  obtain rfl : mn = N := by
    obtain ⟨_, _, ev⟩ := h.mss.len
    injection ev with _ ev _
    rw [ev, hN]
  have RA : Hid (RowM 0 w (.slice ma mn mc) r.ms) := h.mss
  rw [hN] at hms
  clear hN h
  go_enter Try.func28, Try.ntmps28
  go_upto_region 1 with fail
  have D0 : Hid (Blk w.heap.size 34 [.int .i64 ((r.now : Nat) : Int), .slice aa an ac, .slice fa fn fc, .slice ma mn mc] (w.alloc (.cells #[.int .i64 ((r.now : Nat) : Int), .slice aa an ac, .slice fa fn fc, .slice ma mn mc] 34)) ∧ Below w.heap.size w (w.alloc (.cells #[.int .i64 ((r.now : Nat) : Int), .slice aa an ac, .slice fa fn fc, .slice ma mn mc] 34))) := ⟨Blk.new _ _ _, below_alloc _ _⟩
  have RB : Hid (RowM 0 (w.alloc (.cells #[.int .i64 ((r.now : Nat) : Int), .slice aa an ac, .slice fa fn fc, .slice ma mn mc] 34)) (.slice ma mn mc) r.ms) := own_grown RA.out (grownBy_below D0.out.2 none) (fun _ _ => by simp)
  have KB : Hid (Below w.heap.size w (w.alloc (.cells #[.int .i64 ((r.now : Nat) : Int), .slice aa an ac, .slice fa fn fc, .slice ma mn mc] 34))) := D0.out.2
  obtain ⟨Q, hQ⟩ : ∃ Q, w.heap.size = Q := ⟨_, rfl⟩
  rw [hQ] at D0 ⊢
  clear hQ RA
  generalize w.alloc (.cells #[.int .i64 ((r.now : Nat) : Int), .slice aa an ac, .slice fa fn fc, .slice ma mn mc] 34) = w1 at *
  have q0 := D0.out.1.cell 0 _ rfl
  have q3 := D0.out.1.cell 3 _ rfl
  have lQ := D0.out.1.lt
  go_wp2_with fail
  go_loopw [4, 3] (fun vk vs wr => ∃ m k s : Nat, vk = .int .i64 (k : Int) ∧ vs = .int .i64 (s : Int) ∧ k ≤ mn ∧ s ≤ 2 * k ∧ wr = w1.drewN m ∧ Hid (s = ((r.ms.take k).map (fly1 r.now)).sum)) (fun vk _ _ => mn - (intOf vk).toNat)
  case atStart => exact ⟨0, 0, 0, rfl, rfl, by omega, by omega, rfl, rfl⟩
  case round =>
    obtain ⟨m, k, s, rfl, rfl, hk, hs, rfl, HS⟩ := hrel
    by_cases hlt : (k : Int) < (mn : Int)
    · obtain ⟨x, hx⟩ : ∃ x, r.ms[k]? = some x := ⟨r.ms[k]'(by rw [HN.out]; omega), List.getElem?_eq_getElem _⟩
      obtain ⟨gm, rfl, lgm, y0, y1, y2, y3, y4⟩ := RowM.at RB.out hx
      have TS : Hid (((r.ms.take (k + 1)).map (fly1 r.now)).sum = s + fly1 r.now x) := by show _ = _; rw [List.take_add_one, hx, HS.out]; simp
      have hkN : k < mn := by omega
      clear hx HS y0 y1 y2
      by_cases ha : r.now < x.at'
      · by_cases hb : r.now < x.ag
        · have HF : Hid (fly1 r.now x = 2) := by show _ = _; unfold fly1; rw [if_pos ha, if_pos hb]
          have e1 : ((r.now : Nat) : Int) < ((x.at' : Nat) : Int) := by omega
          have e2 : ((r.now : Nat) : Int) < ((x.ag : Nat) : Int) := by omega
          clear ha hb
          go_upto_region 5 with fail
          go_quiet (fail)
          revert nq; intro n5
          go_upto_region 7 with fail
          go_quiet (fail)
          go_wp2_with fail
          go_roundw
          case rel => exact ⟨m + n5 + nq, k + 1, s + 2, by go_num, by go_num, by omega, by omega, by simp [Nat.add_assoc], by show _ = _; rw [TS.out, HF.out]⟩
          case measure => simp [intOf]; omega
        · have HF : Hid (fly1 r.now x = 1) := by show _ = _; unfold fly1; rw [if_pos ha, if_neg hb]
          have e1 : ((r.now : Nat) : Int) < ((x.at' : Nat) : Int) := by omega
          have e2 : ¬ ((r.now : Nat) : Int) < ((x.ag : Nat) : Int) := by omega
          clear ha hb
          go_upto_region 5 with fail
          go_quiet (fail)
          revert nq; intro n5
          go_upto_region 7 with fail
          go_quiet (fail)
          go_wp2_with fail
          go_roundw
          case rel => exact ⟨m + n5 + nq, k + 1, s + 1, by go_num, by go_num, by omega, by omega, by simp [Nat.add_assoc], by show _ = _; rw [TS.out, HF.out]⟩
          case measure => simp [intOf]; omega
      · by_cases hb : r.now < x.ag
        · have HF : Hid (fly1 r.now x = 1) := by show _ = _; unfold fly1; rw [if_neg ha, if_pos hb]
          have e1 : ¬ ((r.now : Nat) : Int) < ((x.at' : Nat) : Int) := by omega
          have e2 : ((r.now : Nat) : Int) < ((x.ag : Nat) : Int) := by omega
          clear ha hb
          go_upto_region 5 with fail
          go_quiet (fail)
          revert nq; intro n5
          go_upto_region 7 with fail
          go_quiet (fail)
          go_wp2_with fail
          go_roundw
          case rel => exact ⟨m + n5 + nq, k + 1, s + 1, by go_num, by go_num, by omega, by omega, by simp [Nat.add_assoc], by show _ = _; rw [TS.out, HF.out]⟩
          case measure => simp [intOf]; omega
        · have HF : Hid (fly1 r.now x = 0) := by show _ = _; unfold fly1; rw [if_neg ha, if_neg hb]
          have e1 : ¬ ((r.now : Nat) : Int) < ((x.at' : Nat) : Int) := by omega
          have e2 : ¬ ((r.now : Nat) : Int) < ((x.ag : Nat) : Int) := by omega
          clear ha hb
          go_upto_region 5 with fail
          go_quiet (fail)
          revert nq; intro n5
          go_upto_region 7 with fail
          go_quiet (fail)
          go_wp2_with fail
          go_roundw
          case rel => exact ⟨m + n5 + nq, k + 1, s, by go_num, rfl, by omega, by omega, by simp [Nat.add_assoc], by show _ = _; rw [TS.out, HF.out, Nat.add_zero]⟩
          case measure => simp [intOf]; omega
    · have ea : Hid (s = rfly r) := by
        show _ = _
        rw [HS.out, List.take_of_length_le (by rw [HN.out]; omega)]
        rfl
      go_wp2_with fail
      go_ret
      exact ⟨by rw [← ea.out]; rfl, below_drewN KB.out m⟩
end Go.Proofs.Ytcnhcdlbippjoaa
