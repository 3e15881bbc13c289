/-
  Ours: aging's amount, paid, late; soundOrNone.
-/
import Derived.Test.YtekejcpgoijoaabAgRow
import Derived.Deep.QuietTactic
import Derived.BigQuiet
import Derived.WalkMore
namespace Go.Proofs.Ytekejcpgoijoaab
open Go.RowKit LedM AgM

theorem amount_at (x : Ins) (w : World) (h0 : 0 ≤ x.i ∧ 0 ≤ x.p ∧ x.i + x.p ≤ 9223372036854775807) : Calls Try.prog 39 #[.agg (insL x).toArray] w fun e w' => e = .returned (.int .i64 (x.i + x.p)) ∧ Below w.heap.size w w' := by
  obtain ⟨d, i, p, m⟩ := x
  obtain ⟨h1, h2, h3⟩ := h0
  have h1 : 0 ≤ i := h1
  have h2 : 0 ≤ p := h2
  have h3 : i + p ≤ 9223372036854775807 := h3
  show Calls _ _ #[.agg #[.int .i64 d, .int .i64 i, .int .i64 p, .bool m]] _ _
  go_enter Try.func39, Try.ntmps39
  go_wp2_with fail
  go_ret
  exact ⟨rfl, below_alloc w _⟩
theorem paid_at (A R : Int) (w : World) : Calls Try.prog 40 #[.agg #[.int .i64 A, .int .i64 R]] w fun e w' => e = .returned (.int .i64 (pd A)) ∧ Below w.heap.size w w' := by
  by_cases h : A < 0
  · have e : pd A = 0 := by simp [pd, h]
    rw [e]
    go_enter Try.func40, Try.ntmps40
    go_wp2_with fail
    go_ret
    exact ⟨rfl, below_alloc w _⟩
  · have e : pd A = A := by simp [pd, h]
    rw [e]
    have h0 : 0 ≤ A := by omega
    go_enter Try.func40, Try.ntmps40
    go_wp2_with fail
    go_ret
    exact ⟨rfl, below_alloc w _⟩
theorem late_at (x : Ins) (t : Int) (w : World) (h0 : 1 ≤ x.d) (ht : t ≤ 9223372036854775807) : Calls Try.prog 26 #[.agg (insL x).toArray, .int .i64 t] w fun e w' => e = .returned (.int .i64 (ltD x.d t)) ∧ Below w.heap.size w w' := by
  obtain ⟨d, i, p, m⟩ := x
  have h0 : 1 ≤ d := h0
  show Calls _ _ #[.agg #[.int .i64 d, .int .i64 i, .int .i64 p, .bool m], _] _ fun e w' => e = .returned (.int .i64 (ltD d t)) ∧ _
  by_cases h : t ≤ d
  · have e : ltD d t = 0 := by simp [ltD, h]
    rw [e]
    go_enter Try.func26, Try.ntmps26
    go_wp2_with fail
    go_ret
    exact ⟨rfl, below_alloc w _⟩
  · have e : ltD d t = t - d := by simp [ltD, h]
    rw [e]
    go_enter Try.func26, Try.ntmps26
    go_wp2_with fail
    go_ret
    exact ⟨rfl, below_alloc w _⟩

/-- A number that is added to the amounts so far. -/
def fitB (t x : Int) : Bool := decide (0 ≤ x ∧ t + x ≤ 9223372036854775807)
theorem sum2_at (t x : Int) (w : World) (ht : 0 ≤ t ∧ t ≤ 9223372036854775807) (hx : i64 x) : Calls Try.prog 42 #[.slice (some ⟨w.heap.size, 0, none⟩) 2 2] (w.alloc (.cells #[.int .i64 t, .int .i64 x] 2)) fun e w' => e = .returned (.tuple #[.int .i64 (smV (t + x)), .bool (smOk (t + x))]) ∧ w' = w.alloc (.cells #[.int .i64 t, .int .i64 x] 2) := by
  have e : total [t, x] = t + x := by simp [total]
  have := sum_any [t, x] w.heap.size 0 2 (w.alloc (.cells #[.int .i64 t, .int .i64 x] 2)) (fun k => by
      unfold i64 at hx
      match k with
      | 0 => simp; omega
      | 1 => simp; omega
      | k + 2 => simp) (by simp) (fun i hi => by
      match i, hi with
      | 0, _ => simp
      | 1, _ => simp)
  rwa [e] at this

theorem two_at (x y : Int) (w : World) : (Instr.index 56 (.agg #[.int .i64 x, .int .i64 y]) (.int .i64 0)).run Try.prog w = .ok (.int .i64 x) w ∧ (Instr.index 56 (.agg #[.int .i64 x, .int .i64 y]) (.int .i64 1)).run Try.prog w = .ok (.int .i64 y) w := by
  have hi : (Try.prog.info? 2).map (·.size) = some 1 := by kernel_rfl
  exact ⟨run_index_one 56 2 2 _ _ 0 _ Try.underlying56 (by decide) Try.underlying2 rfl hi rfl w, run_index_one 56 2 2 _ _ 1 _ Try.underlying56 (by decide) Try.underlying2 rfl hi rfl w⟩

set_option maxRecDepth 20000 in
set_option maxHeartbeats 2000000 in
theorem sound_at (l : List Ins) (v : Value) (w : World) (hl : l.length ≤ 1000000000) (ok : ∀ x ∈ l, InsOk x) (h : RdP w v l) :
    Calls Try.prog 35 #[v] w fun e w' => e = .returned (if Snd l then v else .slice none 0 0) ∧ Below w.heap.size w w' := by
  have RD : Hid (∀ w', Below w.heap.size w w' → RdP w' v l) := fun w' hb => h.later hb
  obtain ⟨ao, cap, rfl, hcap, hno, _⟩ := h
  have CE : Hid (∀ w', Below w.heap.size w w' → ∀ i, i < l.length → ∃ g o, ao = some ⟨g, o, none⟩ ∧ w'.rangeAt g (o + i * 4) (insL (iN l i))) := fun w' hb i hi => by
    obtain ⟨ao', cap', e, _, _, H⟩ := RD.out w' hb
    injection e with e1 e2 e3
    subst e1
    obtain ⟨g, o, e, _, r⟩ := H i hi
    exact ⟨g, o, e, r⟩
  obtain ⟨L, hL⟩ : ∃ L, l.length = L := ⟨_, rfl⟩
  have HL : Hid (l.length = L) := hL
  have OK : Hid (∀ k, InsOk (iN l k)) := fun k => iN_ok ok k
  obtain ⟨V, HV⟩ : ∃ V, Hid ((if Snd l then Value.slice ao L cap else .slice none 0 0) = V) := ⟨_, rfl⟩
  have VF : Hid (∀ k, k < L → ¬ rowOk l k → Value.slice none 0 0 = V) := fun k hk hn => by
    have := HV.out; rw [snd_fail (by rw [HL.out]; exact hk) hn] at this; simpa using this
  have VT : Hid ((∀ k, k < L → rowOk l k) → Value.slice ao L cap = V) := fun hn => by
    have := HV.out; rw [snd_rows.2 (by rw [HL.out]; exact hn)] at this; simpa using this
  rw [hL] at hcap hl CE ⊢
  rw [HV.out]
  clear RD hL ok HV
  go_enter Try.func35, Try.ntmps35
  go_wp2_with fail
  go_step3
  go_wp2_with fail
  go_step3
  go_wp2_with fail
  go_loopw [3, 4, 5, 7, 9, 10, 11, 14] (fun vs vd vt _ _ _ _ vk wr => ∃ k : Nat, vk = .int .i64 (k : Int) ∧ vs = .int .i64 (k : Int) ∧ k ≤ L ∧ vd = .int .i64 (pv l k) ∧ vt = .int .i64 (bef l k) ∧ Hid (∀ j, j < k → rowOk l j) ∧ Hid (0 ≤ bef l k ∧ bef l k ≤ 9223372036854775807) ∧ Below w.heap.size w wr) (fun _ _ _ _ _ _ _ vk _ => L - (intOf vk).toNat)
  case atStart => exact ⟨0, rfl, rfl, by omega, rfl, by rw [bef_zero], fun j hj => by omega, by rw [bef_zero]; exact ⟨by omega, by omega⟩, Below.refl _ _⟩
  case round =>
    obtain ⟨k, rfl, rfl, hk, rfl, rfl, RO, BE, bb⟩ := hrel
    have BB : Hid (Below w.heap.size w wr) := bb
    by_cases hlt : (k : Int) < (L : Int)
    · obtain ⟨g, o, rfl, rg⟩ := CE.out wr bb k (by omega)
      have RG : Hid (wr.rangeAt g (o + k * 4) (insL (iN l k))) := rg
      have NB : Hid (Blk wr.heap.size 32 [.int .i64 0, .int .i64 0, .int .i64 0, .bool false] (wr.alloc (.cells #[.int .i64 0, .int .i64 0, .int .i64 0, .bool false] 32))) := Blk.new 32 [.int .i64 0, .int .i64 0, .int .i64 0, .bool false] wr
      have BA : Hid (Below w.heap.size w (wr.alloc (.cells #[.int .i64 0, .int .i64 0, .int .i64 0, .bool false] 32)) ∧ w.heap.size ≤ wr.heap.size) := ⟨bb.alloc bb.size _, bb.size⟩
      have ROK : Hid (rowOk l k ↔ pv l k < (iN l k).d ∧ (iN l k).d ≤ 3652059 ∧ 0 ≤ (iN l k).i ∧ bef l k + (iN l k).i ≤ 9223372036854775807 ∧ 0 ≤ (iN l k).p ∧ bef l k + (iN l k).i + (iN l k).p ≤ 9223372036854775807) := Iff.rfl
      have NX : Hid (pv l (k + 1) = (iN l k).d ∧ bef l (k + 1) = bef l k + (iN l k).i + (iN l k).p) := ⟨by simp [pv], bef_succ (by rw [HL.out]; omega)⟩
      have VK := VF.out k (by omega)
      have XO := OK.out k
      have VN : Hid (¬ rowOk l k → Value.slice none 0 0 = V) := VK
      have hr : (k : Int) < (L : Int) := hlt
      clear rg bb BB CE VK VF VT OK
      generalize iN l k = x at *
      generalize pv l k = dp at *
      generalize bef l k = t at *
      obtain ⟨xd, xi, xp, xm⟩ := x
      have XI : Hid (i64 xi ∧ i64 xp) := ⟨XO.2.1, XO.2.2⟩
      clear XO
      by_cases h1 : xd ≤ dp
      case pos =>
        have VV : Hid (Value.slice none 0 0 = V) := VN.out (fun h => by have := ROK.out.1 h; simp only at this; omega)
        go_wp2_with (first
        | (refine step_load rfl 32 _ rfl g (o + k * 4) rfl (insL ⟨xd, xi, xp, xm⟩) _ RG.out Try.underlying32 rfl (infoI _) ?_)
        | (refine step_store rfl 32 _ _ rfl wr.heap.size 0 32 [.int .i64 0, .int .i64 0, .int .i64 0, .bool false] (insL ⟨xd, xi, xp, xm⟩) rfl rfl NB.out (Nat.le_refl _) (infoI _) (oneI _) ?_; intro w2 nb2 g2; have B2 : Hid (Below w.heap.size w w2) := below_row BA.out.1 g2 BA.out.2; have n2 : Blk wr.heap.size 32 (insL ⟨xd, xi, xp, xm⟩) w2 := nb2; have c0 := n2.cell 0 _ rfl; have c1 := n2.cell 1 _ rfl; have c2 := n2.cell 2 _ rfl; clear nb2 n2 g2 NB BA RG))
        go_ret
        exact ⟨by rw [← VV.out]; rfl, B2.out⟩
      by_cases h2 : 3652059 < xd
      case pos =>
        have VV : Hid (Value.slice none 0 0 = V) := VN.out (fun h => by have := ROK.out.1 h; simp only at this; omega)
        go_wp2_with (first
        | (refine step_load rfl 32 _ rfl g (o + k * 4) rfl (insL ⟨xd, xi, xp, xm⟩) _ RG.out Try.underlying32 rfl (infoI _) ?_)
        | (refine step_store rfl 32 _ _ rfl wr.heap.size 0 32 [.int .i64 0, .int .i64 0, .int .i64 0, .bool false] (insL ⟨xd, xi, xp, xm⟩) rfl rfl NB.out (Nat.le_refl _) (infoI _) (oneI _) ?_; intro w2 nb2 g2; have B2 : Hid (Below w.heap.size w w2) := below_row BA.out.1 g2 BA.out.2; have n2 : Blk wr.heap.size 32 (insL ⟨xd, xi, xp, xm⟩) w2 := nb2; have c0 := n2.cell 0 _ rfl; have c1 := n2.cell 1 _ rfl; have c2 := n2.cell 2 _ rfl; clear nb2 n2 g2 NB BA RG))
        go_ret
        exact ⟨by rw [← VV.out]; rfl, B2.out⟩
      go_wp2_with (first
        | (refine step_load rfl 32 _ rfl g (o + k * 4) rfl (insL ⟨xd, xi, xp, xm⟩) _ RG.out Try.underlying32 rfl (infoI _) ?_)
        | (refine step_store rfl 32 _ _ rfl wr.heap.size 0 32 [.int .i64 0, .int .i64 0, .int .i64 0, .bool false] (insL ⟨xd, xi, xp, xm⟩) rfl rfl NB.out (Nat.le_refl _) (infoI _) (oneI _) ?_; intro w2 nb2 g2; have B2 : Hid (Below w.heap.size w w2) := below_row BA.out.1 g2 BA.out.2; have n2 : Blk wr.heap.size 32 (insL ⟨xd, xi, xp, xm⟩) w2 := nb2; have c0 := n2.cell 0 _ rfl; have c1 := n2.cell 1 _ rfl; have c2 := n2.cell 2 _ rfl; clear nb2 n2 g2 NB BA RG))
      obtain ⟨t0, t1⟩ := BE.out
      go_loopw [5, 9, 10, 11, 34] (fun vt _ _ _ vj wr' => ∃ j : Int, vj = .int .i64 j ∧ ((j = 0 ∧ vt = .int .i64 t) ∨ (j = 1 ∧ vt = .int .i64 (t + xi) ∧ 0 ≤ xi ∧ t + xi ≤ 9223372036854775807) ∨ (j = 2 ∧ vt = .int .i64 (t + xi + xp) ∧ Hid (0 ≤ xi ∧ t + xi ≤ 9223372036854775807 ∧ 0 ≤ xp ∧ t + xi + xp ≤ 9223372036854775807))) ∧ Below w.heap.size w wr') (fun _ _ _ _ vj _ => 2 - (intOf vj).toNat)
      case atStart => exact ⟨0, rfl, .inl ⟨rfl, rfl⟩, B2.out⟩
      case round =>
        obtain ⟨j, rfl, c, bj⟩ := hrel
        have ix0 := fun w => (two_at xi xp w).1
        have ix1 := fun w => (two_at xi xp w).2
        rcases c with c | c | c
        · obtain ⟨rfl, rfl⟩ := c
          have S2 : Hid (∀ w : World, Calls Try.prog 42 #[.slice (some ⟨w.heap.size, 0, none⟩) 2 2] (w.alloc (.cells #[.int .i64 (t), .int .i64 xi] 2)) fun e w' => e = .returned (.tuple #[.int .i64 (smV (t + xi)), .bool (smOk (t + xi))]) ∧ w' = w.alloc (.cells #[.int .i64 (t), .int .i64 xi] 2)) := fun w => sum2_at _ _ w ⟨by omega, by omega⟩ XI.out.1
          have BN : Hid (Below w.heap.size w (wr.alloc (.cells #[.int .i64 (t), .int .i64 xi] 2))) := bj.alloc bj.size _
          clear bj
          by_cases hn : xi < 0
          · have VV : Hid (Value.slice none 0 0 = V) := VN.out (fun h => by have := ROK.out.1 h; omega)
            go_wp2_with fail
            refine (S2.out _).mono ?_
            rintro e w5 ⟨rfl, rfl⟩
            generalize smOk (t + xi) = fb at *
            go_wp2_with fail
            try rw [Exit.noGoto_ret]
            go_ret
            exact ⟨by rw [← VV.out]; rfl, BN.out⟩
          · by_cases hm : t + xi ≤ 9223372036854775807
            · have e1 : smOk (t + xi) = true := decide_eq_true ⟨by omega, hm⟩
              have e2 : smV (t + xi) = t + xi := by simp [smV, e1]
              rw [e1, e2] at S2
              clear e1 e2
              go_wp2_with fail
              refine (S2.out _).mono ?_
              rintro e w5 ⟨rfl, rfl⟩
              go_wp2_with fail
              go_roundw
              case rel => exact ⟨_, rfl, .inr (.inl ⟨rfl, rfl, by omega, hm⟩), BN.out⟩
              case measure => simp [intOf]
            · have VV : Hid (Value.slice none 0 0 = V) := VN.out (fun h => by have := ROK.out.1 h; omega)
              have e1 : smOk (t + xi) = false := decide_eq_false (fun h => hm h.2)
              have e2 : smV (t + xi) = 0 := by simp [smV, e1]
              rw [e1, e2] at S2
              clear e1 e2
              go_wp2_with fail
              refine (S2.out _).mono ?_
              rintro e w5 ⟨rfl, rfl⟩
              go_wp2_with fail
              try rw [Exit.noGoto_ret]
              go_ret
              exact ⟨by rw [← VV.out]; rfl, BN.out⟩
        · obtain ⟨rfl, rfl, hA, hB⟩ := c
          have S2 : Hid (∀ w : World, Calls Try.prog 42 #[.slice (some ⟨w.heap.size, 0, none⟩) 2 2] (w.alloc (.cells #[.int .i64 (t + xi), .int .i64 xp] 2)) fun e w' => e = .returned (.tuple #[.int .i64 (smV (t + xi + xp)), .bool (smOk (t + xi + xp))]) ∧ w' = w.alloc (.cells #[.int .i64 (t + xi), .int .i64 xp] 2)) := fun w => sum2_at _ _ w ⟨by omega, by omega⟩ XI.out.2
          have BN : Hid (Below w.heap.size w (wr.alloc (.cells #[.int .i64 (t + xi), .int .i64 xp] 2))) := bj.alloc bj.size _
          clear bj
          by_cases hn : xp < 0
          · have VV : Hid (Value.slice none 0 0 = V) := VN.out (fun h => by have := ROK.out.1 h; omega)
            go_wp2_with fail
            refine (S2.out _).mono ?_
            rintro e w5 ⟨rfl, rfl⟩
            generalize smOk (t + xi + xp) = fb at *
            go_wp2_with fail
            try rw [Exit.noGoto_ret]
            go_ret
            exact ⟨by rw [← VV.out]; rfl, BN.out⟩
          · by_cases hm : t + xi + xp ≤ 9223372036854775807
            · have e1 : smOk (t + xi + xp) = true := decide_eq_true ⟨by omega, hm⟩
              have e2 : smV (t + xi + xp) = t + xi + xp := by simp [smV, e1]
              rw [e1, e2] at S2
              clear e1 e2
              go_wp2_with fail
              refine (S2.out _).mono ?_
              rintro e w5 ⟨rfl, rfl⟩
              go_wp2_with fail
              go_roundw
              case rel => exact ⟨_, rfl, .inr (.inr ⟨rfl, rfl, hA, hB, by omega, hm⟩), BN.out⟩
              case measure => simp [intOf]
            · have VV : Hid (Value.slice none 0 0 = V) := VN.out (fun h => by have := ROK.out.1 h; omega)
              have e1 : smOk (t + xi + xp) = false := decide_eq_false (fun h => hm h.2)
              have e2 : smV (t + xi + xp) = 0 := by simp [smV, e1]
              rw [e1, e2] at S2
              clear e1 e2
              go_wp2_with fail
              refine (S2.out _).mono ?_
              rintro e w5 ⟨rfl, rfl⟩
              go_wp2_with fail
              try rw [Exit.noGoto_ret]
              go_ret
              exact ⟨by rw [← VV.out]; rfl, BN.out⟩
        · obtain ⟨rfl, rfl, hj⟩ := c
          have BJ : Hid (Below w.heap.size w wr) := bj
          have RK : Hid (∀ i, i < k + 1 → rowOk l i) := fun i hi => by
            by_cases e : i = k
            · subst e; exact ROK.out.2 ⟨by omega, by omega, hj.out⟩
            · exact RO.out i (by omega)
          have BF : Hid (pv l (k + 1) = xd ∧ bef l (k + 1) = t + xi + xp ∧ 0 ≤ t + xi + xp ∧ t + xi + xp ≤ 9223372036854775807) := ⟨NX.out.1, NX.out.2, by have := hj.out; omega, by have := hj.out; omega⟩
          clear bj hj
          go_wp2_with fail
          go_roundw
          case rel => exact ⟨k + 1, by go_num, by go_num, by omega, by rw [BF.out.1], by rw [BF.out.2.1], RK.out, by rw [BF.out.2.1]; exact BF.out.2.2, BJ.out⟩
          case measure => simp [intOf]; omega
    · obtain rfl : k = L := by omega
      have VV : Hid (Value.slice ao k cap = V) := VT.out RO.out
      go_wp2_with fail
      go_ret
      exact ⟨by rw [← VV.out]; rfl, BB.out⟩
end Go.Proofs.Ytekejcpgoijoaab
