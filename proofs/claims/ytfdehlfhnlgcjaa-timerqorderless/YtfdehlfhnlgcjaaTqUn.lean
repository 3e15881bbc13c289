/-
  Ours: the statements' unlike.
-/
import Derived.Test.YtfdehlfhnlgcjaaTqLaw
namespace Go.Proofs.Ytfdehlfhnlgcjaa
open Go.RowKit TqM

/-- Two keys, where they lie. -/
abbrev K6 (w : World) (g o p : Nat) (x k : Ky) (w' : World) : Prop := Below w.heap.size w w' ∧
  w'.cell? ⟨g, o, none⟩ = some (.int .i64 x.d) ∧ w'.cell? ⟨g, o + 1, none⟩ = some (.int .i64 x.l) ∧ w'.cell? ⟨g, o + 2, none⟩ = some (.int .i64 x.n) ∧
  w'.cell? ⟨g, p, none⟩ = some (.int .i64 k.d) ∧ w'.cell? ⟨g, p + 1, none⟩ = some (.int .i64 k.l) ∧ w'.cell? ⟨g, p + 2, none⟩ = some (.int .i64 k.n)
theorem K6.keep {w w1 w2 : World} {g o p : Nat} {x k : Ky} (b : Below w1.heap.size w1 w2) (h : K6 w g o p x k w1) : K6 w g o p x k w2 :=
  ⟨below_trans h.1 b, below_cell b h.2.1, below_cell b h.2.2.1, below_cell b h.2.2.2.1, below_cell b h.2.2.2.2.1, below_cell b h.2.2.2.2.2.1, below_cell b h.2.2.2.2.2.2⟩

set_option maxRecDepth 20000 in
set_option maxHeartbeats 2000000 in
theorem unlike_at (ks : List Ky) (v : Value) (w : World) (hl : ks.length ≤ 1000000) (h : RdK w v ks) : Calls Try.prog 5 #[v] w fun e w' => ∃ v', e = .returned v' ∧ RowK w.heap.size w' v' (unT ks ks.length) ∧ Below w.heap.size w w' := by
  have RD : Hid (∀ w', Below w.heap.size w w' → RdK w' v ks) := fun w' hb => h.later hb
  obtain ⟨ao, cap, rfl, hcap, hno, -⟩ := h
  have SA : Hid (∀ (a b : Ky) (w : World), Calls Try.prog 12 #[.agg #[.int .i64 a.d, .int .i64 a.l, .int .i64 a.n], .agg #[.int .i64 b.d, .int .i64 b.l, .int .i64 b.n]] w fun e w' => e = .returned (.bool (decide (a = b))) ∧ Below w.heap.size w w') := same_at
  obtain ⟨N, hN⟩ : ∃ N, ks.length = N := ⟨_, rfl⟩
  have HN : Hid (ks.length = N) := hN
  rw [hN] at hl hcap RD ⊢
  clear hN
  go_enter Try.func5, Try.ntmps5
  go_wp2_with fail
  go_loopw [3, 4] (fun v3 vk wr => ∃ k : Nat, vk = .int .i64 (k : Int) ∧ k ≤ N ∧ Hid (RowK w.heap.size wr v3 (unT ks k) ∧ Below w.heap.size w wr)) (fun _ vk _ => N - (intOf vk).toNat)
  case atStart => exact ⟨0, rfl, by omega, RowK.nil _ _, Below.refl _ _⟩
  case round =>
    obtain ⟨k, rfl, hk, D⟩ := hrel
    by_cases hlt : (k : Int) < (N : Int)
    · have hkN : k < N := by omega
      obtain ⟨g, o, rfl, c0, c1, c2, lt⟩ := RdK.cells (RD.out wr D.out.2) hkN
      clear c0 c1 c2 lt
      have RC : Hid (∀ w', Below w.heap.size w w' → ∀ k, k < N → w'.cell? ⟨g, o + k * 3, none⟩ = some (.int .i64 (kN ks k).d) ∧ w'.cell? ⟨g, o + k * 3 + 1, none⟩ = some (.int .i64 (kN ks k).l) ∧ w'.cell? ⟨g, o + k * 3 + 2, none⟩ = some (.int .i64 (kN ks k).n)) := fun w' b k hk => by
        obtain ⟨g', o', e, h1, h2, h3, _⟩ := RdK.cells (RD.out w' b) hk
        cases e
        exact ⟨h1, h2, h3⟩
      go_wp2_with fail
      go_loopw [5, 6] (fun vf vj wr => ∃ (j : Nat) (b : Bool), vj = .int .i64 (j : Int) ∧ j ≤ k ∧ vf = .bool b ∧ Hid (b = !decide (kN ks k ∈ ks.take j)) ∧ Hid (RowK w.heap.size wr u3 (unT ks k) ∧ Below w.heap.size w wr)) (fun _ vj _ => k - (intOf vj).toNat)
      case atStart => exact ⟨0, true, rfl, by omega, rfl, by simp [Hid], D.out⟩
      case round =>
        obtain ⟨j, b, rfl, hj, rfl, HB, E⟩ := hrel
        by_cases hjl : (j : Int) < (k : Int)
        · have hjk : j < k := by omega
          have hjN : j < N := by omega
          have TK : Hid (decide (kN ks k ∈ ks.take (j + 1)) = (decide (kN ks k ∈ ks.take j) || decide (kN ks k = kN ks j))) := by
            show _ = _
            rw [take_kN (by have := HN.out; omega)]
            simp [List.mem_append]
          cases b with
          | false =>
            have HB2 : Hid (false = !decide (kN ks k ∈ ks.take (j + 1))) := by
              have := HB.out
              show _ = _
              rw [TK.out]
              cases hd : decide (kN ks k ∈ ks.take j)
              · rw [hd] at this; cases this
              · rfl
            have E2 : Hid (∀ m, RowK w.heap.size (wr.drewN m) u3 (unT ks k) ∧ Below w.heap.size w (wr.drewN m)) := fun m => ⟨E.out.1.later (below_drewN (Below.refl _ _) m), below_drewN E.out.2 m⟩
            clear TK HB E RC D
            go_upto_region 9 with fail
            go_quiet (fail)
            go_wp2_with fail
            go_roundw
            case rel => exact ⟨j + 1, false, by go_num, by omega, rfl, HB2.out, E2.out _⟩
            case measure => simp [intOf]; omega
          | true =>
            have HB2 : Hid ((!decide (kN ks k = kN ks j)) = !decide (kN ks k ∈ ks.take (j + 1))) := by
              have := HB.out
              show _ = _
              rw [TK.out]
              cases hd : decide (kN ks k ∈ ks.take j)
              · simp
              · rw [hd] at this; cases this
            obtain ⟨x0, x1, x2⟩ := RC.out wr E.out.2 k hkN
            obtain ⟨y0, y1, y2⟩ := RC.out wr E.out.2 j hjN
            have S0 : Hid (K6 wr g (o + k * 3) (o + j * 3) (kN ks k) (kN ks j) wr.drew) := ⟨Below.drew (Below.refl _ _), x0, x1, x2, y0, y1, y2⟩
            clear x0 x1 x2 y0 y1 y2 TK HB D RC
            generalize kN ks j = y at *
            go_upto_region 9 with fail
            go_region_held3 (fun w' => K6 wr g (o + k * 3) (o + j * 3) (kN ks k) y w') (first | assumption | exact S0.out | exact K6.keep hU (by assumption)) (first
              | (go_at_call 12; refine (SA.out _ _ _).mono ?_; rintro e w2 ⟨rfl, hU⟩))
            have E2 : Hid (RowK w.heap.size w2 u3 (unT ks k) ∧ Below w.heap.size w w2) := by
              have b2 : Below wr.heap.size wr w2 := And.left (show K6 wr g (o + k * 3) (o + j * 3) (kN ks k) y w2 by assumption)
              exact ⟨E.out.1.later b2, below_trans E.out.2 b2⟩
            clear S0 E hU
            generalize decide (kN ks k = y) = bb at *
            go_wp2_with fail
            go_roundw
            case rel => exact ⟨j + 1, !bb, by go_num, by omega, rfl, HB2.out, E2.out⟩
            case measure => simp [intOf]; omega
        · have ej : j = k := by omega
          subst ej
          have LN : (unT ks j).length + 1 ≤ 1000000000000 := by have := unT_len ks j; omega
          cases b with
          | false =>
            have ST : Hid (unT ks (j + 1) = unT ks j) := by
              have := HB.out
              show _ = _
              conv => lhs; unfold unT
              rw [if_pos (by simpa using this)]
            have E2 : Hid (RowK w.heap.size wr u3 (unT ks (j + 1)) ∧ Below w.heap.size w wr) := by rw [Hid, ST.out]; exact E.out
            clear HB E D RC ST
            go_wp2_with fail
            go_roundw
            case rel => exact ⟨j + 1, by go_num, by omega, E2.out⟩
            case measure => simp [intOf]; omega
          | true =>
            have ST : Hid (unT ks (j + 1) = unT ks j ++ [kN ks j]) := by
              have := HB.out
              show _ = _
              conv => lhs; unfold unT
              rw [if_neg (by simpa using this)]
            obtain ⟨x0, x1, x2⟩ := RC.out wr E.out.2 j hkN
            have RO := RdK.one wr (kN ks j)
            have R1 : Hid (RowK w.heap.size (wr.alloc (.cells (kyL (kN ks j)).toArray 31)) u3 (unT ks j) ∧ Below w.heap.size w (wr.alloc (.cells (kyL (kN ks j)).toArray 31)) ∧ RdK (wr.alloc (.cells (kyL (kN ks j)).toArray 31)) (.slice (some ⟨wr.heap.size, 0, none⟩) 1 1) [kN ks j]) := ⟨E.out.1.later (below_alloc _ _), below_trans E.out.2 (below_alloc _ _), RO⟩
            clear HB E D RC RO
            generalize kN ks j = x at *
            have hbz : Hid (w.heap.size ≤ (wr.alloc (.cells (kyL x).toArray 31)).heap.size) := R1.out.2.1.size
            go_upto_region 4 with (at_builtin; refine wpList_catK rfl (.tmp 32) (.tmp 37) rfl w.heap.size u3 (.slice (some ⟨wr.heap.size, 0, none⟩) 1 1) (unT ks j) [x] rfl R1.out.1 hbz.out rfl R1.out.2.2 LN ?_; intro v4 w4 r4 g4)
            have E2 : Hid (RowK w.heap.size w4 v4 (unT ks (j + 1)) ∧ Below w.heap.size w w4) := by
              refine ⟨by rw [ST.out]; exact r4, ?_⟩
              exact R1.out.2.1.grown g4 hbz.out (fun q e => R1.out.1.ge e)
            clear R1 ST r4 g4 hbz
            go_wp2_with fail
            go_roundw
            case rel => exact ⟨j + 1, by go_num, by omega, E2.out⟩
            case measure => simp [intOf]; omega
    · have ek : k = N := by omega
      subst ek
      go_wp2_with fail
      go_ret
      exact ⟨u3, rfl, D.out⟩
end Go.Proofs.Ytfdehlfhnlgcjaa
