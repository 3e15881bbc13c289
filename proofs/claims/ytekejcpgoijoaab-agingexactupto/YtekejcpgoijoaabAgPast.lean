/-
  Ours: aging's PastDue.
-/
import Derived.Test.YtekejcpgoijoaabAgSat
namespace Go.Proofs.Ytekejcpgoijoaab
open Go.RowKit LedM AgM

/-- The amounts of the rows that are due, among the first k. -/
theorem due_step {l : List Ins} {t : Int} {c k : Nat} (hp : Pre l t c) (hk : k < l.length) : bef l (min (k + 1) c) = if (iN l k).d < t then bef l (min k c) + ((iN l k).i + (iN l k).p) else bef l (min k c) := by
  have := hp.2 k hk
  by_cases h : (iN l k).d < t
  · rw [if_pos h]
    have hc := this.1 h
    rw [Nat.min_eq_left (by omega : k + 1 ≤ c), Nat.min_eq_left (by omega : k ≤ c), bef_succ hk]; omega
  · rw [if_neg h]
    have hc : ¬ k < c := fun q => h (this.2 q)
    rw [Nat.min_eq_right (by omega : c ≤ k + 1), Nat.min_eq_right (by omega : c ≤ k)]

set_option maxRecDepth 20000 in
set_option maxHeartbeats 2000000 in
theorem past_at (l : List Ins) (A R t : Int) (c : Nat) (v : Value) (w : World) (hl : l.length ≤ 1000000000) (ok : ∀ x ∈ l, InsOk x) (hA : i64 A) (ht : i64 t) (hp : Pre (sP l) t c) (h : RdP w v l) :
    Calls Try.prog 33 #[v, .agg #[.int .i64 A, .int .i64 R], .int .i64 t] w fun e w' => e = .returned (.int .i64 (pdV (sP l) A R t c)) ∧ Below w.heap.size w w' := by
  have BC : Hid (Below w.heap.size w (w.alloc (.cells #[.int .i64 A, .int .i64 R] 24)) ∧ Blk w.heap.size 24 [.int .i64 A, .int .i64 R] (w.alloc (.cells #[.int .i64 A, .int .i64 R] 24))) := ⟨below_alloc w _, Blk.new 24 [.int .i64 A, .int .i64 R] w⟩
  have SO : Hid (∀ w', Below w.heap.size w w' → Calls Try.prog 35 #[v] w' fun e w2 => e = .returned (if Snd l then v else .slice none 0 0) ∧ Below w'.heap.size w' w2) := fun w' hb => sound_at l v w' hl ok (h.later hb)
  have PA : Hid (∀ w, Calls Try.prog 40 #[.agg #[.int .i64 A, .int .i64 R]] w fun e w' => e = .returned (.int .i64 (pd A)) ∧ Below w.heap.size w w') := fun w => paid_at A R w
  have h2 := rd_sP h
  have h2' := h2
  obtain ⟨ao, cap, hV, -, -, -⟩ := h2
  rw [hV] at SO h2'
  have CE : Hid (∀ w', Below w.heap.size w w' → ∀ i, i < (sP l).length → ∃ g o, ao = some ⟨g, o, none⟩ ∧ w'.rangeAt g (o + i * 4) (insL (iN (sP l) i))) := h2'.cells
  have hm := Nat.le_trans (sP_len l) hl
  have hs := sP_snd l
  clear hV h hl ok h2'
  generalize sP l = l at *
  have AM : Hid (∀ k, k < l.length → ∀ w, Calls Try.prog 39 #[.agg (insL (iN l k)).toArray] w fun e w' => e = .returned (.int .i64 ((iN l k).i + (iN l k).p)) ∧ Below w.heap.size w w') := fun k hk w => amount_at _ w (by
    have h1 := snd_row hs hk
    have h2 := (snd_bef hs (k := k) (by omega)).1
    have h3 := (snd_bef hs (k := k + 1) (by omega)).2
    have h4 := bef_succ hk
    omega)
  have LA : Hid (∀ k, k < l.length → ∀ w, Calls Try.prog 26 #[.agg (insL (iN l k)).toArray, .int .i64 t] w fun e w' => e = .returned (.int .i64 (ltD (iN l k).d t)) ∧ Below w.heap.size w w') := fun k hk w => late_at _ t w (snd_row hs hk).1 ht.2
  have DU : Hid (∀ k, k ≤ l.length → 0 ≤ bef l (min k c) ∧ bef l (min k c) ≤ 9223372036854775807) := fun k hk => snd_bef hs (by omega)
  have DS : Hid (∀ k, k < l.length → bef l (min (k + 1) c) = if (iN l k).d < t then bef l (min k c) + ((iN l k).i + (iN l k).p) else bef l (min k c)) := fun k hk => due_step hp hk
  have DE : Hid (bef l (min l.length c) = bef l c) := by show _ = _; rw [Nat.min_eq_right hp.1]
  have LT : Hid (∀ k, k < l.length → (decide (0 < ltD (iN l k).d t) = decide ((iN l k).d < t))) := fun k hk => by unfold ltD; split <;> simp <;> omega
  have PV : Hid (pdV l A R t c = if R ≤ 0 ∨ l.length = 0 then 0 else if (iN l (l.length - 1)).d < t then R else clampV (bef l c - pd A) R) := rfl
  have P0 := pd_ge A
  have P1 := pd_le hA
  obtain ⟨L, hL⟩ : ∃ L, l.length = L := ⟨_, rfl⟩
  rw [hL] at SO CE AM LA DU DS DE LT PV hm
  clear hL hs hp
  obtain ⟨V, HV⟩ : ∃ V, Hid (pdV l A R t c = V) := ⟨_, rfl⟩
  rw [HV.out] at PV ⊢
  by_cases c1 : R ≤ 0
  · have VV : Hid (V = 0) := PV.out.trans (by rw [if_pos (.inl c1)])
    clear PV HV
    go_enter Try.func33, Try.ntmps33
    go_wp2_with fail
    refine (SO.out _ BC.out.1).mono ?_
    rintro e w2 ⟨rfl, b2⟩
    have B2 : Hid (Below w.heap.size w w2 ∧ Blk w.heap.size 24 [.int .i64 A, .int .i64 R] w2) := ⟨below_trans BC.out.1 b2, BC.out.2.below b2⟩
    clear b2 BC SO
    have p1 := B2.out.2.cell 1 _ rfl
    go_wp2_with fail
    go_ret
    exact ⟨by rw [VV.out]; rfl, B2.out.1⟩
  by_cases c2 : L = 0
  · have VV : Hid (V = 0) := PV.out.trans (by rw [if_pos (.inr c2)])
    subst c2
    clear PV HV
    go_enter Try.func33, Try.ntmps33
    go_wp2_with fail
    refine (SO.out _ BC.out.1).mono ?_
    rintro e w2 ⟨rfl, b2⟩
    have B2 : Hid (Below w.heap.size w w2 ∧ Blk w.heap.size 24 [.int .i64 A, .int .i64 R] w2) := ⟨below_trans BC.out.1 b2, BC.out.2.below b2⟩
    clear b2 BC SO
    have p1 := B2.out.2.cell 1 _ rfl
    go_wp2_with fail
    go_ret
    exact ⟨by rw [VV.out]; rfl, B2.out.1⟩
  have hc0 : ((L : Int) == 0) = false := by simp; omega
  have pv2 := PV.out
  rw [if_neg (by omega)] at pv2
  have PW : Hid (V = if (iN l (L - 1)).d < t then R else clampV (bef l c - pd A) R) := pv2
  clear PV pv2 HV
  generalize pd A = p at *
  have hcst : ((L - 1 : Nat) : Int) = (L : Int) - 1 := by omega
  have hi1 : (L : Int) - 1 < (L : Int) := by omega
  have hi0 : 0 ≤ (L : Int) - 1 := by omega
  have htn : ((L : Int) - 1).toNat = L - 1 := by omega
  go_enter Try.func33, Try.ntmps33
  go_wp2_with fail
  refine (SO.out _ BC.out.1).mono ?_
  rintro e w2 ⟨rfl, b2⟩
  have B2 : Hid (Below w.heap.size w w2 ∧ Blk w.heap.size 24 [.int .i64 A, .int .i64 R] w2) := ⟨below_trans BC.out.1 b2, BC.out.2.below b2⟩
  clear b2 BC SO
  have p1 := B2.out.2.cell 1 _ rfl
  obtain ⟨g, o, rfl, rg⟩ := CE.out w2 B2.out.1 (L - 1) (by omega)
  have RG : Hid (w2.rangeAt g (o + (L - 1) * 4) (insL (iN l (L - 1)))) := rg
  clear rg
  go_wp2_with (refine step_load rfl 32 _ rfl g (o + (L - 1) * 4) rfl (insL (iN l (L - 1))) _ RG.out Try.underlying32 rfl (infoI _) ?_)
  refine (LA.out (L - 1) (by omega) _).mono ?_
  rintro e w3 ⟨rfl, b3⟩
  have B3 : Hid (Below w.heap.size w w3 ∧ Blk w.heap.size 24 [.int .i64 A, .int .i64 R] w3) := ⟨below_trans B2.out.1 b3, B2.out.2.below b3⟩
  clear b3 B2 RG p1
  have lt1 := LT.out (L - 1) (by omega)
  by_cases hd : (iN l (L - 1)).d < t
  · have VV : Hid (V = R) := PW.out.trans (by rw [if_pos hd])
    rw [decide_eq_true hd] at lt1
    generalize ltD (iN l (L - 1)).d t = z at *
    have z0 : 0 < z := of_decide_eq_true lt1
    have p1 := B3.out.2.cell 1 _ rfl
    clear hd lt1
    go_wp2_with fail
    go_ret
    exact ⟨by rw [VV.out]; rfl, B3.out.1⟩
  · have VV : Hid (V = clampV (bef l c - p) R) := PW.out.trans (by rw [if_neg hd])
    rw [decide_eq_false hd] at lt1
    generalize ltD (iN l (L - 1)).d t = z at *
    have z0 : ¬ 0 < z := of_decide_eq_false lt1
    clear hd lt1 PW
    go_wp2_with fail
    go_loopw [7, 9, 33] (fun vt _ vk wr => ∃ k : Nat, vk = .int .i64 (k : Int) ∧ k ≤ L ∧ vt = .int .i64 (bef l (min k c)) ∧ Hid (Below w.heap.size w wr ∧ Blk w.heap.size 24 [.int .i64 A, .int .i64 R] wr)) (fun _ _ vk _ => L - (intOf vk).toNat)
    case atStart => exact ⟨0, rfl, by omega, by rw [Nat.zero_min, bef_zero], B3.out⟩
    case round =>
      obtain ⟨k, rfl, hk, rfl, BB⟩ := hrel
      by_cases hlt : (k : Int) < (L : Int)
      · obtain ⟨g', o', e', rg⟩ := CE.out wr BB.out.1 k (by omega)
        cases e'
        have RG : Hid (wr.rangeAt g (o + k * 4) (insL (iN l k))) := rg
        have NB : Hid (Blk wr.heap.size 32 [.int .i64 0, .int .i64 0, .int .i64 0, .bool false] (wr.alloc (.cells #[.int .i64 0, .int .i64 0, .int .i64 0, .bool false] 32))) := Blk.new 32 [.int .i64 0, .int .i64 0, .int .i64 0, .bool false] wr
        have BA : Hid (Below w.heap.size w (wr.alloc (.cells #[.int .i64 0, .int .i64 0, .int .i64 0, .bool false] 32)) ∧ w.heap.size ≤ wr.heap.size ∧ Blk w.heap.size 24 [.int .i64 A, .int .i64 R] (wr.alloc (.cells #[.int .i64 0, .int .i64 0, .int .i64 0, .bool false] 32)) ∧ w.heap.size < wr.heap.size) := ⟨BB.out.1.alloc BB.out.1.size _, BB.out.1.size, BB.out.2.old _, BB.out.2.lt⟩
        have ds := DS.out k (by omega)
        have du := DU.out (k + 1) (by omega)
        have du0 := DU.out k (by omega)
        have lt1 := LT.out k (by omega)
        have LK := LA.out k (by omega)
        have AK := AM.out k (by omega)
        have LK' : Hid _ := LK
        have AK' : Hid _ := AK
        clear rg BB LK AK
        generalize iN l k = x at *
        generalize hz1 : bef l (min k c) = s0 at *
        generalize hz2 : bef l (min (k + 1) c) = s1 at *
        have HZ2 : Hid (bef l (min (k + 1) c) = s1) := hz2
        have DSH : Hid (s1 = if x.d < t then s0 + (x.i + x.p) else s0) := ds
        clear hz1 hz2 ds
        obtain ⟨du1, du2⟩ := du
        obtain ⟨du3, du4⟩ := du0
        go_wp2_with (first
          | (refine step_load rfl 32 _ rfl g (o + k * 4) rfl (insL x) _ RG.out Try.underlying32 rfl (infoI _) ?_)
          | (refine step_store rfl 32 _ _ rfl wr.heap.size 0 32 [.int .i64 0, .int .i64 0, .int .i64 0, .bool false] (insL x) rfl rfl NB.out (Nat.le_refl _) (infoI _) (oneI _) ?_; intro w2 nb2 g2; have B2 : Hid (Below w.heap.size w w2 ∧ Blk w.heap.size 24 [.int .i64 A, .int .i64 R] w2) := ⟨below_row BA.out.1 g2 BA.out.2.1, BA.out.2.2.1.grown g2 (by have := BA.out.2.2.2; simp; omega)⟩; have N2 : Hid (Blk wr.heap.size 32 (insL x) w2) := nb2; clear nb2 g2 NB BA RG)
          | (refine step_load rfl 32 _ rfl wr.heap.size 0 rfl (insL x) _ N2.out.all Try.underlying32 rfl (infoI _) ?_))
        refine (LK'.out _).mono ?_
        rintro e w5 ⟨rfl, b5⟩
        have B5 : Hid (Below w.heap.size w w5 ∧ Blk w.heap.size 24 [.int .i64 A, .int .i64 R] w5) := ⟨below_trans B2.out.1 b5, B2.out.2.below b5⟩
        have N5 : Hid (Blk wr.heap.size 32 (insL x) w5) := N2.out.below b5
        clear b5 B2 N2 LK'
        by_cases hd : x.d < t
        · rw [decide_eq_true hd] at lt1
          have e1 : s1 = s0 + (x.i + x.p) := by have := DSH.out; rwa [if_pos hd] at this
          generalize ltD x.d t = z2 at *
          have z3 : 0 < z2 := of_decide_eq_true lt1
          obtain ⟨q, hq⟩ : ∃ q, x.i + x.p = q := ⟨_, rfl⟩
          rw [hq] at e1 AK'
          have E1 : Hid (s1 = s0 + q) := e1
          have q1 : s0 + q ≤ 9223372036854775807 := by omega
          have q2 : 0 ≤ s0 + q := by omega
          clear hd lt1 e1 hq DSH
          go_wp2_with (refine step_load rfl 32 _ rfl wr.heap.size 0 rfl (insL x) _ N5.out.all Try.underlying32 rfl (infoI _) ?_)
          refine (AK'.out _).mono ?_
          rintro e w6 ⟨rfl, b6⟩
          have B6 : Hid (Below w.heap.size w w6 ∧ Blk w.heap.size 24 [.int .i64 A, .int .i64 R] w6) := ⟨below_trans B5.out.1 b6, B5.out.2.below b6⟩
          clear b6 B5 N5
          go_wp2_with fail
          go_roundw
          case rel => exact ⟨k + 1, by go_num, by omega, by rw [HZ2.out, E1.out], B6.out⟩
          case measure => simp [intOf]; omega
        · rw [decide_eq_false hd] at lt1
          have E1 : Hid (s1 = s0) := by show _ = _; have := DSH.out; rwa [if_neg hd] at this
          generalize ltD x.d t = z2 at *
          have z3 : ¬ 0 < z2 := of_decide_eq_false lt1
          clear hd lt1 DSH
          go_wp2_with fail
          go_roundw
          case rel => exact ⟨k + 1, by go_num, by omega, by rw [HZ2.out, E1.out], B5.out⟩
          case measure => simp [intOf]; omega
      · obtain rfl : k = L := by omega
        have du := DU.out k (by omega)
        rw [DE.out] at du ⊢
        have BC : Hid (Below w.heap.size w wr ∧ wr.cell? ⟨w.heap.size, 0, none⟩ = some (.int .i64 A) ∧ wr.cell? ⟨w.heap.size, 1, none⟩ = some (.int .i64 R)) := ⟨BB.out.1, BB.out.2.cell 0 _ rfl, BB.out.2.cell 1 _ rfl⟩
        clear AM LA DU DS DE LT CE B3
        generalize bef l c = s at *
        obtain ⟨du1, du2⟩ := du
        have hw : IntKind.i64.wrap (s - p) = s - p := by simp [IntKind.wrap, IntKind.bits, IntKind.signed]; omega
        have KEY : Hid ((if R < if s - p < 0 then 0 else s - p then R else if s - p < 0 then 0 else s - p) = V) := by
          show _ = _
          rw [VV.out]; unfold clampV
          by_cases n1 : s - p < 0
          · simp only [if_pos n1]; rw [if_neg (by omega)]
          · simp only [if_neg n1]
        have HW : Hid (IntKind.i64.wrap (s - p) = s - p) := hw
        clear hw
        go_upto_region 13 with fail
        go_region_held3 (fun w' => Below w.heap.size w w' ∧ w'.cell? ⟨w.heap.size, 0, none⟩ = some (.int .i64 A) ∧ w'.cell? ⟨w.heap.size, 1, none⟩ = some (.int .i64 R)) (first | assumption | exact ⟨Below.drew BC.out.1, BC.out.2.1, BC.out.2.2⟩ | exact heldP hU (by assumption)) (first | (go_at_call 40; refine (PA.out _).mono ?_; rintro e w1 ⟨rfl, hU⟩))
        rw [HW.out, KEY.out]
        generalize (if s - p < 0 then (0 : Int) else s - p) = zz
        go_wp2_with fail
        go_ret
        exact ⟨rfl, And.left (by assumption)⟩
end Go.Proofs.Ytekejcpgoijoaab
