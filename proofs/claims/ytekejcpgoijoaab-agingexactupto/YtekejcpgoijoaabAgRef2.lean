/-
  Ours: the reference's Reach, before, PastDue; Bucket of both; the statements' samePlan, sameRows.
-/
import Derived.Test.YtekejcpgoijoaabAgRef
import Derived.Test.YtekejcpgoijoaabAgPast
namespace Go.Proofs.Ytekejcpgoijoaab
open Go.RowKit LedM AgM

set_option maxRecDepth 20000 in
set_option maxHeartbeats 2000000 in
theorem rreach_at (l : List Ins) (A R t k : Int) (n : Nat) (v : Value) (w : World) (hl : l.length ≤ 1000000) (ok : ∀ x ∈ l, InsOk x) (hA : i64 A) (hn : SatF (sP l) A R n) (h : RdP w v l) :
    Calls Try.prog 8 #[v, .agg #[.int .i64 A, .int .i64 R], .int .i64 t, .int .i64 k] w fun e w' => e = .returned (.tuple #[.int .i64 (rchV l n t k), .bool (rchB l n t k)]) ∧ Below w.heap.size w w' := by
  have BC : Hid (Below w.heap.size w (w.alloc (.cells #[.int .i64 A, .int .i64 R] 24)) ∧ Blk w.heap.size 24 [.int .i64 A, .int .i64 R] (w.alloc (.cells #[.int .i64 A, .int .i64 R] 24))) := ⟨below_alloc w _, Blk.new 24 [.int .i64 A, .int .i64 R] w⟩
  have OL : Hid (∀ w', Below w.heap.size w w' → Calls Try.prog 22 #[v, .agg #[.int .i64 A, .int .i64 R]] w' fun e w2 => e = .returned (.tuple #[.int .i64 (oldK n (sP l).length), .bool (oldB n (sP l).length)]) ∧ Below w'.heap.size w' w2) := fun w' hb => roldest_at l A R n v w' hl ok hA hn (h.later hb)
  have hle := hn.le
  by_cases c : n < (sP l).length ∧ 0 ≤ t ∧ t ≤ 3652059 ∧ 1 ≤ k ∧ k ≤ 3652059
  · have e0 : rchB l n t k = true := decide_eq_true c
    have e3 : rchV l n t k = if (iN l n).d + k < t + 1 then t + 1 else (iN l n).d + k := by simp [rchV, e0]
    obtain ⟨c, t0, t1, k0, k1⟩ := c
    have e1 : oldK n (sP l).length = n := by simp [oldK]; omega
    have e2 : oldB n (sP l).length = true := by simp [oldB]; omega
    obtain ⟨hs, hlt, -⟩ := old_in c
    obtain ⟨x1, x2, -, -⟩ := snd_row hs hlt
    rw [e1, e2] at OL
    rw [e0, e3]
    have h' := h
    obtain ⟨ao, cap, rfl, -, -, -⟩ := h
    have CE : Hid (∀ w', Below w.heap.size w w' → ∀ i, i < l.length → ∃ g o, ao = some ⟨g, o, none⟩ ∧ w'.rangeAt g (o + i * 4) (insL (iN l i))) := h'.cells
    generalize hLL : l.length = L at *
    have hlt' : (n : Int) < (L : Int) := by omega
    clear h' hs e0 e1 e2 e3 hn ok hle c
    obtain ⟨x, HX⟩ : ∃ x, Hid ((iN l n).d = x) := ⟨_, rfl⟩
    rw [HX.out] at x1 x2 ⊢
    have LA : Hid (∀ w, Calls Try.prog 23 #[.agg (insL (iN l n)).toArray, .int .i64 (t + 1)] w fun e w' => e = .returned (.int .i64 (ltD x (t + 1))) ∧ Below w.heap.size w w') := fun w => by
      have := rlate_at (iN l n) (t + 1) w (by rw [HX.out]; exact x1) (by omega)
      rwa [HX.out] at this
    have LT : ltD x (t + 1) < k ↔ t + 1 < x + k := by unfold ltD; split <;> omega
    have LTH : Hid (ltD x (t + 1) < k ↔ t + 1 < x + k) := LT
    clear LT
    generalize ltD x (t + 1) = z at *
    by_cases cq : z < k
    · have cm : ¬ x + k < t + 1 := by have := LTH.out.1 cq; omega
      rw [if_neg cm]
      go_enter Try.func8, Try.ntmps8
      go_wp2_with fail
      refine (OL.out _ BC.out.1).mono ?_
      rintro e w2 ⟨rfl, b2⟩
      have B2 : Hid (Below w.heap.size w w2) := below_trans BC.out.1 b2
      obtain ⟨g, o, rfl, rg⟩ := CE.out w2 B2.out n hlt
      have RG : Hid (w2.rangeAt g (o + n * 4) (insL (iN l n))) := rg
      clear b2 BC rg OL
      go_wp2_with (refine step_load rfl 32 _ rfl g (o + n * 4) rfl (insL (iN l n)) _ RG.out Try.underlying32 rfl (infoI _) ?_)
      refine (LA.out _).mono ?_
      rintro e w3 ⟨rfl, b3⟩
      have B3 : Hid (Below w.heap.size w w3) := below_trans B2.out b3
      have c0 : w3.cell? ⟨g, o + n * 4, none⟩ = some (.int .i64 x) := by
        obtain ⟨g', o', e', r'⟩ := CE.out w3 B3.out n hlt
        cases e'
        rw [← HX.out]; exact r' 0 _ rfl
      clear b3 B2 RG CE
      go_wp2_with fail
      go_ret2
      exact ⟨rfl, B3.out⟩
    · have RV : Hid (t + 1 = if x + k < t + 1 then t + 1 else x + k) := by
        show _ = _
        have : ¬ t + 1 < x + k := fun h => cq (LTH.out.2 h)
        split <;> omega
      rw [← RV.out]
      go_enter Try.func8, Try.ntmps8
      go_wp2_with fail
      refine (OL.out _ BC.out.1).mono ?_
      rintro e w2 ⟨rfl, b2⟩
      have B2 : Hid (Below w.heap.size w w2) := below_trans BC.out.1 b2
      obtain ⟨g, o, rfl, rg⟩ := CE.out w2 B2.out n hlt
      have RG : Hid (w2.rangeAt g (o + n * 4) (insL (iN l n))) := rg
      clear b2 BC rg OL
      go_wp2_with (refine step_load rfl 32 _ rfl g (o + n * 4) rfl (insL (iN l n)) _ RG.out Try.underlying32 rfl (infoI _) ?_)
      refine (LA.out _).mono ?_
      rintro e w3 ⟨rfl, b3⟩
      have B3 : Hid (Below w.heap.size w w3) := below_trans B2.out b3
      have c0 : w3.cell? ⟨g, o + n * 4, none⟩ = some (.int .i64 x) := by
        obtain ⟨g', o', e', r'⟩ := CE.out w3 B3.out n hlt
        cases e'
        rw [← HX.out]; exact r' 0 _ rfl
      clear b3 B2 RG CE
      go_wp2_with fail
      go_ret2
      exact ⟨rfl, B3.out⟩
  · have e0 : rchB l n t k = false := decide_eq_false c
    have e3 : rchV l n t k = 0 := by simp [rchV, e0]
    rw [e0, e3]
    clear e0 e3
    by_cases c0 : n < (sP l).length
    · have e1 : oldK n (sP l).length = n := by simp [oldK]; omega
      have e2 : oldB n (sP l).length = true := by simp [oldB]; omega
      rw [e1, e2] at OL
      clear e1 e2 h hn ok
      have c' : ¬ (0 ≤ t ∧ t ≤ 3652059 ∧ 1 ≤ k ∧ k ≤ 3652059) := fun h => c ⟨c0, h⟩
      clear c
      by_cases q0 : t < 0
      · clear c'
        go_enter Try.func8, Try.ntmps8
        go_wp2_with fail
        refine (OL.out _ BC.out.1).mono ?_
        rintro e w2 ⟨rfl, b2⟩
        have B2 : Hid (Below w.heap.size w w2) := below_trans BC.out.1 b2
        clear b2 BC OL
        go_wp2_with fail
        go_ret2
        exact ⟨rfl, B2.out⟩
      by_cases q1 : 3652059 < t
      · clear c'
        go_enter Try.func8, Try.ntmps8
        go_wp2_with fail
        refine (OL.out _ BC.out.1).mono ?_
        rintro e w2 ⟨rfl, b2⟩
        have B2 : Hid (Below w.heap.size w w2) := below_trans BC.out.1 b2
        clear b2 BC OL
        go_wp2_with fail
        go_ret2
        exact ⟨rfl, B2.out⟩
      by_cases q2 : k < 1
      · clear c'
        go_enter Try.func8, Try.ntmps8
        go_wp2_with fail
        refine (OL.out _ BC.out.1).mono ?_
        rintro e w2 ⟨rfl, b2⟩
        have B2 : Hid (Below w.heap.size w w2) := below_trans BC.out.1 b2
        clear b2 BC OL
        go_wp2_with fail
        go_ret2
        exact ⟨rfl, B2.out⟩
      have q3 : 3652059 < k := by omega
      clear c'
      go_enter Try.func8, Try.ntmps8
      go_wp2_with fail
      refine (OL.out _ BC.out.1).mono ?_
      rintro e w2 ⟨rfl, b2⟩
      have B2 : Hid (Below w.heap.size w w2) := below_trans BC.out.1 b2
      clear b2 BC OL
      go_wp2_with fail
      go_ret2
      exact ⟨rfl, B2.out⟩
    · have e1 : oldK n (sP l).length = 0 := by simp [oldK]; omega
      have e2 : oldB n (sP l).length = false := by simp [oldB]; omega
      rw [e1, e2] at OL
      clear e1 e2 h hn ok c
      go_enter Try.func8, Try.ntmps8
      go_wp2_with fail
      refine (OL.out _ BC.out.1).mono ?_
      rintro e w2 ⟨rfl, b2⟩
      have B2 : Hid (Below w.heap.size w w2) := below_trans BC.out.1 b2
      clear b2 BC OL
      go_wp2_with fail
      go_ret2
      exact ⟨rfl, B2.out⟩

set_option maxRecDepth 20000 in
set_option maxHeartbeats 2000000 in
theorem before_at (l : List Ins) (c : Nat) (v : Value) (w : World) (hl : l.length ≤ 1000000000) (hs : Snd l = true) (hc : c ≤ l.length) (h : RdP w v l) :
    Calls Try.prog 41 #[v, .int .i64 (c : Int)] w fun e w' => e = .returned (.int .i64 (bef l c)) ∧ Below w.heap.size w w' := by
  have h' := h
  obtain ⟨ao, cap, rfl, hcap, hno, -⟩ := h
  have CE : Hid (∀ w', Below w.heap.size w w' → ∀ i, i < l.length → ∃ g o, ao = some ⟨g, o, none⟩ ∧ w'.rangeAt g (o + i * 4) (insL (iN l i))) := h'.cells
  have RW : Hid (∀ k, k < l.length → 0 ≤ (iN l k).i ∧ 0 ≤ (iN l k).p ∧ 0 ≤ bef l k ∧ bef l k + (iN l k).i + (iN l k).p ≤ 9223372036854775807 ∧ bef l (k + 1) = bef l k + (iN l k).i + (iN l k).p) := fun k hk => by
    have h1 := snd_row hs hk
    have h2 := (snd_bef hs (k := k) (by omega)).1
    have h3 := (snd_bef hs (k := k + 1) (by omega)).2
    have h4 := bef_succ hk
    omega
  obtain ⟨L, hL⟩ : ∃ L, l.length = L := ⟨_, rfl⟩
  rw [hL] at hcap hl CE RW hc ⊢
  obtain ⟨V, HV⟩ : ∃ V, Hid (bef l c = V) := ⟨_, rfl⟩
  rw [HV.out]
  clear hs h' hL
  go_enter Try.func41, Try.ntmps41
  go_wp2_with fail
  go_loopw [5, 6] (fun vs vk wr => ∃ k n : Nat, vk = .int .i64 (k : Int) ∧ k ≤ c ∧ vs = .int .i64 (bef l k) ∧ wr = w.drewN n) (fun _ vk _ => c - (intOf vk).toNat)
  case atStart => exact ⟨0, 0, rfl, by omega, by rw [bef_zero], rfl⟩
  case round =>
    obtain ⟨k, m, rfl, hk, rfl, rfl⟩ := hrel
    by_cases hlt : (k : Int) < (c : Int)
    · obtain ⟨g, o, rfl, rg⟩ := CE.out w (Below.refl _ _) k (by omega)
      have x1 : w.cell? ⟨g, o + k * 4 + 1, none⟩ = some (.int .i64 (iN l k).i) := rg 1 _ rfl
      have x2 : w.cell? ⟨g, o + k * 4 + 2, none⟩ = some (.int .i64 (iN l k).p) := rg 2 _ rfl
      obtain ⟨r1, r2, r3, r4, r5⟩ := RW.out k (by omega)
      have R5 : Hid (bef l (k + 1) = bef l k + (iN l k).i + (iN l k).p) := r5
      clear rg RW CE r5
      generalize (iN l k).i = xi at *
      generalize (iN l k).p = xp at *
      generalize bef l k = b at *
      have hw1 : IntKind.i64.wrap (b + xi) = b + xi := by simp [IntKind.wrap, IntKind.bits, IntKind.signed]; omega
      have hw2 : IntKind.i64.wrap (b + xi + xp) = b + xi + xp := by simp [IntKind.wrap, IntKind.bits, IntKind.signed]; omega
      have kl : (k : Int) < (L : Int) := by omega
      go_wp2_with fail
      go_quiet (fail)
      go_wp2_with fail
      go_roundw
      case rel => exact ⟨k + 1, _, by go_num, by omega, by rw [R5.out], rfl⟩
      case measure => simp [intOf]; omega
    · obtain rfl : k = c := by omega
      rw [HV.out]
      clear CE RW
      go_wp2_with fail
      go_ret
      exact ⟨rfl, below_drewN (Below.refl _ _) _⟩

set_option maxRecDepth 20000 in
set_option maxHeartbeats 2000000 in
theorem rpast_at (l : List Ins) (A R t : Int) (c : Nat) (v : Value) (w : World) (hl : l.length ≤ 1000000) (ok : ∀ x ∈ l, InsOk x) (hA : i64 A) (hp : Pre (sP l) t c) (h : RdP w v l) :
    Calls Try.prog 34 #[v, .agg #[.int .i64 A, .int .i64 R], .int .i64 t] w fun e w' => e = .returned (.int .i64 (pdV (sP l) A R t c)) ∧ Below w.heap.size w w' := by
  have BC : Hid (Below w.heap.size w (w.alloc (.cells #[.int .i64 A, .int .i64 R] 24)) ∧ Blk w.heap.size 24 [.int .i64 A, .int .i64 R] (w.alloc (.cells #[.int .i64 A, .int .i64 R] 24))) := ⟨below_alloc w _, Blk.new 24 [.int .i64 A, .int .i64 R] w⟩
  have SO : Hid (∀ w', Below w.heap.size w w' → Calls Try.prog 24 #[v] w' fun e w2 => e = .returned (if Snd l then v else .slice none 0 0) ∧ Below w'.heap.size w' w2) := fun w' hb => rrows_at l v w' hl ok (h.later hb)
  have PA : Hid (∀ w, Calls Try.prog 38 #[.agg #[.int .i64 A, .int .i64 R]] w fun e w' => e = .returned (.int .i64 (pd A)) ∧ Below w.heap.size w w') := fun w => rpaid_at A R w
  have h2 := rd_sP h
  have h2' := h2
  obtain ⟨ao, cap, hV, -, -, -⟩ := h2
  rw [hV] at SO h2'
  have CE : Hid (∀ w', Below w.heap.size w w' → ∀ i, i < (sP l).length → ∃ g o, ao = some ⟨g, o, none⟩ ∧ w'.rangeAt g (o + i * 4) (insL (iN (sP l) i))) := h2'.cells
  have hm := Nat.le_trans (sP_len l) hl
  have hs := sP_snd l
  have BE : Hid (∀ w', Below w.heap.size w w' → Calls Try.prog 41 #[.slice ao (sP l).length cap, .int .i64 (c : Int)] w' fun e w2 => e = .returned (.int .i64 (bef (sP l) c)) ∧ Below w'.heap.size w' w2) := fun w' hb => before_at (sP l) c _ w' (by omega) hs hp.1 (h2'.later hb)
  clear hV h hl ok h2'
  generalize sP l = l at *
  have DB := snd_bef hs hp.1
  have PV : Hid (pdV l A R t c = if R ≤ 0 ∨ l.length = 0 then 0 else if (iN l (l.length - 1)).d < t then R else clampV (bef l c - pd A) R) := rfl
  have PR : Hid (c ≤ l.length ∧ ∀ j, j < l.length → ((iN l j).d < t ↔ j < c)) := hp
  have P0 := pd_ge A
  have P1 := pd_le hA
  obtain ⟨L, hL⟩ : ∃ L, l.length = L := ⟨_, rfl⟩
  rw [hL] at SO CE BE PV PR hm
  clear hL hs hp
  obtain ⟨V, HV⟩ : ∃ V, Hid (pdV l A R t c = V) := ⟨_, rfl⟩
  rw [HV.out] at PV ⊢
  by_cases c1 : R ≤ 0
  · have VV : Hid (V = 0) := PV.out.trans (by rw [if_pos (.inl c1)])
    clear PV HV
    go_enter Try.func34, Try.ntmps34
    go_wp2_with fail
    refine (SO.out _ BC.out.1).mono ?_
    rintro e w2 ⟨rfl, b2⟩
    have B2 : Hid (Below w.heap.size w w2 ∧ Blk w.heap.size 24 [.int .i64 A, .int .i64 R] w2) := ⟨below_trans BC.out.1 b2, BC.out.2.below b2⟩
    clear b2 BC SO
    have p1 := B2.out.2.cell 1 _ rfl
    go_wp2_with fail
    go_ret
    exact ⟨by rw [VV.out]; rfl, B2.out.1⟩
  by_cases c2 : L = 0
  · have VV : Hid (V = 0) := PV.out.trans (by rw [if_pos (.inr c2)])
    subst c2
    clear PV HV
    go_enter Try.func34, Try.ntmps34
    go_wp2_with fail
    refine (SO.out _ BC.out.1).mono ?_
    rintro e w2 ⟨rfl, b2⟩
    have B2 : Hid (Below w.heap.size w w2 ∧ Blk w.heap.size 24 [.int .i64 A, .int .i64 R] w2) := ⟨below_trans BC.out.1 b2, BC.out.2.below b2⟩
    clear b2 BC SO
    have p1 := B2.out.2.cell 1 _ rfl
    go_wp2_with fail
    go_ret
    exact ⟨by rw [VV.out]; rfl, B2.out.1⟩
  have hc0 : ((L : Int) == 0) = false := by simp; omega
  have pv2 := PV.out
  rw [if_neg (by omega)] at pv2
  have PW : Hid (V = if (iN l (L - 1)).d < t then R else clampV (bef l c - pd A) R) := pv2
  clear PV pv2 HV
  generalize pd A = p at *
  generalize bef l c = s at *
  have hcst : ((L - 1 : Nat) : Int) = (L : Int) - 1 := by omega
  have hi1 : (L : Int) - 1 < (L : Int) := by omega
  have hi0 : 0 ≤ (L : Int) - 1 := by omega
  have htn : ((L : Int) - 1).toNat = L - 1 := by omega
  go_enter Try.func34, Try.ntmps34
  go_wp2_with fail
  refine (SO.out _ BC.out.1).mono ?_
  rintro e w2 ⟨rfl, b2⟩
  have B2 : Hid (Below w.heap.size w w2 ∧ Blk w.heap.size 24 [.int .i64 A, .int .i64 R] w2) := ⟨below_trans BC.out.1 b2, BC.out.2.below b2⟩
  clear b2 BC SO
  have p1 := B2.out.2.cell 1 _ rfl
  obtain ⟨g, o, rfl, rg⟩ := CE.out w2 B2.out.1 (L - 1) (by omega)
  have cl : w2.cell? ⟨g, o + (L - 1) * 4, none⟩ = some (.int .i64 (iN l (L - 1)).d) := rg 0 _ rfl
  clear rg
  obtain ⟨yl, HY⟩ : ∃ y, Hid ((iN l (L - 1)).d = y) := ⟨_, rfl⟩
  rw [HY.out] at cl PW
  by_cases hd : yl < t
  · have VV : Hid (V = R) := PW.out.trans (by rw [if_pos hd])
    go_wp2_with fail
    go_ret
    exact ⟨by rw [VV.out]; rfl, B2.out.1⟩
  · have VV : Hid (V = clampV (s - p) R) := PW.out.trans (by rw [if_neg hd])
    clear PW
    go_wp2_with fail
    have CW : Hid (∀ i, i < L → w2.cell? ⟨g, o + i * 4, none⟩ = some (.int .i64 (iN l i).d)) := fun i hi => by
      obtain ⟨g', o', e', r'⟩ := CE.out w2 B2.out.1 i hi
      cases e'
      exact r' 0 _ rfl
    clear CE
    go_loopw [8] (fun vk wr => ∃ k : Nat, vk = .int .i64 (k : Int) ∧ k ≤ c ∧ wr = w2) (fun vk _ => L - (intOf vk).toNat)
    case atStart => exact ⟨0, rfl, by omega, rfl⟩
    case round =>
      obtain ⟨k, rfl, hk, hwr⟩ := hrel
      subst hwr
      by_cases hkl : (k : Int) < (L : Int)
      · have ck := CW.out k (by omega)
        have pk := PR.out.2 k (by omega)
        by_cases hkc : k < c
        · have dk := pk.2 hkc
          clear pk CW
          generalize (iN l k).d = y at *
          go_wp2_with fail
          go_roundw
          case rel => exact ⟨k + 1, by go_num, by omega, by trivial⟩
          case measure => simp [intOf]; omega
        · have dk : ¬ (iN l k).d < t := fun h => hkc (pk.1 h)
          obtain rfl : k = c := by omega
          clear pk CW
          generalize (iN l k).d = y at *
          have BC : Hid (Below w.heap.size w wr ∧ wr.cell? ⟨w.heap.size, 0, none⟩ = some (.int .i64 A) ∧ wr.cell? ⟨w.heap.size, 1, none⟩ = some (.int .i64 R)) := ⟨B2.out.1, B2.out.2.cell 0 _ rfl, B2.out.2.cell 1 _ rfl⟩
          go_wp2_with fail
          go_region_held3 (fun w' => Below w.heap.size w w' ∧ w'.cell? ⟨w.heap.size, 0, none⟩ = some (.int .i64 A) ∧ w'.cell? ⟨w.heap.size, 1, none⟩ = some (.int .i64 R)) (first | assumption | exact ⟨Below.drew BC.out.1, BC.out.2.1, BC.out.2.2⟩ | exact heldP hU (by assumption)) (first | (go_at_call 41; refine (BE.out _ (And.left (by assumption))).mono ?_; rintro e w1 ⟨rfl, hU⟩) | (go_at_call 38; refine (PA.out _).mono ?_; rintro e w1 ⟨rfl, hU⟩))
          have X1 : Below w.heap.size w w1 ∧ w1.cell? ⟨w.heap.size, 0, none⟩ = some (.int .i64 A) ∧ w1.cell? ⟨w.heap.size, 1, none⟩ = some (.int .i64 R) := by assumption
          have p2 := X1.2.2
          have XH : Hid (Below w.heap.size w w1) := X1.1
          have hw : IntKind.i64.wrap (s - p) = s - p := by simp [IntKind.wrap, IntKind.bits, IntKind.signed]; omega
          have HW : Hid (IntKind.i64.wrap (s - p) = s - p) := hw
          clear hw X1
          try rw [HW.out]
          by_cases n1 : s - p < 0
          · have V2 : Hid (V = 0) := VV.out.trans (by unfold clampV; rw [if_pos n1])
            go_wp2_with fail
            go_ret
            exact ⟨by rw [V2.out]; rfl, XH.out⟩
          by_cases n2 : R < s - p
          · have V2 : Hid (V = R) := VV.out.trans (by unfold clampV; rw [if_neg n1, if_pos n2])
            go_wp2_with fail
            go_ret
            exact ⟨by rw [V2.out]; rfl, XH.out⟩
          · have V2 : Hid (V = s - p) := VV.out.trans (by unfold clampV; rw [if_neg n1, if_neg n2])
            go_wp2_with fail
            go_ret
            exact ⟨by rw [V2.out]; rfl, XH.out⟩
      · obtain rfl : k = c := by have := PR.out.1; omega
        clear CW
        have BC : Hid (Below w.heap.size w wr ∧ wr.cell? ⟨w.heap.size, 0, none⟩ = some (.int .i64 A) ∧ wr.cell? ⟨w.heap.size, 1, none⟩ = some (.int .i64 R)) := ⟨B2.out.1, B2.out.2.cell 0 _ rfl, B2.out.2.cell 1 _ rfl⟩
        go_wp2_with fail
        go_region_held3 (fun w' => Below w.heap.size w w' ∧ w'.cell? ⟨w.heap.size, 0, none⟩ = some (.int .i64 A) ∧ w'.cell? ⟨w.heap.size, 1, none⟩ = some (.int .i64 R)) (first | assumption | exact ⟨Below.drew BC.out.1, BC.out.2.1, BC.out.2.2⟩ | exact heldP hU (by assumption)) (first | (go_at_call 41; refine (BE.out _ (And.left (by assumption))).mono ?_; rintro e w1 ⟨rfl, hU⟩) | (go_at_call 38; refine (PA.out _).mono ?_; rintro e w1 ⟨rfl, hU⟩))
        have X1 : Below w.heap.size w w1 ∧ w1.cell? ⟨w.heap.size, 0, none⟩ = some (.int .i64 A) ∧ w1.cell? ⟨w.heap.size, 1, none⟩ = some (.int .i64 R) := by assumption
        have p2 := X1.2.2
        have XH : Hid (Below w.heap.size w w1) := X1.1
        have hw : IntKind.i64.wrap (s - p) = s - p := by simp [IntKind.wrap, IntKind.bits, IntKind.signed]; omega
        have HW : Hid (IntKind.i64.wrap (s - p) = s - p) := hw
        clear hw X1
        try rw [HW.out]
        by_cases n1 : s - p < 0
        · have V2 : Hid (V = 0) := VV.out.trans (by unfold clampV; rw [if_pos n1])
          go_wp2_with fail
          go_ret
          exact ⟨by rw [V2.out]; rfl, XH.out⟩
        by_cases n2 : R < s - p
        · have V2 : Hid (V = R) := VV.out.trans (by unfold clampV; rw [if_neg n1, if_pos n2])
          go_wp2_with fail
          go_ret
          exact ⟨by rw [V2.out]; rfl, XH.out⟩
        · have V2 : Hid (V = s - p) := VV.out.trans (by unfold clampV; rw [if_neg n1, if_neg n2])
          go_wp2_with fail
          go_ret
          exact ⟨by rw [V2.out]; rfl, XH.out⟩

/-- The class of days past due. -/
def bktV (d : Int) : Int := if d ≤ 0 then 0 else if d < 30 then 1 else if d < 60 then 2 else if d < 90 then 3 else 4
theorem bucket_at (d : Int) (w : World) : Calls Try.prog 17 #[.int .i64 d] w fun e w' => e = .returned (.int .i64 (bktV d)) ∧ w' = w := by
  obtain ⟨V, HV⟩ : ∃ V, Hid (bktV d = V) := ⟨_, rfl⟩
  rw [HV.out]
  have VV : Hid (V = if d ≤ 0 then 0 else if d < 30 then 1 else if d < 60 then 2 else if d < 90 then 3 else 4) := HV.out.symm
  clear HV
  by_cases h1 : d ≤ 0
  · have V1 : Hid (V = 0) := VV.out.trans (by rw [if_pos h1])
    clear VV
    go_enter Try.func17, Try.ntmps17
    go_wp2_with fail
    go_ret
    exact ⟨by rw [V1.out]; rfl, rfl⟩
  by_cases h2 : d < 30
  · have V1 : Hid (V = 1) := VV.out.trans (by rw [if_neg h1, if_pos h2])
    clear VV
    go_enter Try.func17, Try.ntmps17
    go_wp2_with fail
    go_ret
    exact ⟨by rw [V1.out]; rfl, rfl⟩
  by_cases h3 : d < 60
  · have V1 : Hid (V = 2) := VV.out.trans (by rw [if_neg h1, if_neg h2, if_pos h3])
    clear VV
    go_enter Try.func17, Try.ntmps17
    go_wp2_with fail
    go_ret
    exact ⟨by rw [V1.out]; rfl, rfl⟩
  by_cases h4 : d < 90
  · have V1 : Hid (V = 3) := VV.out.trans (by rw [if_neg h1, if_neg h2, if_neg h3, if_pos h4])
    clear VV
    go_enter Try.func17, Try.ntmps17
    go_wp2_with fail
    go_ret
    exact ⟨by rw [V1.out]; rfl, rfl⟩
  · have V1 : Hid (V = 4) := VV.out.trans (by rw [if_neg h1, if_neg h2, if_neg h3, if_neg h4])
    clear VV
    go_enter Try.func17, Try.ntmps17
    go_wp2_with fail
    go_ret
    exact ⟨by rw [V1.out]; rfl, rfl⟩
theorem four_at (w : World) (k : Nat) (hk : k < 4) : (Instr.index 53 (.agg #[.int .i64 1, .int .i64 30, .int .i64 60, .int .i64 90]) (.int .i64 (k : Int))).run Try.prog w = .ok (.int .i64 ([1, 30, 60, 90].getD k 0)) w := by
  have hi : (Try.prog.info? 3).map (·.size) = some 1 := by kernel_rfl
  refine run_index_one 53 3 4 _ _ k _ Try.underlying53 hk Try.underlying3 rfl hi ?_ w
  match k, hk with
  | 0, _ => rfl
  | 1, _ => rfl
  | 2, _ => rfl
  | 3, _ => rfl
def cnt4 (d : Int) : Nat → Int
  | 0 => 0
  | k + 1 => cnt4 d k + (if [1, 30, 60, 90].getD k 0 ≤ d then 1 else 0)
theorem cnt4_all (d : Int) : cnt4 d 4 = bktV d := by
  have h : ([1, 30, 60, 90] : List Int).getD 0 0 = 1 ∧ ([1, 30, 60, 90] : List Int).getD 1 0 = 30 ∧ ([1, 30, 60, 90] : List Int).getD 2 0 = 60 ∧ ([1, 30, 60, 90] : List Int).getD 3 0 = 90 := ⟨rfl, rfl, rfl, rfl⟩
  simp only [cnt4, h.1, h.2.1, h.2.2.1, h.2.2.2]
  unfold bktV
  split <;> split <;> split <;> split <;> (try split) <;> (try split) <;> (try split) <;> (try split) <;> omega
theorem cnt4_b (d : Int) : ∀ k, 0 ≤ cnt4 d k ∧ cnt4 d k ≤ k
  | 0 => by simp [cnt4]
  | k + 1 => by have := cnt4_b d k; simp only [cnt4]; split <;> omega
set_option maxHeartbeats 1000000 in
theorem rbucket_at (d : Int) (w : World) : Calls Try.prog 30 #[.int .i64 d] w fun e w' => e = .returned (.int .i64 (bktV d)) ∧ w' = w := by
  obtain ⟨V, HV⟩ : ∃ V, Hid (cnt4 d 4 = V) := ⟨_, rfl⟩
  rw [← cnt4_all, HV.out]
  go_enter Try.func30, Try.ntmps30
  go_wp2_with fail
  go_loopw [3, 5, 7] (fun vb _ vk wr => ∃ k : Nat, vk = .int .i64 (k : Int) ∧ k ≤ 4 ∧ vb = .int .i64 (cnt4 d k) ∧ wr = w) (fun _ _ vk _ => 4 - (intOf vk).toNat)
  case atStart => exact ⟨0, rfl, by omega, rfl, rfl⟩
  case round =>
    obtain ⟨k, rfl, hk, rfl, hwr⟩ := hrel
    subst hwr
    by_cases hlt : (k : Int) < 4
    · have ix := fun w => four_at w k (by omega)
      have cb := cnt4_b d k
      have CS : Hid (cnt4 d (k + 1) = cnt4 d k + (if [1, 30, 60, 90].getD k 0 ≤ d then 1 else 0)) := rfl
      generalize ([1, 30, 60, 90] : List Int).getD k 0 = y at *
      generalize hc : cnt4 d k = q at *
      obtain ⟨cb1, cb2⟩ := cb
      clear hc
      by_cases hy : y ≤ d
      · have CS2 : Hid (cnt4 d (k + 1) = q + 1) := by show _ = _; rw [CS.out, if_pos hy]
        go_wp2_with fail
        go_roundw
        case rel => exact ⟨k + 1, by go_num, by omega, by rw [CS2.out], by trivial⟩
        case measure => simp [intOf]; omega
      · have CS2 : Hid (cnt4 d (k + 1) = q) := by show _ = _; rw [CS.out, if_neg hy, Int.add_zero]
        go_wp2_with fail
        go_roundw
        case rel => exact ⟨k + 1, by go_num, by omega, by rw [CS2.out], by trivial⟩
        case measure => simp [intOf]; omega
    · obtain rfl : k = 4 := by omega
      rw [HV.out]
      go_wp2_with fail
      go_ret
      exact ⟨rfl, rfl⟩
end Go.Proofs.Ytekejcpgoijoaab
