/-
  Ours: the reference's rows, satisfied, Satisfied, Oldest, Days, late, paid.
-/
import Derived.Test.YtekejcpgoijoaabAgOld
import Derived.Test.YtekejcpgoijoaabAgLaw
namespace Go.Proofs.Ytekejcpgoijoaab
open Go.RowKit LedM AgM

theorem rpaid_at (A R : Int) (w : World) : Calls Try.prog 38 #[.agg #[.int .i64 A, .int .i64 R]] w fun e w' => e = .returned (.int .i64 (pd A)) ∧ Below w.heap.size w w' := by
  by_cases h : A < 0
  · have e : pd A = 0 := by simp [pd, h]
    rw [e]
    go_enter Try.func38, Try.ntmps38
    go_wp2_with fail
    go_ret
    exact ⟨rfl, below_alloc w _⟩
  · have e : pd A = A := by simp [pd, h]
    rw [e]
    go_enter Try.func38, Try.ntmps38
    go_wp2_with fail
    go_ret
    exact ⟨rfl, below_alloc w _⟩
theorem rlate_at (x : Ins) (t : Int) (w : World) (h0 : 1 ≤ x.d) (ht : t ≤ 9223372036854775807) : Calls Try.prog 23 #[.agg (insL x).toArray, .int .i64 t] w fun e w' => e = .returned (.int .i64 (ltD x.d t)) ∧ Below w.heap.size w w' := by
  obtain ⟨d, i, p, m⟩ := x
  have h0 : 1 ≤ d := h0
  show Calls _ _ #[.agg #[.int .i64 d, .int .i64 i, .int .i64 p, .bool m], _] _ fun e w' => e = .returned (.int .i64 (ltD d t)) ∧ _
  by_cases h : t ≤ d
  · have e : ltD d t = 0 := by simp [ltD, h]
    rw [e]
    go_enter Try.func23, Try.ntmps23
    go_wp2_with fail
    go_ret
    exact ⟨rfl, below_alloc w _⟩
  · have e : ltD d t = t - d := by simp [ltD, h]
    rw [e]
    go_enter Try.func23, Try.ntmps23
    go_wp2_with fail
    go_ret
    exact ⟨rfl, below_alloc w _⟩


theorem rrows_at (l : List Ins) (v : Value) (w : World) (hl : l.length ≤ 1000000) (ok : ∀ x ∈ l, InsOk x) (h : RdP w v l) :
    Calls Try.prog 24 #[v] w fun e w' => e = .returned (if Snd l then v else .slice none 0 0) ∧ Below w.heap.size w w' := by
  have SO : Hid (Calls Try.prog 37 #[v] w fun e w' => e = .returned (.bool (Snd l)) ∧ Below w.heap.size w w') := rsound_at l v w hl ok h
  clear h ok
  generalize Snd l = b at *
  cases b
  · show Calls _ _ _ _ fun e w' => e = .returned (.slice none 0 0) ∧ _
    go_enter Try.func24, Try.ntmps24
    go_wp2_with fail
    refine SO.out.mono ?_
    rintro e w2 ⟨rfl, b2⟩
    have B2 : Hid (Below w.heap.size w w2) := b2
    clear b2 SO
    go_wp2_with fail
    go_ret
    exact ⟨rfl, B2.out⟩
  · show Calls _ _ _ _ fun e w' => e = .returned v ∧ _
    go_enter Try.func24, Try.ntmps24
    go_wp2_with fail
    refine SO.out.mono ?_
    rintro e w2 ⟨rfl, b2⟩
    have B2 : Hid (Below w.heap.size w w2) := b2
    clear b2 SO
    go_wp2_with fail
    go_ret
    exact ⟨rfl, B2.out⟩

set_option maxRecDepth 20000 in
set_option maxHeartbeats 2000000 in
theorem rsat_at (l : List Ins) (A R : Int) (n : Nat) (v : Value) (w : World) (hl : l.length ≤ 1000000000) (hA : i64 A) (hs : Snd l = true) (hn : SatF l A R n) (h : RdP w v l) :
    Calls Try.prog 25 #[v, .agg #[.int .i64 A, .int .i64 R]] w fun e w' => e = .returned (.int .i64 (n : Int)) ∧ Below w.heap.size w w' := by
  have h' := h
  obtain ⟨ao, cap, rfl, hcap, hno, -⟩ := h
  have CE : Hid (∀ w', Below w.heap.size w w' → ∀ i, i < l.length → ∃ g o, ao = some ⟨g, o, none⟩ ∧ w'.rangeAt g (o + i * 4) (insL (iN l i))) := h'.cells
  have PA : Hid (∀ w, Calls Try.prog 38 #[.agg #[.int .i64 A, .int .i64 R]] w fun e w' => e = .returned (.int .i64 (pd A)) ∧ Below w.heap.size w w') := fun w => rpaid_at A R w
  have BA : Hid (Below w.heap.size w (w.alloc (.cells #[.int .i64 A, .int .i64 R] 24)) ∧ Blk w.heap.size 24 [.int .i64 A, .int .i64 R] (w.alloc (.cells #[.int .i64 A, .int .i64 R] 24))) := ⟨below_alloc w _, Blk.new 24 [.int .i64 A, .int .i64 R] w⟩
  have RW : Hid (∀ k, k < l.length → 0 ≤ (iN l k).i ∧ 0 ≤ (iN l k).p ∧ 0 ≤ bef l k ∧ bef l k + (iN l k).i + (iN l k).p ≤ 9223372036854775807 ∧ bef l (k + 1) = bef l k + (iN l k).i + (iN l k).p) := fun k hk => by
    have h1 := snd_row hs hk
    have h2 := (snd_bef hs (k := k) (by omega)).1
    have h3 := (snd_bef hs (k := k + 1) (by omega)).2
    have h4 := bef_succ hk
    omega
  obtain ⟨L, hL⟩ : ∃ L, l.length = L := ⟨_, rfl⟩
  by_cases c1 : R ≤ 0
  · obtain rfl : n = l.length := by unfold SatF at hn; rwa [if_pos (.inl c1)] at hn
    rw [hL]
    rw [hL] at hcap hl
    clear hn hs CE PA RW h'
    go_enter Try.func25, Try.ntmps25
    go_wp2_with fail
    go_ret
    exact ⟨rfl, BA.out.1⟩
  have IFF : Hid (∀ j, j < L → (bef l j ≤ pd A ↔ j ≤ n)) := fun j hj => by
    have hn1 := hn.lt.2 ⟨by omega, by omega⟩
    exact (hn.sat hn1).iff hs (by omega)
  have hnl : L = 0 → n = 0 := fun h0 => by have := hn.le; omega
  have hnl2 : 0 < L → n < L := fun h0 => by have := hn.lt.2 ⟨by omega, by omega⟩; omega
  have HNL : Hid ((L = 0 → n = 0) ∧ (0 < L → n < L)) := ⟨hnl, hnl2⟩
  have P0 : 0 ≤ pd A := pd_ge A
  have P1 := pd_le hA
  rw [hL] at hcap hl CE RW ⊢
  clear hn hs h' hL hnl hnl2
  generalize pd A = p at *
  go_enter Try.func25, Try.ntmps25
  go_wp2_with fail
  generalize w.alloc (.cells #[.int .i64 A, .int .i64 R] 24) = w1 at *
  go_loopw [5, 6, 7] (fun vn vs vk wr => ∃ k q : Nat, vk = .int .i64 (k : Int) ∧ (k = 0 ∨ k + 1 ≤ L) ∧ vs = .int .i64 (bef l k) ∧ vn = .int .i64 (q : Int) ∧ Hid (q = min k n) ∧ Hid (Below w.heap.size w wr ∧ Blk w.heap.size 24 [.int .i64 A, .int .i64 R] wr)) (fun _ _ vk _ => L - (intOf vk).toNat)
  case atStart => exact ⟨0, 0, rfl, .inl rfl, by rw [bef_zero], rfl, by show _ = _; omega, BA.out⟩
  case round =>
    obtain ⟨k, q, rfl, hk, rfl, rfl, QE, BB⟩ := hrel
    by_cases hlt : (k : Int) + 1 < (L : Int)
    · obtain ⟨g, o, rfl, rg⟩ := CE.out wr BB.out.1 k (by omega)
      have x1 : wr.cell? ⟨g, o + k * 4 + 1, none⟩ = some (.int .i64 (iN l k).i) := rg 1 _ rfl
      have x2 : wr.cell? ⟨g, o + k * 4 + 2, none⟩ = some (.int .i64 (iN l k).p) := rg 2 _ rfl
      obtain ⟨r1, r2, r3, r4, r5⟩ := RW.out k (by omega)
      have iff1 := IFF.out (k + 1) (by omega)
      rw [r5] at iff1
      have R5 : Hid (bef l (k + 1) = bef l k + (iN l k).i + (iN l k).p) := r5
      clear rg RW CE r5
      generalize (iN l k).i = xi at *
      generalize (iN l k).p = xp at *
      generalize bef l k = b at *
      have hw1 : IntKind.i64.wrap (b + xi) = b + xi := by simp [IntKind.wrap, IntKind.bits, IntKind.signed]; omega
      have hw2 : IntKind.i64.wrap (b + xi + xp) = b + xi + xp := by simp [IntKind.wrap, IntKind.bits, IntKind.signed]; omega
      have IF1 : Hid (b + xi + xp ≤ p ↔ k + 1 ≤ n) := iff1
      have kl : (k : Int) < (L : Int) := by omega
      clear iff1
      go_wp2_with fail
      go_quiet (fail)
      have BQ : Hid (Below w.heap.size w (wr.drewN nq) ∧ Blk w.heap.size 24 [.int .i64 A, .int .i64 R] (wr.drewN nq)) := ⟨below_drewN BB.out.1 _, BB.out.2.drewN _⟩
      clear BB x1 x2
      generalize wr.drewN nq = wq at *
      have p0 := BQ.out.2.cell 0 _ rfl
      have p1 := BQ.out.2.cell 1 _ rfl
      go_wp2_with fail
      refine (PA.out _).mono ?_
      rintro e w4 ⟨rfl, b4⟩
      have B4 : Hid (Below w.heap.size w w4 ∧ Blk w.heap.size 24 [.int .i64 A, .int .i64 R] w4) := ⟨below_trans BQ.out.1 b4, BQ.out.2.below b4⟩
      clear b4 BQ p0 p1
      by_cases hq : b + xi + xp ≤ p
      · have Q2 : Hid (k + 1 = min (k + 1) n) := by show _ = _; have := IF1.out.1 hq; omega
        go_wp2_with fail
        go_roundw
        case rel => exact ⟨k + 1, k + 1, by go_num, .inr (by omega), by rw [R5.out], by go_num, Q2.out, B4.out⟩
        case measure => simp [intOf]; omega
      · have Q2 : Hid (q = min (k + 1) n) := by show _ = _; have := IF1.out; have := QE.out; omega
        go_wp2_with fail
        go_roundw
        case rel => exact ⟨k + 1, q, by go_num, .inr (by omega), by rw [R5.out], rfl, Q2.out, B4.out⟩
        case measure => simp [intOf]; omega
    · obtain rfl : q = n := by have := QE.out; have := HNL.out; omega
      clear CE RW IFF
      go_wp2_with fail
      go_ret
      exact ⟨rfl, BB.out.1⟩

set_option maxRecDepth 20000 in
set_option maxHeartbeats 2000000 in
theorem rsatisfied_at (l : List Ins) (A R : Int) (n : Nat) (v : Value) (w : World) (hl : l.length ≤ 1000000) (ok : ∀ x ∈ l, InsOk x) (hA : i64 A) (hn : SatF (sP l) A R n) (h : RdP w v l) :
    Calls Try.prog 29 #[v, .agg #[.int .i64 A, .int .i64 R]] w fun e w' => e = .returned (.int .i64 (n : Int)) ∧ Below w.heap.size w w' := by
  have BA : Hid (Below w.heap.size w (w.alloc (.cells #[.int .i64 A, .int .i64 R] 24))) := below_alloc w _
  have NP : Hid (Blk w.heap.size 24 [.int .i64 A, .int .i64 R] (w.alloc (.cells #[.int .i64 A, .int .i64 R] 24))) := Blk.new 24 [.int .i64 A, .int .i64 R] w
  have SO : Hid (∀ w', Below w.heap.size w w' → Calls Try.prog 24 #[v] w' fun e w2 => e = .returned (if Snd l then v else .slice none 0 0) ∧ Below w'.heap.size w' w2) := fun w' hb => rrows_at l v w' hl ok (h.later hb)
  have ST : Hid (∀ w', Below w.heap.size w w' → Calls Try.prog 25 #[if Snd l then v else .slice none 0 0, .agg #[.int .i64 A, .int .i64 R]] w' fun e w2 => e = .returned (.int .i64 (n : Int)) ∧ Below w'.heap.size w' w2) := fun w' hb => rsat_at (sP l) A R n _ w' (Nat.le_trans (Nat.le_trans (sP_len l) hl) (by omega)) hA (sP_snd l) hn (rd_sP (h.later hb))
  obtain ⟨V, hV⟩ : ∃ V, (if Snd l then v else .slice none 0 0) = V := ⟨_, rfl⟩
  rw [hV] at SO ST
  clear hV hn h
  go_enter Try.func29, Try.ntmps29
  go_wp2_with fail
  have BC : Hid (Below w.heap.size w (w.alloc (.cells #[.int .i64 A, .int .i64 R] 24)) ∧ (w.alloc (.cells #[.int .i64 A, .int .i64 R] 24)).cell? ⟨w.heap.size, 0, none⟩ = some (.int .i64 A) ∧ (w.alloc (.cells #[.int .i64 A, .int .i64 R] 24)).cell? ⟨w.heap.size, 1, none⟩ = some (.int .i64 R)) := ⟨BA.out, NP.out.cell 0 _ rfl, NP.out.cell 1 _ rfl⟩
  clear BA NP
  generalize w.alloc (.cells #[.int .i64 A, .int .i64 R] 24) = w1 at *
  go_region_held3 (fun w' => Below w.heap.size w w' ∧ w'.cell? ⟨w.heap.size, 0, none⟩ = some (.int .i64 A) ∧ w'.cell? ⟨w.heap.size, 1, none⟩ = some (.int .i64 R)) (first | exact ⟨Below.drew BC.out.1, BC.out.2.1, BC.out.2.2⟩ | exact heldP hU (by assumption)) (first | (go_at_call 24; refine (SO.out _ (And.left (by assumption))).mono ?_; rintro e w1 ⟨rfl, hU⟩) | (go_at_call 25; refine (ST.out _ (And.left (by assumption))).mono ?_; rintro e w1 ⟨rfl, hU⟩))
  go_wp2_with fail
  go_ret
  exact ⟨rfl, And.left (by assumption)⟩

set_option maxRecDepth 20000 in
set_option maxHeartbeats 2000000 in
theorem roldest_at (l : List Ins) (A R : Int) (n : Nat) (v : Value) (w : World) (hl : l.length ≤ 1000000) (ok : ∀ x ∈ l, InsOk x) (hA : i64 A) (hn : SatF (sP l) A R n) (h : RdP w v l) :
    Calls Try.prog 22 #[v, .agg #[.int .i64 A, .int .i64 R]] w fun e w' => e = .returned (.tuple #[.int .i64 (oldK n (sP l).length), .bool (oldB n (sP l).length)]) ∧ Below w.heap.size w w' := by
  have BC : Hid (Below w.heap.size w (w.alloc (.cells #[.int .i64 A, .int .i64 R] 24)) ∧ Blk w.heap.size 24 [.int .i64 A, .int .i64 R] (w.alloc (.cells #[.int .i64 A, .int .i64 R] 24))) := ⟨below_alloc w _, Blk.new 24 [.int .i64 A, .int .i64 R] w⟩
  have SO : Hid (∀ w', Below w.heap.size w w' → Calls Try.prog 24 #[v] w' fun e w2 => e = .returned (if Snd l then v else .slice none 0 0) ∧ Below w'.heap.size w' w2) := fun w' hb => rrows_at l v w' hl ok (h.later hb)
  have ST : Hid (∀ w', Below w.heap.size w w' → Calls Try.prog 25 #[if Snd l then v else .slice none 0 0, .agg #[.int .i64 A, .int .i64 R]] w' fun e w2 => e = .returned (.int .i64 (n : Int)) ∧ Below w'.heap.size w' w2) := fun w' hb => rsat_at (sP l) A R n _ w' (Nat.le_trans (Nat.le_trans (sP_len l) hl) (by omega)) hA (sP_snd l) hn (rd_sP (h.later hb))
  obtain ⟨ao, cap, hV, -, -, -⟩ := rd_sP h
  rw [hV] at SO ST
  have hm := Nat.le_trans (sP_len l) hl
  have hnm := hn.le
  clear hV hn h hl ok
  generalize (sP l).length = m at *
  obtain ⟨K, HK⟩ : ∃ K, Hid (oldK n m = K) := ⟨_, rfl⟩
  obtain ⟨B, HB⟩ : ∃ B, Hid (oldB n m = B) := ⟨_, rfl⟩
  rw [HK.out, HB.out]
  go_enter Try.func22, Try.ntmps22
  go_wp2_with fail
  refine (SO.out _ BC.out.1).mono ?_
  rintro e w2 ⟨rfl, b2⟩
  have B2 : Hid (Below w.heap.size w w2 ∧ Blk w.heap.size 24 [.int .i64 A, .int .i64 R] w2) := ⟨below_trans BC.out.1 b2, BC.out.2.below b2⟩
  clear b2 BC SO
  have p0 := B2.out.2.cell 0 _ rfl
  have p1 := B2.out.2.cell 1 _ rfl
  go_wp2_with fail
  refine (ST.out _ B2.out.1).mono ?_
  rintro e w3 ⟨rfl, b3⟩
  have B3 : Hid (Below w.heap.size w w3) := below_trans B2.out.1 b3
  clear b3 B2 p0 p1 ST
  by_cases e : n = m
  · subst e
    have e1 : oldK n n = 0 := by simp [oldK]
    have e2 : oldB n n = false := by simp [oldB]
    have E1 : Hid (0 = K) := e1.symm.trans HK.out
    have E2 : Hid (false = B) := e2.symm.trans HB.out
    clear e1 e2
    have e3 : (n : Int) ≤ (n : Int) := Int.le_refl _
    go_wp2_with fail
    go_ret2
    exact ⟨ret_vk E1.out E2.out, B3.out⟩
  · have e1 : oldK n m = n := by simp [oldK, e]
    have e2 : oldB n m = true := by simp [oldB, e]
    have E1 : Hid ((n : Int) = K) := e1.symm.trans HK.out
    have E2 : Hid (true = B) := e2.symm.trans HB.out
    clear e1 e2
    have e3 : ¬ (m : Int) ≤ (n : Int) := by omega
    go_wp2_with fail
    go_ret2
    exact ⟨ret_vk E1.out E2.out, B3.out⟩


set_option maxRecDepth 20000 in
set_option maxHeartbeats 2000000 in
theorem rdays_at (l : List Ins) (A R t : Int) (n : Nat) (v : Value) (w : World) (hl : l.length ≤ 1000000) (ok : ∀ x ∈ l, InsOk x) (hA : i64 A) (ht : i64 t) (hn : SatF (sP l) A R n) (h : RdP w v l) :
    Calls Try.prog 32 #[v, .agg #[.int .i64 A, .int .i64 R], .int .i64 t] w fun e w' => e = .returned (.int .i64 (daysV l n t)) ∧ Below w.heap.size w w' := by
  have BC : Hid (Below w.heap.size w (w.alloc (.cells #[.int .i64 A, .int .i64 R] 24)) ∧ Blk w.heap.size 24 [.int .i64 A, .int .i64 R] (w.alloc (.cells #[.int .i64 A, .int .i64 R] 24))) := ⟨below_alloc w _, Blk.new 24 [.int .i64 A, .int .i64 R] w⟩
  have OL : Hid (∀ w', Below w.heap.size w w' → Calls Try.prog 22 #[v, .agg #[.int .i64 A, .int .i64 R]] w' fun e w2 => e = .returned (.tuple #[.int .i64 (oldK n (sP l).length), .bool (oldB n (sP l).length)]) ∧ Below w'.heap.size w' w2) := fun w' hb => roldest_at l A R n v w' hl ok hA hn (h.later hb)
  have hle := hn.le
  by_cases c : n < (sP l).length
  · have e0 : daysV l n t = ltD (iN l n).d t := by simp [daysV, c]
    have e1 : oldK n (sP l).length = n := by simp [oldK]; omega
    have e2 : oldB n (sP l).length = true := by simp [oldB]; omega
    obtain ⟨hs, hlt, -⟩ := old_in c
    have LA : Hid (∀ w, Calls Try.prog 23 #[.agg (insL (iN l n)).toArray, .int .i64 t] w fun e w' => e = .returned (.int .i64 (ltD (iN l n).d t)) ∧ Below w.heap.size w w') := fun w => rlate_at _ t w (snd_row hs hlt).1 ht.2
    rw [e1, e2] at OL
    rw [e0]
    have h' := h
    obtain ⟨ao, cap, rfl, -, -, -⟩ := h
    have CE : Hid (∀ w', Below w.heap.size w w' → ∀ i, i < l.length → ∃ g o, ao = some ⟨g, o, none⟩ ∧ w'.rangeAt g (o + i * 4) (insL (iN l i))) := h'.cells
    generalize l.length = L at *
    have hlt' : (n : Int) < (L : Int) := by omega
    clear h' hs e0 e1 e2 hn ok hle c
    obtain ⟨x, HX⟩ : ∃ x, Hid (iN l n = x) := ⟨_, rfl⟩
    rw [HX.out] at LA ⊢
    go_enter Try.func32, Try.ntmps32
    go_wp2_with fail
    refine (OL.out _ BC.out.1).mono ?_
    rintro e w2 ⟨rfl, b2⟩
    have B2 : Hid (Below w.heap.size w w2) := below_trans BC.out.1 b2
    obtain ⟨g, o, rfl, rg⟩ := CE.out w2 B2.out n hlt
    rw [HX.out] at rg
    have RG : Hid (w2.rangeAt g (o + n * 4) (insL x)) := rg
    clear b2 BC rg CE OL
    go_wp2_with (refine step_load rfl 32 _ rfl g (o + n * 4) rfl (insL x) _ RG.out Try.underlying32 rfl (infoI _) ?_)
    refine (LA.out _).mono ?_
    rintro e w3 ⟨rfl, b3⟩
    have B3 : Hid (Below w.heap.size w w3) := below_trans B2.out b3
    clear b3 B2 RG
    go_wp2_with fail
    go_ret
    exact ⟨rfl, B3.out⟩
  · have e0 : daysV l n t = 0 := by simp [daysV, c]
    have e1 : oldK n (sP l).length = 0 := by simp [oldK]; omega
    have e2 : oldB n (sP l).length = false := by simp [oldB]; omega
    rw [e1, e2] at OL
    rw [e0]
    clear h hn ok
    go_enter Try.func32, Try.ntmps32
    go_wp2_with fail
    refine (OL.out _ BC.out.1).mono ?_
    rintro e w2 ⟨rfl, b2⟩
    have B2 : Hid (Below w.heap.size w w2) := below_trans BC.out.1 b2
    clear b2 BC OL
    go_wp2_with fail
    go_ret
    exact ⟨rfl, B2.out⟩

end Go.Proofs.Ytekejcpgoijoaab
