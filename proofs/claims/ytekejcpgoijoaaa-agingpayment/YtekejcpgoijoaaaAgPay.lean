/-
  Ours: the walk of AgingPayment.
-/
import Derived.Test.YtekejcpgoijoaaaAgM2
import Derived.Test.YtekejcpgoijoaaaAgPast
import Derived.Test.YtekejcpgoijoaaaAgLaw
namespace Go.Proofs.Ytekejcpgoijoaaa
open Go.RowKit LedM AgM

namespace AgM
theorem pay_sat {l : List Ins} {A R A' R' : Int} {n n' : Nat} (hs : Snd l = true) (hA : A ≤ A') (hR : R' ≤ R) (hn : SatF l A R n) (hn' : SatF l A' R' n') : n ≤ n' := by
  by_cases h' : n' < l.length
  · have h1 := hn'.lt.1 h'
    have h2 := hn.lt.2 ⟨by omega, h1.2⟩
    have s1 := hn.sat h2
    have s2 := hn'.sat h'
    refine (s2.iff hs h2).1 ?_
    have := s1.2.1
    have : pd A ≤ pd A' := by unfold pd; split <;> split <;> omega
    omega
  · have := hn.le; have := hn'.le; omega
theorem pay_days {l : List Ins} {A R A' R' t : Int} {n n' : Nat} (hs : Snd l = true) (hA : A ≤ A') (hR : R' ≤ R) (hn : SatF l A R n) (hn' : SatF l A' R' n') : daysV l n' t ≤ daysV l n t := by
  have hnn := pay_sat hs hA hR hn hn'
  unfold daysV
  rw [sP_yes hs]
  by_cases h' : n' < l.length
  · rw [if_pos h', if_pos (by omega)]
    have : (iN l n).d ≤ (iN l n').d := by
      by_cases e : n = n'
      · subst e; exact Int.le_refl _
      · exact Int.le_of_lt (snd_rise hs (by omega) h')
    unfold ltD; split <;> split <;> omega
  · rw [if_neg h']; split
    · exact ltD_ge _ _
    · exact Int.le_refl _
theorem pay_past {l : List Ins} {A R A' R' t : Int} {c : Nat} (hA : A ≤ A') (hR : R' ≤ R) : pdV l A' R' t c ≤ pdV l A R t c := by
  have hpd : pd A ≤ pd A' := by unfold pd; split <;> split <;> omega
  by_cases h0 : l.length = 0
  · unfold pdV; rw [if_pos (.inr h0), if_pos (.inr h0)]; exact Int.le_refl _
  · by_cases h1 : R ≤ 0
    · unfold pdV; rw [if_pos (.inl (by omega)), if_pos (.inl h1)]; exact Int.le_refl _
    · rw [pdV_in (R := R) (by omega) (by omega)]
      by_cases h2 : R' ≤ 0
      · unfold pdV; rw [if_pos (.inl h2)]; split
        · omega
        · exact clampV_ge (by omega)
      · rw [pdV_in (by omega) (by omega)]
        split
        · exact hR
        · exact clampV_mono (by omega) hR (by omega)
end AgM
theorem heldP4 {W w1 w2 : World} {Q G : Nat} {A R A' R' : Int} (b : Below w1.heap.size w1 w2) (h : Below W.heap.size W w1 ∧ w1.cell? ⟨Q, 0, none⟩ = some (.int .i64 A) ∧ w1.cell? ⟨Q, 1, none⟩ = some (.int .i64 R) ∧ w1.cell? ⟨G, 0, none⟩ = some (.int .i64 A') ∧ w1.cell? ⟨G, 1, none⟩ = some (.int .i64 R')) :
    Below W.heap.size W w2 ∧ w2.cell? ⟨Q, 0, none⟩ = some (.int .i64 A) ∧ w2.cell? ⟨Q, 1, none⟩ = some (.int .i64 R) ∧ w2.cell? ⟨G, 0, none⟩ = some (.int .i64 A') ∧ w2.cell? ⟨G, 1, none⟩ = some (.int .i64 R') :=
  ⟨below_trans h.1 b, (b.cell (p := ⟨Q, 0, none⟩) (World.block_lt_of_cell? _ _ h.2.1)).trans h.2.1, (b.cell (p := ⟨Q, 1, none⟩) (World.block_lt_of_cell? _ _ h.2.2.1)).trans h.2.2.1, (b.cell (p := ⟨G, 0, none⟩) (World.block_lt_of_cell? _ _ h.2.2.2.1)).trans h.2.2.2.1, (b.cell (p := ⟨G, 1, none⟩) (World.block_lt_of_cell? _ _ h.2.2.2.2)).trans h.2.2.2.2⟩

theorem put_more {w w3 : World} {G : Nat} {A R x y u : Int} {T : TypeId} (hG : w.heap.size < G) (h : Blk G T [.int .i64 x, .int .i64 y] w3 ∧ (Below w.heap.size w w3 ∧ w3.cell? ⟨w.heap.size, 0, none⟩ = some (.int .i64 A) ∧ w3.cell? ⟨w.heap.size, 1, none⟩ = some (.int .i64 R))) :
    Blk G T [.int .i64 x, .int .i64 u] (w3.setCell ⟨G, 1, none⟩ (.int .i64 u)) ∧ (Below w.heap.size w (w3.setCell ⟨G, 1, none⟩ (.int .i64 u)) ∧ (w3.setCell ⟨G, 1, none⟩ (.int .i64 u)).cell? ⟨w.heap.size, 0, none⟩ = some (.int .i64 A) ∧ (w3.setCell ⟨G, 1, none⟩ (.int .i64 u)).cell? ⟨w.heap.size, 1, none⟩ = some (.int .i64 R)) := by
  obtain ⟨b, hb, c0, c1⟩ := h
  refine ⟨b.set (i := 1) _, below_row hb (setCell_grown w3 G 1 _) (Nat.le_of_lt hG), ?_, ?_⟩
  · rw [World.cell?_setCell_far _ _ _ _ (by simp; omega)]; exact c0
  · rw [World.cell?_setCell_far _ _ _ _ (by simp; omega)]; exact c1

set_option maxRecDepth 20000 in
set_option maxHeartbeats 4000000 in
theorem pay_any (l : List Ins) (A R a t : Int) (v : Value) (w : World) (ok : ∀ x ∈ l, InsOk x) (hA : i64 A) (hR : i64 R) (ht : i64 t) (h : RdP w v l) :
    Calls Try.prog 7 #[v, .agg #[.int .i64 A, .int .i64 R], .int .i64 a, .int .i64 t] w fun e w' => e = .returned (.bool true) ∧ Below w.heap.size w w' := by
  have BC : Hid (Below w.heap.size w (w.alloc (.cells #[.int .i64 A, .int .i64 R] 24)) ∧ (w.alloc (.cells #[.int .i64 A, .int .i64 R] 24)).cell? ⟨w.heap.size, 0, none⟩ = some (.int .i64 A) ∧ (w.alloc (.cells #[.int .i64 A, .int .i64 R] 24)).cell? ⟨w.heap.size, 1, none⟩ = some (.int .i64 R)) := ⟨below_alloc w _, (Blk.new 24 [.int .i64 A, .int .i64 R] w).cell 0 _ rfl, (Blk.new 24 [.int .i64 A, .int .i64 R] w).cell 1 _ rfl⟩
  have SL : Hid (∀ w', Below w.heap.size w w' → Calls Try.prog 9 #[v] w' fun e w2 => e = .returned (.bool (decide (0 < l.length ∧ l.length ≤ 400 ∧ Snd l = true))) ∧ Below w'.heap.size w' w2) := fun w' hb => soundL_at l v w' ok (h.later hb)
  by_cases hc : 0 < l.length ∧ l.length ≤ 400 ∧ Snd l = true
  case neg =>
    rw [decide_eq_false hc] at SL
    clear hc h ok
    go_enter Try.func7, Try.ntmps7
    go_wp2_with fail
    refine (SL.out _ BC.out.1).mono ?_
    rintro e w2 ⟨rfl, b2⟩
    have B2 : Hid (Below w.heap.size w w2 ∧ w2.cell? ⟨w.heap.size, 0, none⟩ = some (.int .i64 A) ∧ w2.cell? ⟨w.heap.size, 1, none⟩ = some (.int .i64 R)) := heldP b2 BC.out
    have p0 := B2.out.2.1
    have p1 := B2.out.2.2
    clear b2 BC SL
    go_wp2_with fail
    go_ret
    exact ⟨rfl, B2.out.1⟩
  case pos =>
    rw [decide_eq_true hc] at SL
    obtain ⟨l0, l4, hs⟩ := hc
    by_cases c0 : a < 0
    · clear h ok hs
      go_enter Try.func7, Try.ntmps7
      go_wp2_with fail
      refine (SL.out _ BC.out.1).mono ?_
      rintro e w2 ⟨rfl, b2⟩
      have B2 : Hid (Below w.heap.size w w2 ∧ w2.cell? ⟨w.heap.size, 0, none⟩ = some (.int .i64 A) ∧ w2.cell? ⟨w.heap.size, 1, none⟩ = some (.int .i64 R)) := heldP b2 BC.out
      have p0 := B2.out.2.1
      have p1 := B2.out.2.2
      clear b2 BC SL
      go_wp2_with fail
      go_ret
      exact ⟨rfl, B2.out.1⟩
    by_cases c1 : A < 0
    · clear h ok hs
      go_enter Try.func7, Try.ntmps7
      go_wp2_with fail
      refine (SL.out _ BC.out.1).mono ?_
      rintro e w2 ⟨rfl, b2⟩
      have B2 : Hid (Below w.heap.size w w2 ∧ w2.cell? ⟨w.heap.size, 0, none⟩ = some (.int .i64 A) ∧ w2.cell? ⟨w.heap.size, 1, none⟩ = some (.int .i64 R)) := heldP b2 BC.out
      have p0 := B2.out.2.1
      have p1 := B2.out.2.2
      clear b2 BC SL
      go_wp2_with fail
      go_ret
      exact ⟨rfl, B2.out.1⟩
    by_cases c2 : 4611686018427387904 < A
    · clear h ok hs
      go_enter Try.func7, Try.ntmps7
      go_wp2_with fail
      refine (SL.out _ BC.out.1).mono ?_
      rintro e w2 ⟨rfl, b2⟩
      have B2 : Hid (Below w.heap.size w w2 ∧ w2.cell? ⟨w.heap.size, 0, none⟩ = some (.int .i64 A) ∧ w2.cell? ⟨w.heap.size, 1, none⟩ = some (.int .i64 R)) := heldP b2 BC.out
      have p0 := B2.out.2.1
      have p1 := B2.out.2.2
      clear b2 BC SL
      go_wp2_with fail
      go_ret
      exact ⟨rfl, B2.out.1⟩
    by_cases c3 : 2305843009213693952 < a
    · clear h ok hs
      go_enter Try.func7, Try.ntmps7
      go_wp2_with fail
      refine (SL.out _ BC.out.1).mono ?_
      rintro e w2 ⟨rfl, b2⟩
      have B2 : Hid (Below w.heap.size w w2 ∧ w2.cell? ⟨w.heap.size, 0, none⟩ = some (.int .i64 A) ∧ w2.cell? ⟨w.heap.size, 1, none⟩ = some (.int .i64 R)) := heldP b2 BC.out
      have p0 := B2.out.2.1
      have p1 := B2.out.2.2
      clear b2 BC SL
      go_wp2_with fail
      go_ret
      exact ⟨rfl, B2.out.1⟩
    obtain ⟨R', hR'⟩ : ∃ R', (if R < a then (if R < 0 then R else 0) else R - a) = R' := ⟨_, rfl⟩
    have hRR : R' ≤ R := by rw [← hR']; split; split <;> omega; omega
    have hA' : i64 (A + a) := ⟨by omega, by omega⟩
    obtain ⟨n, hn⟩ := SatF.ex l A R
    obtain ⟨n', hn'⟩ := SatF.ex l (A + a) R'
    have hn0 : SatF l A 0 l.length := by unfold SatF; rw [if_pos (.inl (by omega))]
    obtain ⟨c, hp⟩ := Pre.ex hs t
    have f1 := pay_sat hs (by omega) hRR hn hn'
    have f2 := pay_days (t := t) hs (by omega) hRR hn hn'
    have f3 := pay_past (l := l) (A := A) (A' := A + a) (t := t) (c := c) (by omega) hRR
    have CP : Hid (∀ w', Below w.heap.size w w' → Calls Try.prog 11 #[v] w' fun e w2 => ∃ v', e = .returned v' ∧ RowP w'.heap.size w2 v' l ∧ Below w'.heap.size w' w2) := fun w' hb => copied_at l v w' (by omega) (h.later hb)
    have SA : Hid (∀ (A1 R1 s : Int) v' w', ((A1 = A ∧ R1 = R ∧ s = (n : Int)) ∨ (A1 = A + a ∧ R1 = R' ∧ s = (n' : Int)) ∨ (A1 = A ∧ R1 = 0 ∧ s = (l.length : Int))) → RdP w' v' l → Calls Try.prog 10 #[v', .agg #[.int .i64 A1, .int .i64 R1]] w' fun e w2 => e = .returned (.int .i64 s) ∧ Below w'.heap.size w' w2) := fun A1 R1 s v' w' hq hr => by
      rcases hq with ⟨rfl, rfl, rfl⟩ | ⟨rfl, rfl, rfl⟩ | ⟨rfl, rfl, rfl⟩
      · exact satisfied_at l _ _ n v' w' (by omega) ok hA (by rw [sP_yes hs]; exact hn) hr
      · exact satisfied_at l _ _ n' v' w' (by omega) ok hA' (by rw [sP_yes hs]; exact hn') hr
      · exact satisfied_at l _ _ l.length v' w' (by omega) ok hA (by rw [sP_yes hs]; exact hn0) hr
    have DA : Hid (∀ (A1 R1 s : Int) v' w', ((A1 = A ∧ R1 = R ∧ s = daysV l n t) ∨ (A1 = A + a ∧ R1 = R' ∧ s = daysV l n' t) ∨ (A1 = A ∧ R1 = 0 ∧ s = 0)) → RdP w' v' l → Calls Try.prog 13 #[v', .agg #[.int .i64 A1, .int .i64 R1], .int .i64 t] w' fun e w2 => e = .returned (.int .i64 s) ∧ Below w'.heap.size w' w2) := fun A1 R1 s v' w' hq hr => by
      rcases hq with ⟨rfl, rfl, rfl⟩ | ⟨rfl, rfl, rfl⟩ | ⟨rfl, rfl, rfl⟩
      · exact days_at l _ _ t n v' w' (by omega) ok hA ht (by rw [sP_yes hs]; exact hn) hr
      · exact days_at l _ _ t n' v' w' (by omega) ok hA' ht (by rw [sP_yes hs]; exact hn') hr
      · have := days_at l A1 0 t l.length v' w' (by omega) ok hA ht (by rw [sP_yes hs]; exact hn0) hr; rwa [show daysV l l.length t = 0 by unfold daysV; rw [sP_yes hs, if_neg (Nat.lt_irrefl _)]] at this
    have PD : Hid (∀ (A1 R1 s : Int) v' w', ((A1 = A ∧ R1 = R ∧ s = pdV l A R t c) ∨ (A1 = A + a ∧ R1 = R' ∧ s = pdV l (A + a) R' t c) ∨ (A1 = A ∧ R1 = 0 ∧ s = 0)) → RdP w' v' l → Calls Try.prog 14 #[v', .agg #[.int .i64 A1, .int .i64 R1], .int .i64 t] w' fun e w2 => e = .returned (.int .i64 s) ∧ Below w'.heap.size w' w2) := fun A1 R1 s v' w' hq hr => by
      rcases hq with ⟨rfl, rfl, rfl⟩ | ⟨rfl, rfl, rfl⟩ | ⟨rfl, rfl, rfl⟩
      · have := past_at l A1 R1 t c v' w' (by omega) ok hA ht (by rw [sP_yes hs]; exact hp) hr; rwa [sP_yes hs] at this
      · have := past_at l (A + a) R1 t c v' w' (by omega) ok hA' ht (by rw [sP_yes hs]; exact hp) hr; rwa [sP_yes hs] at this
      · have := past_at l A1 0 t c v' w' (by omega) ok hA ht (by rw [sP_yes hs]; exact hp) hr; rwa [sP_yes hs, show pdV l A1 0 t c = 0 by unfold pdV; rw [if_pos (.inl (by omega))]] at this
    have h' := h
    obtain ⟨ao, cap, rfl, -, -, -⟩ := h
    generalize daysV l n t = d1 at *
    generalize daysV l n' t = d2 at *
    generalize pdV l A R t c = u1 at *
    generalize pdV l (A + a) R' t c = u2 at *
    obtain ⟨L, hL⟩ : ∃ L, l.length = L := ⟨_, rfl⟩
    rw [hL] at SL CP SA l0 l4 ⊢
    have q1 : ¬ (n' : Int) < (n : Int) := by omega
    have q2 : ¬ d1 < d2 := by omega
    have q3 : ¬ u1 < u2 := by omega
    have q4 : ((L : Int) == (L : Int)) = true := by simp
    unfold i64 at hA hR hA'
    clear h' hs ok hn hn' hn0 hL hp hRR
    go_enter Try.func7, Try.ntmps7
    go_wp2_with fail
    refine (SL.out _ BC.out.1).mono ?_
    rintro e w2 ⟨rfl, b2⟩
    have B2 : Hid (Below w.heap.size w w2 ∧ w2.cell? ⟨w.heap.size, 0, none⟩ = some (.int .i64 A) ∧ w2.cell? ⟨w.heap.size, 1, none⟩ = some (.int .i64 R)) := heldP b2 BC.out
    have p0 := B2.out.2.1
    have p1 := B2.out.2.2
    clear b2 BC SL
    go_upto_region 4 with fail
    have N3 : Hid (Blk w2.heap.size 24 [.int .i64 (A + a), .int .i64 (wrap64 (R - a))] (w2.alloc (.cells #[.int .i64 (A + a), .int .i64 (wrap64 (R - a))] 24)) ∧ (Below w.heap.size w (w2.alloc (.cells #[.int .i64 (A + a), .int .i64 (wrap64 (R - a))] 24)) ∧ (w2.alloc (.cells #[.int .i64 (A + a), .int .i64 (wrap64 (R - a))] 24)).cell? ⟨w.heap.size, 0, none⟩ = some (.int .i64 A) ∧ (w2.alloc (.cells #[.int .i64 (A + a), .int .i64 (wrap64 (R - a))] 24)).cell? ⟨w.heap.size, 1, none⟩ = some (.int .i64 R))) := ⟨Blk.new 24 [.int .i64 (A + a), .int .i64 (wrap64 (R - a))] w2, heldP (below_alloc w2 _) B2.out⟩
    have hlt : w.heap.size < w2.heap.size := World.block_lt_of_cell? _ _ p0
    have HLT : Hid (w.heap.size < w2.heap.size) := hlt
    have hwr : ¬ R < a → wrap64 (R - a) = R - a := fun h => by unfold wrap64; omega
    have HWR : Hid (¬ R < a → wrap64 (R - a) = R - a) := hwr
    clear hwr B2
    generalize (w2.alloc (.cells #[.int .i64 (A + a), .int .i64 (wrap64 (R - a))] 24)) = w3 at *
    generalize wrap64 (R - a) = r0 at *
    generalize w2.heap.size = G at *
    have g0 := N3.out.1.cell 0 _ rfl
    have g1 := N3.out.1.cell 1 _ rfl
    have gf := N3.out.1.fz 1
    have p0' := N3.out.2.2.1
    have p1' := N3.out.2.2.2
    have hne : G ≠ w.heap.size := by omega
    have hne' : w.heap.size ≠ G := by omega
    clear p0 p1
    by_cases k1 : R < a
    · by_cases k2 : R < 0
      · have ER : Hid (R' = R) := by show _ = _; rw [← hR', if_pos k1, if_pos k2]
        clear hR'
        go_upto_region 8 with fail
        have M4 : Hid (Below w.heap.size w ((w3.setCell ⟨G, 1, none⟩ (.int .i64 0)).setCell ⟨G, 1, none⟩ (.int .i64 R)) ∧ ((w3.setCell ⟨G, 1, none⟩ (.int .i64 0)).setCell ⟨G, 1, none⟩ (.int .i64 R)).cell? ⟨w.heap.size, 0, none⟩ = some (.int .i64 A) ∧ ((w3.setCell ⟨G, 1, none⟩ (.int .i64 0)).setCell ⟨G, 1, none⟩ (.int .i64 R)).cell? ⟨w.heap.size, 1, none⟩ = some (.int .i64 R) ∧ ((w3.setCell ⟨G, 1, none⟩ (.int .i64 0)).setCell ⟨G, 1, none⟩ (.int .i64 R)).cell? ⟨G, 0, none⟩ = some (.int .i64 (A + a)) ∧ ((w3.setCell ⟨G, 1, none⟩ (.int .i64 0)).setCell ⟨G, 1, none⟩ (.int .i64 R)).cell? ⟨G, 1, none⟩ = some (.int .i64 R')) := by
          have m := put_more (u := R) HLT.out (put_more (u := 0) HLT.out N3.out)
          exact ⟨m.2.1, m.2.2.1, m.2.2.2, m.1.cell 0 _ rfl, by rw [ER.out]; exact m.1.cell 1 _ rfl⟩
        clear N3 ER p0' p1' g0 g1 gf
        generalize ((w3.setCell ⟨G, 1, none⟩ (.int .i64 0)).setCell ⟨G, 1, none⟩ (.int .i64 R)) = w4 at *
        go_region_held3 (fun w' => Below w.heap.size w w' ∧ w'.cell? ⟨w.heap.size, 0, none⟩ = some (.int .i64 A) ∧ w'.cell? ⟨w.heap.size, 1, none⟩ = some (.int .i64 R) ∧ w'.cell? ⟨G, 0, none⟩ = some (.int .i64 (A + a)) ∧ w'.cell? ⟨G, 1, none⟩ = some (.int .i64 R')) (first | assumption | exact ⟨Below.drew M4.out.1, M4.out.2.1, M4.out.2.2.1, M4.out.2.2.2.1, M4.out.2.2.2.2⟩ | exact heldP4 hU (by assumption)) (first | (go_at_call 11; refine (CP.out _ (And.left (by assumption))).mono ?_; rintro e w1 ⟨v1, rfl, r1, hU⟩) | (go_at_call 10; refine (SA.out _ _ _ _ _ (by first | exact .inl ⟨rfl, rfl, rfl⟩ | exact .inr (.inl ⟨rfl, rfl, rfl⟩) | exact .inr (.inr ⟨rfl, rfl, rfl⟩)) r1.rd).mono ?_; rintro e w1 ⟨rfl, hU⟩))
        have M5 : Hid (Below w.heap.size w w1 ∧ w1.cell? ⟨w.heap.size, 0, none⟩ = some (.int .i64 A) ∧ w1.cell? ⟨w.heap.size, 1, none⟩ = some (.int .i64 R) ∧ w1.cell? ⟨G, 0, none⟩ = some (.int .i64 (A + a)) ∧ w1.cell? ⟨G, 1, none⟩ = some (.int .i64 R')) := by assumption
        clear M4 hU r1
        go_wp2_with fail
        go_region_held3 (fun w' => Below w.heap.size w w' ∧ w'.cell? ⟨w.heap.size, 0, none⟩ = some (.int .i64 A) ∧ w'.cell? ⟨w.heap.size, 1, none⟩ = some (.int .i64 R) ∧ w'.cell? ⟨G, 0, none⟩ = some (.int .i64 (A + a)) ∧ w'.cell? ⟨G, 1, none⟩ = some (.int .i64 R')) (first | assumption | exact ⟨Below.drew M5.out.1, M5.out.2.1, M5.out.2.2.1, M5.out.2.2.2.1, M5.out.2.2.2.2⟩ | exact heldP4 hU (by assumption)) (first | (go_at_call 11; refine (CP.out _ (And.left (by assumption))).mono ?_; rintro e w1 ⟨v1, rfl, r1, hU⟩) | (go_at_call 13; refine (DA.out _ _ _ _ _ (by first | exact .inl ⟨rfl, rfl, rfl⟩ | exact .inr (.inl ⟨rfl, rfl, rfl⟩) | exact .inr (.inr ⟨rfl, rfl, rfl⟩)) r1.rd).mono ?_; rintro e w1 ⟨rfl, hU⟩))
        have M6 : Hid (Below w.heap.size w w1 ∧ w1.cell? ⟨w.heap.size, 0, none⟩ = some (.int .i64 A) ∧ w1.cell? ⟨w.heap.size, 1, none⟩ = some (.int .i64 R) ∧ w1.cell? ⟨G, 0, none⟩ = some (.int .i64 (A + a)) ∧ w1.cell? ⟨G, 1, none⟩ = some (.int .i64 R')) := by assumption
        clear M5 hU r1
        go_wp2_with fail
        go_region_held3 (fun w' => Below w.heap.size w w' ∧ w'.cell? ⟨w.heap.size, 0, none⟩ = some (.int .i64 A) ∧ w'.cell? ⟨w.heap.size, 1, none⟩ = some (.int .i64 R) ∧ w'.cell? ⟨G, 0, none⟩ = some (.int .i64 (A + a)) ∧ w'.cell? ⟨G, 1, none⟩ = some (.int .i64 R')) (first | assumption | exact ⟨Below.drew M6.out.1, M6.out.2.1, M6.out.2.2.1, M6.out.2.2.2.1, M6.out.2.2.2.2⟩ | exact heldP4 hU (by assumption)) (first | (go_at_call 11; refine (CP.out _ (And.left (by assumption))).mono ?_; rintro e w1 ⟨v1, rfl, r1, hU⟩) | (go_at_call 14; refine (PD.out _ _ _ _ _ (by first | exact .inl ⟨rfl, rfl, rfl⟩ | exact .inr (.inl ⟨rfl, rfl, rfl⟩) | exact .inr (.inr ⟨rfl, rfl, rfl⟩)) r1.rd).mono ?_; rintro e w1 ⟨rfl, hU⟩))
        have M7 : Hid (Below w.heap.size w w1 ∧ w1.cell? ⟨w.heap.size, 0, none⟩ = some (.int .i64 A) ∧ w1.cell? ⟨w.heap.size, 1, none⟩ = some (.int .i64 R) ∧ w1.cell? ⟨G, 0, none⟩ = some (.int .i64 (A + a)) ∧ w1.cell? ⟨G, 1, none⟩ = some (.int .i64 R')) := by assumption
        clear M6 hU r1
        have p0 := M7.out.2.1
        go_upto_region 15 with fail
        generalize w1 = w6 at *
        have M8 : Hid (Below w.heap.size w (w6.alloc (.cells #[.int .i64 A, .int .i64 0] 24)) ∧ (w6.alloc (.cells #[.int .i64 A, .int .i64 0] 24)).cell? ⟨w6.heap.size, 0, none⟩ = some (.int .i64 A) ∧ (w6.alloc (.cells #[.int .i64 A, .int .i64 0] 24)).cell? ⟨w6.heap.size, 1, none⟩ = some (.int .i64 0)) := ⟨below_trans M7.out.1 (below_alloc w6 _), (Blk.new 24 [.int .i64 A, .int .i64 0] w6).cell 0 _ rfl, (Blk.new 24 [.int .i64 A, .int .i64 0] w6).cell 1 _ rfl⟩
        clear M7 p0
        generalize (w6.alloc (.cells #[.int .i64 A, .int .i64 0] 24)) = w7 at *
        go_region_held3 (fun w' => Below w.heap.size w w' ∧ w'.cell? ⟨w6.heap.size, 0, none⟩ = some (.int .i64 A) ∧ w'.cell? ⟨w6.heap.size, 1, none⟩ = some (.int .i64 0)) (first | assumption | exact ⟨Below.drew M8.out.1, M8.out.2.1, M8.out.2.2⟩ | exact heldP hU (by assumption)) (first | (go_at_call 11; refine (CP.out _ (And.left (by assumption))).mono ?_; rintro e w1 ⟨v1, rfl, r1, hU⟩) | (go_at_call 13; refine (DA.out _ _ _ _ _ (by first | exact .inl ⟨rfl, rfl, rfl⟩ | exact .inr (.inl ⟨rfl, rfl, rfl⟩) | exact .inr (.inr ⟨rfl, rfl, rfl⟩)) r1.rd).mono ?_; rintro e w1 ⟨rfl, hU⟩) | (go_at_call 14; refine (PD.out _ _ _ _ _ (by first | exact .inl ⟨rfl, rfl, rfl⟩ | exact .inr (.inl ⟨rfl, rfl, rfl⟩) | exact .inr (.inr ⟨rfl, rfl, rfl⟩)) r1.rd).mono ?_; rintro e w1 ⟨rfl, hU⟩) | (go_at_call 10; refine (SA.out _ _ _ _ _ (by first | exact .inl ⟨rfl, rfl, rfl⟩ | exact .inr (.inl ⟨rfl, rfl, rfl⟩) | exact .inr (.inr ⟨rfl, rfl, rfl⟩)) r1.rd).mono ?_; rintro e w1 ⟨rfl, hU⟩))
        go_wp2_with fail
        go_ret
        exact ⟨rfl, And.left (by assumption)⟩
      · have ER : Hid (R' = 0) := by show _ = _; rw [← hR', if_pos k1, if_neg k2]
        clear hR'
        go_upto_region 8 with fail
        have M4 : Hid (Below w.heap.size w (w3.setCell ⟨G, 1, none⟩ (.int .i64 0)) ∧ (w3.setCell ⟨G, 1, none⟩ (.int .i64 0)).cell? ⟨w.heap.size, 0, none⟩ = some (.int .i64 A) ∧ (w3.setCell ⟨G, 1, none⟩ (.int .i64 0)).cell? ⟨w.heap.size, 1, none⟩ = some (.int .i64 R) ∧ (w3.setCell ⟨G, 1, none⟩ (.int .i64 0)).cell? ⟨G, 0, none⟩ = some (.int .i64 (A + a)) ∧ (w3.setCell ⟨G, 1, none⟩ (.int .i64 0)).cell? ⟨G, 1, none⟩ = some (.int .i64 R')) := by
          have m := put_more (u := 0) HLT.out N3.out
          exact ⟨m.2.1, m.2.2.1, m.2.2.2, m.1.cell 0 _ rfl, by rw [ER.out]; exact m.1.cell 1 _ rfl⟩
        clear N3 ER p0' p1' g0 g1 gf
        generalize (w3.setCell ⟨G, 1, none⟩ (.int .i64 0)) = w4 at *
        go_region_held3 (fun w' => Below w.heap.size w w' ∧ w'.cell? ⟨w.heap.size, 0, none⟩ = some (.int .i64 A) ∧ w'.cell? ⟨w.heap.size, 1, none⟩ = some (.int .i64 R) ∧ w'.cell? ⟨G, 0, none⟩ = some (.int .i64 (A + a)) ∧ w'.cell? ⟨G, 1, none⟩ = some (.int .i64 R')) (first | assumption | exact ⟨Below.drew M4.out.1, M4.out.2.1, M4.out.2.2.1, M4.out.2.2.2.1, M4.out.2.2.2.2⟩ | exact heldP4 hU (by assumption)) (first | (go_at_call 11; refine (CP.out _ (And.left (by assumption))).mono ?_; rintro e w1 ⟨v1, rfl, r1, hU⟩) | (go_at_call 10; refine (SA.out _ _ _ _ _ (by first | exact .inl ⟨rfl, rfl, rfl⟩ | exact .inr (.inl ⟨rfl, rfl, rfl⟩) | exact .inr (.inr ⟨rfl, rfl, rfl⟩)) r1.rd).mono ?_; rintro e w1 ⟨rfl, hU⟩))
        have M5 : Hid (Below w.heap.size w w1 ∧ w1.cell? ⟨w.heap.size, 0, none⟩ = some (.int .i64 A) ∧ w1.cell? ⟨w.heap.size, 1, none⟩ = some (.int .i64 R) ∧ w1.cell? ⟨G, 0, none⟩ = some (.int .i64 (A + a)) ∧ w1.cell? ⟨G, 1, none⟩ = some (.int .i64 R')) := by assumption
        clear M4 hU r1
        go_wp2_with fail
        go_region_held3 (fun w' => Below w.heap.size w w' ∧ w'.cell? ⟨w.heap.size, 0, none⟩ = some (.int .i64 A) ∧ w'.cell? ⟨w.heap.size, 1, none⟩ = some (.int .i64 R) ∧ w'.cell? ⟨G, 0, none⟩ = some (.int .i64 (A + a)) ∧ w'.cell? ⟨G, 1, none⟩ = some (.int .i64 R')) (first | assumption | exact ⟨Below.drew M5.out.1, M5.out.2.1, M5.out.2.2.1, M5.out.2.2.2.1, M5.out.2.2.2.2⟩ | exact heldP4 hU (by assumption)) (first | (go_at_call 11; refine (CP.out _ (And.left (by assumption))).mono ?_; rintro e w1 ⟨v1, rfl, r1, hU⟩) | (go_at_call 13; refine (DA.out _ _ _ _ _ (by first | exact .inl ⟨rfl, rfl, rfl⟩ | exact .inr (.inl ⟨rfl, rfl, rfl⟩) | exact .inr (.inr ⟨rfl, rfl, rfl⟩)) r1.rd).mono ?_; rintro e w1 ⟨rfl, hU⟩))
        have M6 : Hid (Below w.heap.size w w1 ∧ w1.cell? ⟨w.heap.size, 0, none⟩ = some (.int .i64 A) ∧ w1.cell? ⟨w.heap.size, 1, none⟩ = some (.int .i64 R) ∧ w1.cell? ⟨G, 0, none⟩ = some (.int .i64 (A + a)) ∧ w1.cell? ⟨G, 1, none⟩ = some (.int .i64 R')) := by assumption
        clear M5 hU r1
        go_wp2_with fail
        go_region_held3 (fun w' => Below w.heap.size w w' ∧ w'.cell? ⟨w.heap.size, 0, none⟩ = some (.int .i64 A) ∧ w'.cell? ⟨w.heap.size, 1, none⟩ = some (.int .i64 R) ∧ w'.cell? ⟨G, 0, none⟩ = some (.int .i64 (A + a)) ∧ w'.cell? ⟨G, 1, none⟩ = some (.int .i64 R')) (first | assumption | exact ⟨Below.drew M6.out.1, M6.out.2.1, M6.out.2.2.1, M6.out.2.2.2.1, M6.out.2.2.2.2⟩ | exact heldP4 hU (by assumption)) (first | (go_at_call 11; refine (CP.out _ (And.left (by assumption))).mono ?_; rintro e w1 ⟨v1, rfl, r1, hU⟩) | (go_at_call 14; refine (PD.out _ _ _ _ _ (by first | exact .inl ⟨rfl, rfl, rfl⟩ | exact .inr (.inl ⟨rfl, rfl, rfl⟩) | exact .inr (.inr ⟨rfl, rfl, rfl⟩)) r1.rd).mono ?_; rintro e w1 ⟨rfl, hU⟩))
        have M7 : Hid (Below w.heap.size w w1 ∧ w1.cell? ⟨w.heap.size, 0, none⟩ = some (.int .i64 A) ∧ w1.cell? ⟨w.heap.size, 1, none⟩ = some (.int .i64 R) ∧ w1.cell? ⟨G, 0, none⟩ = some (.int .i64 (A + a)) ∧ w1.cell? ⟨G, 1, none⟩ = some (.int .i64 R')) := by assumption
        clear M6 hU r1
        have p0 := M7.out.2.1
        go_upto_region 15 with fail
        generalize w1 = w6 at *
        have M8 : Hid (Below w.heap.size w (w6.alloc (.cells #[.int .i64 A, .int .i64 0] 24)) ∧ (w6.alloc (.cells #[.int .i64 A, .int .i64 0] 24)).cell? ⟨w6.heap.size, 0, none⟩ = some (.int .i64 A) ∧ (w6.alloc (.cells #[.int .i64 A, .int .i64 0] 24)).cell? ⟨w6.heap.size, 1, none⟩ = some (.int .i64 0)) := ⟨below_trans M7.out.1 (below_alloc w6 _), (Blk.new 24 [.int .i64 A, .int .i64 0] w6).cell 0 _ rfl, (Blk.new 24 [.int .i64 A, .int .i64 0] w6).cell 1 _ rfl⟩
        clear M7 p0
        generalize (w6.alloc (.cells #[.int .i64 A, .int .i64 0] 24)) = w7 at *
        go_region_held3 (fun w' => Below w.heap.size w w' ∧ w'.cell? ⟨w6.heap.size, 0, none⟩ = some (.int .i64 A) ∧ w'.cell? ⟨w6.heap.size, 1, none⟩ = some (.int .i64 0)) (first | assumption | exact ⟨Below.drew M8.out.1, M8.out.2.1, M8.out.2.2⟩ | exact heldP hU (by assumption)) (first | (go_at_call 11; refine (CP.out _ (And.left (by assumption))).mono ?_; rintro e w1 ⟨v1, rfl, r1, hU⟩) | (go_at_call 13; refine (DA.out _ _ _ _ _ (by first | exact .inl ⟨rfl, rfl, rfl⟩ | exact .inr (.inl ⟨rfl, rfl, rfl⟩) | exact .inr (.inr ⟨rfl, rfl, rfl⟩)) r1.rd).mono ?_; rintro e w1 ⟨rfl, hU⟩) | (go_at_call 14; refine (PD.out _ _ _ _ _ (by first | exact .inl ⟨rfl, rfl, rfl⟩ | exact .inr (.inl ⟨rfl, rfl, rfl⟩) | exact .inr (.inr ⟨rfl, rfl, rfl⟩)) r1.rd).mono ?_; rintro e w1 ⟨rfl, hU⟩) | (go_at_call 10; refine (SA.out _ _ _ _ _ (by first | exact .inl ⟨rfl, rfl, rfl⟩ | exact .inr (.inl ⟨rfl, rfl, rfl⟩) | exact .inr (.inr ⟨rfl, rfl, rfl⟩)) r1.rd).mono ?_; rintro e w1 ⟨rfl, hU⟩))
        go_wp2_with fail
        go_ret
        exact ⟨rfl, And.left (by assumption)⟩
    · have ER : Hid (R' = r0) := by show _ = _; rw [← hR', if_neg k1, HWR.out k1]
      clear hR'
      go_upto_region 8 with fail
      have M4 : Hid (Below w.heap.size w w3 ∧ w3.cell? ⟨w.heap.size, 0, none⟩ = some (.int .i64 A) ∧ w3.cell? ⟨w.heap.size, 1, none⟩ = some (.int .i64 R) ∧ w3.cell? ⟨G, 0, none⟩ = some (.int .i64 (A + a)) ∧ w3.cell? ⟨G, 1, none⟩ = some (.int .i64 R')) := ⟨N3.out.2.1, N3.out.2.2.1, N3.out.2.2.2, N3.out.1.cell 0 _ rfl, by rw [ER.out]; exact N3.out.1.cell 1 _ rfl⟩
      clear N3 ER p0' p1' g0 g1 gf
      rename_i w3
      generalize w3 = w4 at *
      go_region_held3 (fun w' => Below w.heap.size w w' ∧ w'.cell? ⟨w.heap.size, 0, none⟩ = some (.int .i64 A) ∧ w'.cell? ⟨w.heap.size, 1, none⟩ = some (.int .i64 R) ∧ w'.cell? ⟨G, 0, none⟩ = some (.int .i64 (A + a)) ∧ w'.cell? ⟨G, 1, none⟩ = some (.int .i64 R')) (first | assumption | exact ⟨Below.drew M4.out.1, M4.out.2.1, M4.out.2.2.1, M4.out.2.2.2.1, M4.out.2.2.2.2⟩ | exact heldP4 hU (by assumption)) (first | (go_at_call 11; refine (CP.out _ (And.left (by assumption))).mono ?_; rintro e w1 ⟨v1, rfl, r1, hU⟩) | (go_at_call 10; refine (SA.out _ _ _ _ _ (by first | exact .inl ⟨rfl, rfl, rfl⟩ | exact .inr (.inl ⟨rfl, rfl, rfl⟩) | exact .inr (.inr ⟨rfl, rfl, rfl⟩)) r1.rd).mono ?_; rintro e w1 ⟨rfl, hU⟩))
      have M5 : Hid (Below w.heap.size w w1 ∧ w1.cell? ⟨w.heap.size, 0, none⟩ = some (.int .i64 A) ∧ w1.cell? ⟨w.heap.size, 1, none⟩ = some (.int .i64 R) ∧ w1.cell? ⟨G, 0, none⟩ = some (.int .i64 (A + a)) ∧ w1.cell? ⟨G, 1, none⟩ = some (.int .i64 R')) := by assumption
      clear M4 hU r1
      go_wp2_with fail
      go_region_held3 (fun w' => Below w.heap.size w w' ∧ w'.cell? ⟨w.heap.size, 0, none⟩ = some (.int .i64 A) ∧ w'.cell? ⟨w.heap.size, 1, none⟩ = some (.int .i64 R) ∧ w'.cell? ⟨G, 0, none⟩ = some (.int .i64 (A + a)) ∧ w'.cell? ⟨G, 1, none⟩ = some (.int .i64 R')) (first | assumption | exact ⟨Below.drew M5.out.1, M5.out.2.1, M5.out.2.2.1, M5.out.2.2.2.1, M5.out.2.2.2.2⟩ | exact heldP4 hU (by assumption)) (first | (go_at_call 11; refine (CP.out _ (And.left (by assumption))).mono ?_; rintro e w1 ⟨v1, rfl, r1, hU⟩) | (go_at_call 13; refine (DA.out _ _ _ _ _ (by first | exact .inl ⟨rfl, rfl, rfl⟩ | exact .inr (.inl ⟨rfl, rfl, rfl⟩) | exact .inr (.inr ⟨rfl, rfl, rfl⟩)) r1.rd).mono ?_; rintro e w1 ⟨rfl, hU⟩))
      have M6 : Hid (Below w.heap.size w w1 ∧ w1.cell? ⟨w.heap.size, 0, none⟩ = some (.int .i64 A) ∧ w1.cell? ⟨w.heap.size, 1, none⟩ = some (.int .i64 R) ∧ w1.cell? ⟨G, 0, none⟩ = some (.int .i64 (A + a)) ∧ w1.cell? ⟨G, 1, none⟩ = some (.int .i64 R')) := by assumption
      clear M5 hU r1
      go_wp2_with fail
      go_region_held3 (fun w' => Below w.heap.size w w' ∧ w'.cell? ⟨w.heap.size, 0, none⟩ = some (.int .i64 A) ∧ w'.cell? ⟨w.heap.size, 1, none⟩ = some (.int .i64 R) ∧ w'.cell? ⟨G, 0, none⟩ = some (.int .i64 (A + a)) ∧ w'.cell? ⟨G, 1, none⟩ = some (.int .i64 R')) (first | assumption | exact ⟨Below.drew M6.out.1, M6.out.2.1, M6.out.2.2.1, M6.out.2.2.2.1, M6.out.2.2.2.2⟩ | exact heldP4 hU (by assumption)) (first | (go_at_call 11; refine (CP.out _ (And.left (by assumption))).mono ?_; rintro e w1 ⟨v1, rfl, r1, hU⟩) | (go_at_call 14; refine (PD.out _ _ _ _ _ (by first | exact .inl ⟨rfl, rfl, rfl⟩ | exact .inr (.inl ⟨rfl, rfl, rfl⟩) | exact .inr (.inr ⟨rfl, rfl, rfl⟩)) r1.rd).mono ?_; rintro e w1 ⟨rfl, hU⟩))
      have M7 : Hid (Below w.heap.size w w1 ∧ w1.cell? ⟨w.heap.size, 0, none⟩ = some (.int .i64 A) ∧ w1.cell? ⟨w.heap.size, 1, none⟩ = some (.int .i64 R) ∧ w1.cell? ⟨G, 0, none⟩ = some (.int .i64 (A + a)) ∧ w1.cell? ⟨G, 1, none⟩ = some (.int .i64 R')) := by assumption
      clear M6 hU r1
      have p0 := M7.out.2.1
      go_upto_region 15 with fail
      generalize w1 = w6 at *
      have M8 : Hid (Below w.heap.size w (w6.alloc (.cells #[.int .i64 A, .int .i64 0] 24)) ∧ (w6.alloc (.cells #[.int .i64 A, .int .i64 0] 24)).cell? ⟨w6.heap.size, 0, none⟩ = some (.int .i64 A) ∧ (w6.alloc (.cells #[.int .i64 A, .int .i64 0] 24)).cell? ⟨w6.heap.size, 1, none⟩ = some (.int .i64 0)) := ⟨below_trans M7.out.1 (below_alloc w6 _), (Blk.new 24 [.int .i64 A, .int .i64 0] w6).cell 0 _ rfl, (Blk.new 24 [.int .i64 A, .int .i64 0] w6).cell 1 _ rfl⟩
      clear M7 p0
      generalize (w6.alloc (.cells #[.int .i64 A, .int .i64 0] 24)) = w7 at *
      go_region_held3 (fun w' => Below w.heap.size w w' ∧ w'.cell? ⟨w6.heap.size, 0, none⟩ = some (.int .i64 A) ∧ w'.cell? ⟨w6.heap.size, 1, none⟩ = some (.int .i64 0)) (first | assumption | exact ⟨Below.drew M8.out.1, M8.out.2.1, M8.out.2.2⟩ | exact heldP hU (by assumption)) (first | (go_at_call 11; refine (CP.out _ (And.left (by assumption))).mono ?_; rintro e w1 ⟨v1, rfl, r1, hU⟩) | (go_at_call 13; refine (DA.out _ _ _ _ _ (by first | exact .inl ⟨rfl, rfl, rfl⟩ | exact .inr (.inl ⟨rfl, rfl, rfl⟩) | exact .inr (.inr ⟨rfl, rfl, rfl⟩)) r1.rd).mono ?_; rintro e w1 ⟨rfl, hU⟩) | (go_at_call 14; refine (PD.out _ _ _ _ _ (by first | exact .inl ⟨rfl, rfl, rfl⟩ | exact .inr (.inl ⟨rfl, rfl, rfl⟩) | exact .inr (.inr ⟨rfl, rfl, rfl⟩)) r1.rd).mono ?_; rintro e w1 ⟨rfl, hU⟩) | (go_at_call 10; refine (SA.out _ _ _ _ _ (by first | exact .inl ⟨rfl, rfl, rfl⟩ | exact .inr (.inl ⟨rfl, rfl, rfl⟩) | exact .inr (.inr ⟨rfl, rfl, rfl⟩)) r1.rd).mono ?_; rintro e w1 ⟨rfl, hU⟩))
      go_wp2_with fail
      go_ret
      exact ⟨rfl, And.left (by assumption)⟩
end Go.Proofs.Ytekejcpgoijoaaa
