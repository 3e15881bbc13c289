/-
  Ours: the law's pops, of a trio.
-/
import Derived.Test.YtfdehlfhnlgcjaaDoorTqPops
namespace Go.Proofs.YtfdehlfhnlgcjaaDoor
open Go.RowKit TqM

theorem Kp.belowB {B : Nat} {T : Nat → Prop} {w w' : World} (k : Kp T w w') (hT : ∀ g, T g → B ≤ g) (hB : B ≤ w.heap.size) : Below B w w' := ⟨k.os, k.tape, k.output, k.size, fun i hi => k.block i (Nat.lt_of_lt_of_le hi hB) (fun h => by have := hT i h; omega)⟩
theorem filter_tail {z : Ky × Int} {r : List (Ky × Int)} (h : Sd (z :: r)) : (z :: r).filter (fun x => !decide (x.1 = z.1)) = r := by
  rw [List.filter_cons_of_neg (by simp)]
  refine List.filter_eq_self.2 (fun x hx => ?_)
  have := (List.pairwise_cons.1 h).1 x hx
  have := lt_ne this
  simp
  exact fun e => this e.symm
theorem RowI.shape {base : Nat} {w : World} {v : Value} {xs : List (Ky × Int)} (h : RowI base w v xs) : ∃ a m c, v = .slice a m c := by
  rcases h.2 with ⟨hv, h0⟩ | ⟨g, cap, cur, rfl, _⟩
  · exact ⟨none, 0, 0, hv⟩
  · exact ⟨_, _, _, rfl⟩

theorem pops_not (B R1 R2 N : Nat) (vL : Value) (T : Nat → Prop) (G : List (Ky × Int)) (day : Int) (w : World) (h : Tri B R1 R2 vL T N G w) (hd : ∀ x ∈ G, day < x.1.d) :
    Calls Tryd.prog 24 #[trV R1 R2 vL, .int .i64 day] w fun e w' => ∃ vL', e = .returned (.tuple #[trV R1 R2 vL', .bool true]) ∧ ∃ G', TPo (w.heap.size + 2) B R1 R2 vL' T N w G' w' := by
  obtain ⟨S1, S2, L1, L2, q⟩ := h.q
  have hT : ∀ g, T g → g < w.heap.size := fun g hg => (h.tw g hg).2
  obtain ⟨sa, sm, sc, hv⟩ := q.row.shape
  refine pops_gen R1 R2 vL day w T hT (fun w' => Below w.heap.size w w') (fun w' => Below w.heap.size w w') (fun vL' w' => ∃ G', TPo (w.heap.size + 2) B R1 R2 vL' T N w G' w') ⟨0, 0, 0⟩ 0 ⟨#[]⟩ false ?_ ?_ ?_ ?_ ?_ ?_ (fun _ => ⟨rfl, rfl⟩) (fun e => by cases e)
  · intro w' b _
    have : Calls Tryd.prog 43 #[.pointer (some ⟨R1, 0, none⟩), .int .i64 day] w' (TQ.NotDue w') := by
      cases G with
      | nil =>
        obtain rfl : L1 = [] := q.p1.eq_nil
        exact TQ.pop_none R1 S1 w' day (q.q1.below b)
      | cons x r =>
        have LS := least_map h.sd (by simp)
        exact TQ.pop_late R1 S1 L1 w' day _ (q.q1.below b) (least_perm LS q.p1) (hd _ LS.1)
    exact this.mono (by rintro e w2 ⟨rfl, b2⟩; exact ⟨rfl, below_trans b b2, Kp.of_below b2 T⟩)
  · intro w' b
    have : Calls Tryd.prog 44 #[.pointer (some ⟨R2, 0, none⟩), .int .i64 day] w' (TS.NotDue w') := by
      cases G with
      | nil =>
        obtain rfl : L2 = [] := List.Perm.eq_nil (by simpa using q.p2)
        exact TS.pop_none R2 S2 w' day (q.q2.below b)
      | cons x r =>
        have LS := least_map h.sd (by simp)
        exact TS.pop_late R2 S2 L2 w' day _ (q.q2.below b) (least_permT LS q.p2) (hd _ LS.1)
    exact this.mono (by rintro e w2 ⟨rfl, b2⟩; exact ⟨rfl, below_trans b b2, Kp.of_below b2 T⟩)
  · intro w' b
    have : Calls Tryd.prog 45 #[vL, .int .i64 day] w' (RNot vL w') := by
      cases G with
      | nil => exact rpop_none vL day w' (q.row.rd.later b)
      | cons x r => exact rpop_late (x :: r) vL day w' (q.row.rd.later b) (by simp) (hd x (by simp))
    refine this.mono ?_
    rintro e w2 ⟨rfl, b2⟩
    subst hv
    exact ⟨sa, sm, sc, rfl, ⟨G, TPo.refl h (below_trans b b2)⟩, b2⟩
  · exact fun w' w2 h1 h2 => below_trans h1 h2
  · exact fun w' w2 h1 h2 => below_trans h1 h2
  · rintro vL' w' w2 M ⟨G', h1⟩ k hM
    exact ⟨G', h1.kp hT k hM⟩

theorem pops_yes (B R1 R2 N : Nat) (vL : Value) (T : Nat → Prop) (z : Ky × Int) (r : List (Ky × Int)) (day : Int) (w : World) (hN : N ≤ 1000000000) (hB : B ≤ w.heap.size) (hP : 0 < B) (ht : TabP w) (h : Tri B R1 R2 vL T N (z :: r) w) (hd : z.1.d ≤ day) :
    Calls Tryd.prog 24 #[trV R1 R2 vL, .int .i64 day] w fun e w' => ∃ vL', e = .returned (.tuple #[trV R1 R2 vL', .bool true]) ∧ ∃ G', TPo (w.heap.size + 2) B R1 R2 vL' T N w G' w' := by
  obtain ⟨S1, S2, L1, L2, q⟩ := h.q
  have hT : ∀ g, T g → g < w.heap.size := fun g hg => (h.tw g hg).2
  have hTB : ∀ g, T g → B ≤ g := fun g hg => (h.tw g hg).1
  have LS := least_map h.sd (by simp)
  have g0 : gN (z :: r) 0 = z := rfl
  rw [g0] at LS
  have hl1 : L1.length ≤ 1000000000000 := by have := q.p1.length_eq; have := h.len; omega
  have hl2 : L2.length ≤ 1000000000000 := by have := q.p2.length_eq; have := h.len; simp at this; simp at *; omega
  have hlr : (z :: r).length ≤ 1000000000 := Nat.le_trans h.len hN
  refine pops_gen R1 R2 vL day w T hT (fun w' => ∃ w1 L1', Below w.heap.size w w1 ∧ w.heap.size + 2 ≤ w1.heap.size ∧ TQ.QPost R1 S1 w1 L1' w' ∧ L1'.Perm r) (fun w' => ∃ w1 w2 L1' L2', Below w.heap.size w w1 ∧ w.heap.size + 2 ≤ w1.heap.size ∧ TQ.QPost R1 S1 w1 L1' w2 ∧ L1'.Perm r ∧ TS.QPost R2 S2 w2 L2' w' ∧ L2'.Perm (r.map wdP)) (fun vL' w' => ∃ G', TPo (w.heap.size + 2) B R1 R2 vL' T N w G' w') z.1 z.2 (wdB z.2) true ?_ ?_ ?_ ?_ ?_ ?_ (fun e => by cases e) ?_
  · intro w' b hs
    refine (TQ.pop_yes R1 S1 L1 w' day z (q.q1.below b) hl1 (least_perm LS q.p1) hd).mono ?_
    rintro e w2 ⟨rfl, L', p, q2, k⟩
    exact ⟨rfl, ⟨w', L', b, hs, ⟨S1, q2, fun _ h => .inl h, k⟩, (p.symm.trans q.p1).cons_inv⟩, k.mono (fun g _ hg => q.t1 g hg)⟩
  · rintro w' ⟨w1, L1', b, hs, p1, e1⟩
    have q2 : TS.QAt R2 S2 L2 w' := by
      obtain ⟨S', a1, a2, a3⟩ := p1
      exact (q.q2.below b).kp a3 (fun g hg h1 => q.ap g h1 hg)
    refine (TS.pop_yes R2 S2 L2 w' day (wdP z) q2 hl2 (least_permT LS q.p2) hd).mono ?_
    rintro e w2 ⟨rfl, L', p, q3, k⟩
    exact ⟨rfl, ⟨w1, w', L1', L', b, hs, p1, e1, ⟨S2, q3, fun _ h => .inl h, k⟩, (p.symm.trans q.p2).cons_inv⟩, k.mono (fun g _ hg => q.t2 g hg)⟩
  · rintro w' ⟨w1, w2, L1', L2', b, hs, p1, e1, p2, e2⟩
    have rd : RdI w' vL (z :: r) := by
      obtain ⟨S1', a1, a2, a3⟩ := p1
      obtain ⟨S2', c1, c2, c3⟩ := p2
      have r1 := (q.row.later b).same (fun g hg => a3.block g (Nat.lt_of_lt_of_le (q.row.lt hg) b.size) (q.av g hg).1.1)
      exact (r1.same (fun g hg => c3.block g (r1.lt hg) (q.av g hg).1.2)).rd
    refine (rpop_yes (z :: r) vL day w' hlr rd (by simp) hd).mono ?_
    rintro e w3 ⟨v', rfl, row, b3⟩
    rw [g0, filter_tail h.sd] at row
    obtain ⟨sa, sm, sc, hv⟩ := row.shape
    subst hv
    exact ⟨sa, sm, sc, rfl, ⟨r, tri_after_q hB hs h q b p1 p2 b3 row e1 e2 (List.pairwise_cons.1 h.sd).2 (fun x hx => h.i64 x (by simp [hx])) (by have := h.len; simp at this; omega)⟩, b3⟩
  · rintro w' w2 ⟨w1, L1', h1, h2, h3, h4⟩ b
    obtain ⟨S', a1, a2, a3⟩ := h3
    exact ⟨w1, L1', h1, h2, ⟨S', a1.below b, a2, a3.trans (Kp.of_below b (fun _ => False)) (fun _ _ h => h.elim)⟩, h4⟩
  · rintro w' w3 ⟨w1, w2, L1', L2', h1, h2, h3, h4, h5, h6⟩ b
    obtain ⟨S', a1, a2, a3⟩ := h5
    exact ⟨w1, w2, L1', L2', h1, h2, h3, h4, ⟨S', a1.below b, a2, a3.trans (Kp.of_below b (fun _ => False)) (fun _ _ h => h.elim)⟩, h6⟩
  · rintro vL' w' w2 M ⟨G', h1⟩ k hM
    exact ⟨G', h1.kp hT k hM⟩
  · rintro _ vL' w' ⟨G', T', h1, h2, h3⟩
    exact word_at z.2 (h.i64 z (by simp)) w' (ht.below hP (h3.belowB hTB hB))

theorem pops_at (B R1 R2 N : Nat) (vL : Value) (T : Nat → Prop) (G : List (Ky × Int)) (day : Int) (w : World) (hN : N ≤ 1000000000) (hB : B ≤ w.heap.size) (hP : 0 < B) (ht : TabP w) (h : Tri B R1 R2 vL T N G w) :
    Calls Tryd.prog 24 #[trV R1 R2 vL, .int .i64 day] w fun e w' => ∃ vL', e = .returned (.tuple #[trV R1 R2 vL', .bool true]) ∧ ∃ G', TPo (w.heap.size + 2) B R1 R2 vL' T N w G' w' := by
  cases G with
  | nil => exact pops_not B R1 R2 N vL T [] day w h (fun x hx => by cases hx)
  | cons z r =>
    by_cases hd : z.1.d ≤ day
    · exact pops_yes B R1 R2 N vL T z r day w hN hB hP ht h hd
    · refine pops_not B R1 R2 N vL T (z :: r) day w h (fun x hx => ?_)
      rcases List.mem_cons.1 hx with rfl | hx
      · omega
      · have := (List.pairwise_cons.1 h.sd).1 x hx
        unfold TqM.lt at this
        omega
end Go.Proofs.YtfdehlfhnlgcjaaDoor
