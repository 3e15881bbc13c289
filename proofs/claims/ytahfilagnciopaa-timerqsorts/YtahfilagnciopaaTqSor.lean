/-
  Ours: the walk of TimerqSorts.
-/
import Derived.Test.YtahfilagnciopaaTqSorM
import Derived.Deep.Cut
namespace Go.Proofs.Ytahfilagnciopaa
open Go.RowKit TqM

/-- The statement's memory: the queue, the keys, all of them once, the last one told. -/
structure SW (w : World) (R LB : Nat) (S : Nat → Prop) (L : List (Ky × Int)) (v va : Value) (ks al : List Ky) (last : Ky) (wr : World) : Prop where
  q : TQ.QAt R S L wr
  k : RdK wr v ks
  a : RdK wr va al
  b : Blk LB 26 (kyL last) wr
  bw : Below w.heap.size w wr
  sb : ∀ g, S g → w.heap.size ≤ g
  sk : 0 < ks.length → ∀ g, v.ownBlock = some g → ¬ S g
  sa : ∀ g, va.ownBlock = some g → ¬ S g
  sl : ¬ S LB
theorem SW.below {w w1 w2 : World} {R LB : Nat} {S : Nat → Prop} {L : List (Ky × Int)} {v va : Value} {ks al : List Ky} {last : Ky} (h : SW w R LB S L v va ks al last w1) (b : Below w1.heap.size w1 w2) : SW w R LB S L v va ks al last w2 :=
  ⟨h.q.below b, h.k.later b, h.a.later b, h.b.below b, below_trans h.bw b, h.sb, h.sk, h.sa, h.sl⟩
theorem SW.pop {w w1 w2 : World} {R LB : Nat} {S : Nat → Prop} {L L' : List (Ky × Int)} {v va : Value} {ks al : List Ky} {last : Ky} (h : SW w R LB S L v va ks al last w1) (q : TQ.QAt R S L' w2) (k : Kp S w1 w2) : SW w R LB S L' v va ks al last w2 :=
  ⟨q, h.k.kp k h.sk, h.a.kp k (fun _ => h.sa), h.b.kp k h.sl, ⟨k.os.trans h.bw.os, k.tape.trans h.bw.tape, k.output.trans h.bw.output, Nat.le_trans h.bw.size k.size, fun i hi => (k.block i (Nat.lt_of_lt_of_le hi h.bw.size) (fun hs => by have := h.sb i hs; omega)).trans (h.bw.block i hi)⟩, h.sb, h.sk, h.sa, h.sl⟩

theorem SW.last {w w1 : World} {R LB : Nat} {S : Nat → Prop} {L : List (Ky × Int)} {v va : Value} {ks al : List Ky} {last k : Ky} (h : SW w R LB S L v va ks al last w1) (hv : 0 < ks.length → v.ownBlock ≠ some LB) (ha : va.ownBlock ≠ some LB) (hb : w.heap.size ≤ LB) :
    SW w R LB S L v va ks al k (((w1.setCell ⟨LB, 0, none⟩ (.int .i64 k.d)).setCell ⟨LB, 1, none⟩ (.int .i64 k.l)).setCell ⟨LB, 2, none⟩ (.int .i64 k.n)) := by
  have b3 : Blk LB 26 (kyL k) (((w1.setCell ⟨LB, 0, none⟩ (.int .i64 k.d)).setCell ⟨LB, 1, none⟩ (.int .i64 k.l)).setCell ⟨LB, 2, none⟩ (.int .i64 k.n)) := ((h.b.set (i := 0) (.int .i64 k.d)).set (i := 1) (.int .i64 k.l)).set (i := 2) (.int .i64 k.n)
  have g3 := grownBy_trans (grownBy_trans (setCell_grown w1 LB 0 (.int .i64 k.d)) (setCell_grown _ LB 1 (.int .i64 k.l))) (setCell_grown _ LB 2 (.int .i64 k.n))
  have k3 := Kp.of_grown g3
  exact ⟨h.q.kp k3 (fun g hg e => by injection e with e; exact h.sl (e ▸ hg)), h.k.kp k3 (fun h0 g hg e => by injection e with e; subst e; exact hv h0 hg), h.a.kp k3 (fun _ g hg e => by injection e with e; subst e; exact ha hg), b3, below_row h.bw g3 hb, h.sb, h.sk, h.sa, h.sl⟩

/-- Three keys, each where it lies. -/
abbrev K9 (w : World) (P Q g o : Nat) (x k y : Ky) (w' : World) : Prop := Below w.heap.size w w' ∧
  w'.cell? ⟨P, 0, none⟩ = some (.int .i64 x.d) ∧ w'.cell? ⟨P, 1, none⟩ = some (.int .i64 x.l) ∧ w'.cell? ⟨P, 2, none⟩ = some (.int .i64 x.n) ∧
  w'.cell? ⟨Q, 0, none⟩ = some (.int .i64 k.d) ∧ w'.cell? ⟨Q, 1, none⟩ = some (.int .i64 k.l) ∧ w'.cell? ⟨Q, 2, none⟩ = some (.int .i64 k.n) ∧
  w'.cell? ⟨g, o, none⟩ = some (.int .i64 y.d) ∧ w'.cell? ⟨g, o + 1, none⟩ = some (.int .i64 y.l) ∧ w'.cell? ⟨g, o + 2, none⟩ = some (.int .i64 y.n)
theorem K9.keep {w w1 w2 : World} {P Q g o : Nat} {x k y : Ky} (b : Below w1.heap.size w1 w2) (h : K9 w P Q g o x k y w1) : K9 w P Q g o x k y w2 :=
  ⟨below_trans h.1 b, below_cell b h.2.1, below_cell b h.2.2.1, below_cell b h.2.2.2.1, below_cell b h.2.2.2.2.1, below_cell b h.2.2.2.2.2.1, below_cell b h.2.2.2.2.2.2.1, below_cell b h.2.2.2.2.2.2.2.1, below_cell b h.2.2.2.2.2.2.2.2.1, below_cell b h.2.2.2.2.2.2.2.2.2⟩

set_option maxRecDepth 100000 in
set_option maxHeartbeats 4000000 in
theorem sorts_any (ks : List Ky) (day : Int) (v : Value) (w : World) (h : RdK w v ks) : Calls Try.prog 3 #[v, .int .i64 day] w fun e w' => e = .returned (.bool true) ∧ Below w.heap.size w w' := by
  have RD : Hid (∀ w', Below w.heap.size w w' → RdK w' v ks) := fun w' hb => h.later hb
  have VB : Hid (∀ g, 0 < ks.length → v.ownBlock = some g → g < w.heap.size) := fun g h0 hg => by
    obtain ⟨ao, cap, rfl, _, _, H⟩ := h
    obtain ⟨g', o', rfl, lt, _⟩ := H 0 h0
    have : g' = g := by simpa [Value.ownBlock] using hg
    omega
  obtain ⟨ao, cap, rfl, hcap, hno, -⟩ := h
  obtain ⟨N, hN⟩ : ∃ N, ks.length = N := ⟨_, rfl⟩
  have HN : Hid (ks.length = N) := hN
  rw [hN] at hcap RD VB ⊢
  by_cases hbig : 300 < N
  · have hb' : (300 : Int) < (N : Int) := by omega
    clear RD VB hN HN
    go_enter Try.func3, Try.ntmps3
    go_wp2_with fail
    go_ret
    exact ⟨rfl, Below.refl _ _⟩
  have hb' : ¬ ((300 : Int) < (N : Int)) := by omega
  have FI : Hid (∀ (ks : List Ky) (v : Value) (w : World), ks.length ≤ 1000000 → RdK w v ks → Calls Try.prog 4 #[v] w (NewL w (flT ks ks.length))) := filled_at
  have UN : Hid (∀ (w : World), RdK w (.slice ao N cap) ks → Calls Try.prog 6 #[.slice ao N cap] w fun e w' => ∃ v', e = .returned v' ∧ RowK w.heap.size w' v' (unT ks N) ∧ Below w.heap.size w w') := fun w h => by
    have := unlike_at ks _ w (by omega) h
    rw [hN] at this
    exact this
  have LE : Hid (∀ R S L w, TQ.QAt R S L w → Calls Try.prog 5 #[.pointer (some ⟨R, 0, none⟩)] w fun e w' => e = .returned (.int .i64 (L.length : Int)) ∧ w' = w) := TQ.len_at
  clear hN
  have R1 : Hid (RdK (w.alloc (.cells #[.int .i64 2, .int .i64 3, .int .i64 4] 26)) (.slice (some ⟨w.heap.size, 0, none⟩) 1 1) [⟨2, 3, 4⟩] ∧ Below w.heap.size w (w.alloc (.cells #[.int .i64 2, .int .i64 3, .int .i64 4] 26))) := ⟨RdK.one w ⟨2, 3, 4⟩, below_alloc _ _⟩
  go_enter Try.func3, Try.ntmps3
  go_wp2_with fail
  refine (FI.out [⟨2, 3, 4⟩] _ _ (by decide) R1.out.1).mono ?_
  rintro e w1 ⟨R0, S0, rfl, q0, s0, b0⟩
  have B1 : Hid (TQ.QAt R0 S0 (flT [⟨2, 3, 4⟩] 1) w1 ∧ Below w.heap.size w w1) := ⟨q0, below_trans R1.out.2 b0⟩
  clear q0 s0 b0 R1
  go_wp2_with fail
  refine (LE.out R0 S0 _ w1 B1.out.1).mono ?_
  rintro e w2 ⟨rfl, rfl⟩
  have l1 : (flT [⟨2, 3, 4⟩] 1).length = 1 := rfl
  rw [l1]
  go_wp2_with fail
  refine (FI.out ks _ _ (by have := HN.out; omega) (RD.out w2 B1.out.2)).mono ?_
  rintro e w3 ⟨R, S, rfl, q3, s3, b3⟩
  rw [HN.out] at q3
  have D3 : Hid (TQ.QAt R S (flT ks N) w3 ∧ (∀ g, S g → w2.heap.size ≤ g) ∧ Below w.heap.size w w3 ∧ w.heap.size ≤ w2.heap.size) := ⟨q3, s3, below_trans B1.out.2 b3, B1.out.2.size⟩
  clear q3 s3 b3 B1 FI l1
  go_wp2_with fail
  refine (UN.out w3 (RD.out w3 D3.out.2.2.1)).mono ?_
  rintro e w4 ⟨va, rfl, r4, b4⟩
  have D4 : Hid (RowK w3.heap.size w4 va (unT ks N) ∧ Below w3.heap.size w3 w4) := ⟨r4, b4⟩
  obtain ⟨aa, ac, eva, hac, _, -⟩ := r4.rd
  subst eva
  obtain ⟨M, hM⟩ : ∃ M, (unT ks N).length = M := ⟨_, rfl⟩
  have HM : Hid ((unT ks N).length = M) := hM
  have hMN : M ≤ N := by rw [← hM]; exact unT_len ks N
  rw [hM] at hac D4 ⊢
  clear r4 b4 hM UN
  go_wp2_with fail
  have AC : Hid (∀ w', Below w4.heap.size w4 w' → ∀ i, i < M → ∃ g o, aa = some ⟨g, o, none⟩ ∧ w'.cell? ⟨g, o + i * 3, none⟩ = some (.int .i64 (kN (unT ks N) i).d) ∧ w'.cell? ⟨g, o + i * 3 + 1, none⟩ = some (.int .i64 (kN (unT ks N) i).l) ∧ w'.cell? ⟨g, o + i * 3 + 2, none⟩ = some (.int .i64 (kN (unT ks N) i).n)) := fun w' b i hi => by
    obtain ⟨g, o, e, h1, h2, h3, _⟩ := RdK.cells (D4.out.1.rd.later b) hi
    exact ⟨g, o, e, h1, h2, h3⟩
  have ND : Hid (∀ i, i < M → nDue day ((unT ks N).take (i + 1)) = nDue day ((unT ks N).take i) + (if (kN (unT ks N) i).d ≤ day then 1 else 0)) := fun i hi => nDue_step (by have := HM.out; omega)
  have NL : Hid (∀ i, i ≤ M → nDue day ((unT ks N).take i) ≤ i) := fun i hi => by
    have := nDue_le day ((unT ks N).take i)
    simp at this
    omega
  go_loopw [8, 9] (fun vd vi wr => ∃ i : Nat, vi = .int .i64 (i : Int) ∧ i ≤ M ∧ vd = .int .i64 (nDue day ((unT ks N).take i) : Int) ∧ wr = w4) (fun _ vi _ => M - (intOf vi).toNat)
  case atStart => exact ⟨0, rfl, by omega, by simp [nDue], rfl⟩
  case round =>
    obtain ⟨i, rfl, hi, rfl, rfl⟩ := hrel
    by_cases hlt : (i : Int) < (M : Int)
    · have hiM : i < M := by omega
      obtain ⟨g, o, rfl, c0, c1, c2⟩ := AC.out wr (Below.refl _ _) i hiM
      have hnd := ND.out i hiM
      have hnl := NL.out i hi
      generalize (kN (unT ks N) i) = x at *
      generalize nDue day ((unT ks N).take i) = c at *
      by_cases hx : x.d ≤ day
      · rw [if_pos hx] at hnd
        have HND : Hid (nDue day ((unT ks N).take (i + 1)) = c + 1) := hnd
        clear hnd
        go_wp2_with fail
        go_roundw
        case rel => exact ⟨i + 1, by go_num, by omega, by rw [HND.out]; go_num, trivial⟩
        case measure => simp [intOf]; omega
      · rw [if_neg hx] at hnd
        have HND : Hid (nDue day ((unT ks N).take (i + 1)) = c) := hnd
        clear hnd
        go_wp2_with fail
        go_roundw
        case rel => exact ⟨i + 1, by go_num, by omega, by rw [HND.out], trivial⟩
        case measure => simp [intOf]; omega
    · have eM : i = M := by omega
      subst eM
      have TA : (unT ks N).take i = unT ks N := List.take_of_length_le (by have := HM.out; omega)
      rw [TA]
      clear ND NL TA
      have hcM : nDue day (unT ks N) ≤ i := by have := nDue_le day (unT ks N); have := HM.out; omega
      obtain ⟨c, hc⟩ : ∃ c, nDue day (unT ks N) = c := ⟨_, rfl⟩
      have HC : Hid (nDue day (unT ks N) = c) := hc
      rw [hc] at hcM ⊢
      clear hc
      go_wp2_with fail
      have W5 : Hid (SW w R wr.heap.size S (flT ks N) (.slice ao N cap) (.slice aa i ac) ks (unT ks N) ⟨0, 0, 0⟩ (wr.alloc (.cells #[.int .i64 0, .int .i64 0, .int .i64 0] 26)) ∧ (0 < ks.length → (Value.slice ao N cap).ownBlock ≠ some wr.heap.size) ∧ (Value.slice aa i ac).ownBlock ≠ some wr.heap.size ∧ w.heap.size ≤ wr.heap.size) := by
        have d3 := D3.out
        have d4 := D4.out
        have hb := below_trans d3.2.2.1 d4.2
        have ba := below_alloc wr (.cells #[.int .i64 0, .int .i64 0, .int .i64 0] 26)
        refine ⟨⟨(d3.1.below d4.2).below ba, RD.out _ (below_trans hb ba), (d4.1.rd).later ba, Blk.new 26 (kyL ⟨0, 0, 0⟩) wr, below_trans hb ba, fun g hg => Nat.le_trans d3.2.2.2 (d3.2.1 g hg), fun h0 g hg hs => ?_, fun g hg hs => ?_, fun hs => ?_⟩, fun h0 e => ?_, fun e => ?_, hb.size⟩
        · have h1 := VB.out g (by rw [← HN.out]; exact h0) hg
          have h2 := d3.2.1 g hs
          have h3 := d3.2.2.2
          omega
        · have h1 := d4.1.ge hg
          have h2 := d3.1.s g hs
          omega
        · have h1 := d3.1.s _ hs
          have h2 := d4.2.size
          omega
        · have h1 := VB.out _ (by rw [← HN.out]; exact h0) e
          have h2 := hb.size
          omega
        · have h1 := d4.1.lt e
          omega
      have SS : Hid (SP ks N day (flT ks N) 0 ⟨0, 0, 0⟩) := SP.start ks N day _
      obtain ⟨LB, hLB⟩ : ∃ LB, wr.heap.size = LB := ⟨_, rfl⟩
      rw [hLB] at W5 ⊢
      generalize wr.alloc (.cells #[.int .i64 0, .int .i64 0, .int .i64 0] 26) = w5 at *
      have WK : Hid ((0 < ks.length → (Value.slice ao N cap).ownBlock ≠ some LB) ∧ (Value.slice aa i ac).ownBlock ≠ some LB ∧ w.heap.size ≤ LB) := W5.out.2
      have W6 : Hid (SW w R LB S (flT ks N) (.slice ao N cap) (.slice aa i ac) ks (unT ks N) ⟨0, 0, 0⟩ w5) := W5.out.1
      clear W5 D3 D4 RD VB AC hLB hi hlt
      have hM3 : i ≤ 300 := by omega
      generalize i = M at *
      have SA : Hid (∀ (a b : Ky) (w : World), Calls Try.prog 9 #[.agg #[.int .i64 a.d, .int .i64 a.l, .int .i64 a.n], .agg #[.int .i64 b.d, .int .i64 b.l, .int .i64 b.n]] w fun e w' => e = .returned (.bool (decide (a = b))) ∧ Below w.heap.size w w') := same_at
      have LS : Hid (∀ (a b : Ky) (w : World), Calls Try.prog 8 #[.agg #[.int .i64 a.d, .int .i64 a.l, .int .i64 a.n], .agg #[.int .i64 b.d, .int .i64 b.l, .int .i64 b.n]] w fun e w' => e = .returned (.bool (decide (TqM.lt a b))) ∧ Below w.heap.size w w') := less_at
      go_loopw [11] (fun vi wr => ∃ (i : Nat) (L : List (Ky × Int)) (last : Ky), vi = .int .i64 (i : Int) ∧ i ≤ c ∧ Hid (SW w R LB S L (.slice ao N cap) (.slice aa M ac) ks (unT ks N) last wr ∧ SP ks N day L i last)) (fun vi _ => c - (intOf vi).toNat)
      case atStart => exact ⟨0, _, _, rfl, by omega, W6.out, SS.out⟩
      case round =>
        obtain ⟨i, L, last, rfl, hic, D⟩ := hrel
        clear W6 SS
        have LN : Hid ((L.length : Int) = (M : Int) - (i : Int)) := by
          have := D.out.2.len
          rw [HM.out] at this
          show _ = _
          omega
        have LE2 : Hid (∀ w, TQ.QAt R S L w → Calls Try.prog 5 #[.pointer (some ⟨R, 0, none⟩)] w fun e w' => e = .returned (.int .i64 ((M : Int) - (i : Int))) ∧ w' = w) := fun w h => by
          have := LE.out R S L w h
          rw [LN.out] at this
          exact this
        by_cases hlt : (i : Int) < (c : Int)
        · have hic' : i < c := by omega
          obtain ⟨z, HZ, hzd⟩ : ∃ z, TQ.Least z L ∧ z.1.d ≤ day := by
            obtain ⟨x, hx, hxd⟩ := D.out.2.some (by rw [HC.out]; exact hic')
            obtain ⟨z, hz⟩ := D.out.1.q.least (fun e => by rw [e] at hx; cases hx)
            exact ⟨z, hz, hz.due hx hxd⟩
          obtain ⟨k, n⟩ := z
          obtain ⟨j, rfl, hjN, hjk, hjf⟩ := flT_first ks N (by rw [HN.out]; exact Nat.le_refl _) k n (D.out.2.sub _ HZ.1)
          have PY : Hid (∀ w, TQ.QAt R S L w → Calls Try.prog 7 #[.pointer (some ⟨R, 0, none⟩), .int .i64 day] w fun e w' => e = .returned (.tuple #[.agg #[.int .i64 k.d, .int .i64 k.l, .int .i64 k.n], .int .i64 (j : Int), .bool true]) ∧ ∃ L', L.Perm ((k, (j : Int)) :: L') ∧ TQ.QAt R S L' w' ∧ Kp S w w') := fun w h => TQ.pop_yes R S L w day (k, (j : Int)) h (by have := LN.out; omega) HZ hzd
          have STP : Hid (∀ L', L.Perm ((k, (j : Int)) :: L') → SP ks N day L' (i + 1) k) := fun L' hp => SPstep D.out.2 HZ hzd D.out.1.q.nodup hp
          have UP : Hid (0 < i → TqM.lt last k) := fun h0 => D.out.2.up h0 _ HZ.1
          have KJ : Hid (kN ks j = k ∧ ∀ i, i < j → kN ks i ≠ k) := ⟨hjk, hjf⟩
          clear HZ hjk hjf LE
          go_wp2_with fail
          refine (LE2.out wr D.out.1.q).mono ?_
          rintro e w6 ⟨rfl, rfl⟩
          go_wp2_with fail
          refine (PY.out _ D.out.1.q).mono ?_
          rintro e w7 ⟨rfl, L', hp7, q7, k7⟩
          have D7 : Hid (SW w R LB S L' (.slice ao N cap) (.slice aa M ac) ks (unT ks N) last w7 ∧ SP ks N day L' (i + 1) k) := ⟨D.out.1.pop q7 k7, STP.out L' hp7⟩
          clear hp7 q7 k7 D PY STP LE2 LN
          go_upto_region 23 with fail
          have D8 : Hid (SW w R LB S L' (.slice ao N cap) (.slice aa M ac) ks (unT ks N) last (w7.alloc (.cells #[.int .i64 k.d, .int .i64 k.l, .int .i64 k.n] 26)) ∧ Blk w7.heap.size 26 (kyL k) (w7.alloc (.cells #[.int .i64 k.d, .int .i64 k.l, .int .i64 k.n] 26)) ∧ SP ks N day L' (i + 1) k) := ⟨D7.out.1.below (below_alloc _ _), Blk.new 26 (kyL k) w7, D7.out.2⟩
          have KL : Hid (w7.heap.size ≠ LB) := fun e => by have := D7.out.1.b.lt; omega
          clear D7
          generalize w7.alloc (.cells #[.int .i64 k.d, .int .i64 k.l, .int .i64 k.n] 26) = w8 at *
          generalize w7.heap.size = KB at *
          clear w7
          obtain ⟨g, o, hao, x0, x1, x2, _⟩ := RdK.cells D8.out.1.k hjN
          rw [KJ.out.1] at x0 x1 x2
          subst hao
          go_cut [111] from 56 to 123 (fun v wx => v = .bool false ∧ Below w8.heap.size w8 wx)
          case first =>
            have S0 : Hid (K9 w8 LB KB g (o + j * 3) last k k w8.drew) := ⟨Below.drew (Below.refl _ _), D8.out.1.b.cell 0 _ rfl, D8.out.1.b.cell 1 _ rfl, D8.out.1.b.cell 2 _ rfl, D8.out.2.1.cell 0 _ rfl, D8.out.2.1.cell 1 _ rfl, D8.out.2.1.cell 2 _ rfl, x0, x1, x2⟩
            have SA2 : Hid (∀ w, Calls Try.prog 9 #[.agg #[.int .i64 k.d, .int .i64 k.l, .int .i64 k.n], .agg #[.int .i64 k.d, .int .i64 k.l, .int .i64 k.n]] w fun e w' => e = .returned (.bool true) ∧ Below w.heap.size w w') := fun w => by
              have := SA.out k k w
              rw [decide_eq_true rfl] at this
              exact this
            have q1 : decide (day < k.d) = false := decide_eq_false (by have : k.d ≤ day := hzd; omega)
            have q2 : decide ((j : Int) < 0) = false := decide_eq_false (by omega)
            have q3 : decide ((N : Int) ≤ (j : Int)) = false := decide_eq_false (by omega)
            have q3' : decide (N ≤ j) = false := decide_eq_false (by omega)
            have hjN' : (j : Int) < (N : Int) := by omega
            clear x0 x1 x2 SA
            by_cases h0 : 0 < i
            · have LS2 : Hid (∀ w, Calls Try.prog 8 #[.agg #[.int .i64 last.d, .int .i64 last.l, .int .i64 last.n], .agg #[.int .i64 k.d, .int .i64 k.l, .int .i64 k.n]] w fun e w' => e = .returned (.bool true) ∧ Below w.heap.size w w') := fun w => by
                have := LS.out last k w
                rw [decide_eq_true (UP.out h0)] at this
                exact this
              have q4 : decide ((0 : Int) < (i : Int)) = true := decide_eq_true (by omega)
              have q4' : decide (0 < i) = true := decide_eq_true h0
              clear LS UP D8
              go_region_held3 (fun w' => K9 w8 LB KB g (o + j * 3) last k k w') (first | assumption | exact S0.out | exact K9.keep hU (by assumption)) (first
                | (go_at_call 9; refine (SA2.out _).mono ?_; rintro e w9 ⟨rfl, hU⟩)
                | (go_at_call 8; refine (LS2.out _).mono ?_; rintro e w9 ⟨rfl, hU⟩))
              have B9 : Hid (Below w8.heap.size w8 w9) := And.left (show K9 w8 LB KB g (o + j * 3) last k k w9 by assumption)
              go_wp2_with fail
              go_meet
              exact ⟨rfl, B9.out⟩
            · have q4 : decide ((0 : Int) < (i : Int)) = false := decide_eq_false (by omega)
              have q4' : decide (0 < i) = false := decide_eq_false h0
              clear LS UP D8
              refine wp_region_held_drew (S := fun w' => K9 w8 LB KB g (o + j * 3) last k k w') (by kernel_rfl) S0.out (fun hH => ?_)
              refine wpAnyH_take (i := 0) (oi := { dst := some 75, op := Op.move (Operand.tmp 14), type := 4, pos := "outright.go:81", after := #[], guard := none }) (v := .bool true) rfl (by kernel_rfl) (by kernel_rfl) (by kernel_rfl) (fun _ _ _ h => h) (Or.inl ⟨by rfl, fun w' hs => by go_simp⟩) hH ?_
              simp only [Act.put, List.setIfInBounds_toArray, List.set_cons_zero, List.set_cons_succ]
              refine wpAnyH_take (i := 1) (oi := { dst := some 76, op := Op.unOp UnOp.not 4 (Operand.tmp 75), type := 4, pos := "outright.go:81", after := #[{ on := 0, ground := Ground.data }], guard := none }) (v := .bool false) rfl (by kernel_rfl) (by kernel_rfl) (by kernel_rfl) (fun _ _ _ h => h) (Or.inl ⟨by rfl, fun w' hs => by go_simp⟩) hH ?_
              simp only [Act.put, List.setIfInBounds_toArray, List.set_cons_zero, List.set_cons_succ]
              refine wpAnyH_take (i := 2) (oi := { dst := some 77, op := Op.move (Operand.tmp 76), type := 4, pos := "outright.go:81", after := #[{ on := 1, ground := Ground.data }], guard := none }) (v := .bool false) rfl (by kernel_rfl) (by kernel_rfl) (by kernel_rfl) (fun _ _ _ h => h) (Or.inl ⟨by rfl, fun w' hs => by go_simp⟩) hH ?_
              simp only [Act.put, List.setIfInBounds_toArray, List.set_cons_zero, List.set_cons_succ]
              refine wpAnyH_take (i := 3) (oi := { dst := some 78, op := Op.fieldAddr 26 (Operand.tmp 12) 0, type := 0, pos := "outright.go:81", after := #[{ on := 2, ground := Ground.guard }], guard := some (2, false) }) (v := .pointer (some ⟨KB, 0, none⟩)) rfl (by kernel_rfl) (by kernel_rfl) (by kernel_rfl) (fun _ _ _ h => h) (Or.inl ⟨by rfl, fun w' hs => by go_simp⟩) hH ?_
              simp only [Act.put, List.setIfInBounds_toArray, List.set_cons_zero, List.set_cons_succ]
              refine wpAnyH_take (i := 4) (oi := { dst := some 79, op := Op.load 3 (Operand.tmp 78), type := 3, pos := "outright.go:81", after := #[{ on := 3, ground := Ground.data }, { on := 2, ground := Ground.guard }], guard := some (2, false) }) (v := .int .i64 k.d) rfl (by kernel_rfl) (by kernel_rfl) (by kernel_rfl) (fun _ _ _ h => h) (Or.inl ⟨by rfl, fun w' hs => by obtain ⟨_, h0, h1, h2, h3, h4, h5, h6, h7, h8⟩ := hs; go_simp⟩) hH ?_
              simp only [Act.put, List.setIfInBounds_toArray, List.set_cons_zero, List.set_cons_succ]
              refine wpAnyH_take (i := 5) (oi := { dst := some 80, op := Op.move (Operand.tmp 1), type := 3, pos := "outright.go:81", after := #[{ on := 2, ground := Ground.guard }], guard := some (2, false) }) (v := .int .i64 day) rfl (by kernel_rfl) (by kernel_rfl) (by kernel_rfl) (fun _ _ _ h => h) (Or.inl ⟨by rfl, fun w' hs => by go_simp⟩) hH ?_
              simp only [Act.put, List.setIfInBounds_toArray, List.set_cons_zero, List.set_cons_succ]
              refine wpAnyH_take (i := 6) (oi := { dst := some 81, op := Op.binOp BinOp.gtr 3 (Operand.tmp 79) (Operand.tmp 80) 3, type := 4, pos := "outright.go:81", after := #[{ on := 4, ground := Ground.data }, { on := 5, ground := Ground.data }, { on := 2, ground := Ground.guard }], guard := some (2, false) }) (v := .bool false) rfl (by kernel_rfl) (by kernel_rfl) (by kernel_rfl) (fun _ _ _ h => h) (Or.inl ⟨by rfl, fun w' hs => by go_simp⟩) hH ?_
              simp only [Act.put, List.setIfInBounds_toArray, List.set_cons_zero, List.set_cons_succ]
              refine wpAnyH_take (i := 7) (oi := { dst := some 82, op := Op.pick (Operand.tmp 77) (Operand.const (Value.bool true)) (Operand.tmp 81), type := 4, pos := "outright.go:81", after := #[{ on := 2, ground := Ground.data }, { on := 6, ground := Ground.data }], guard := none }) (v := .bool false) rfl (by kernel_rfl) (by kernel_rfl) (by kernel_rfl) (fun _ _ _ h => h) (Or.inl ⟨by rfl, fun w' hs => by go_simp⟩) hH ?_
              simp only [Act.put, List.setIfInBounds_toArray, List.set_cons_zero, List.set_cons_succ]
              refine wpAnyH_take (i := 8) (oi := { dst := some 83, op := Op.move (Operand.tmp 82), type := 4, pos := "outright.go:81", after := #[{ on := 7, ground := Ground.data }, { on := 2, ground := Ground.chain }], guard := none }) (v := .bool false) rfl (by kernel_rfl) (by kernel_rfl) (by kernel_rfl) (fun _ _ _ h => h) (Or.inl ⟨by rfl, fun w' hs => by go_simp⟩) hH ?_
              simp only [Act.put, List.setIfInBounds_toArray, List.set_cons_zero, List.set_cons_succ]
              refine wpAnyH_take (i := 9) (oi := { dst := some 84, op := Op.move (Operand.tmp 11), type := 3, pos := "outright.go:81", after := #[{ on := 8, ground := Ground.guard }], guard := some (8, false) }) (v := .int .i64 (i : Int)) rfl (by kernel_rfl) (by kernel_rfl) (by kernel_rfl) (fun _ _ _ h => h) (Or.inl ⟨by rfl, fun w' hs => by go_simp⟩) hH ?_
              simp only [Act.put, List.setIfInBounds_toArray, List.set_cons_zero, List.set_cons_succ]
              refine wpAnyH_take (i := 10) (oi := { dst := some 85, op := Op.binOp BinOp.gtr 3 (Operand.tmp 84) (Operand.const (Value.int IntKind.i64 0)) 3, type := 4, pos := "outright.go:81", after := #[{ on := 9, ground := Ground.data }, { on := 8, ground := Ground.guard }], guard := some (8, false) }) (v := .bool false) rfl (by kernel_rfl) (by kernel_rfl) (by kernel_rfl) (fun _ _ _ h => h) (Or.inl ⟨by rfl, fun w' hs => by go_simp⟩) hH ?_
              simp only [Act.put, List.setIfInBounds_toArray, List.set_cons_zero, List.set_cons_succ]
              refine wpAnyH_take (i := 11) (oi := { dst := some 86, op := Op.move (Operand.tmp 85), type := 4, pos := "outright.go:81", after := #[{ on := 10, ground := Ground.data }, { on := 8, ground := Ground.chain }, { on := 8, ground := Ground.guard }], guard := some (8, false) }) (v := .bool false) rfl (by kernel_rfl) (by kernel_rfl) (by kernel_rfl) (fun _ _ _ h => h) (Or.inl ⟨by rfl, fun w' hs => by go_simp⟩) hH ?_
              simp only [Act.put, List.setIfInBounds_toArray, List.set_cons_zero, List.set_cons_succ]
              refine wpAnyH_take (i := 12) (oi := { dst := some 87, op := Op.load 26 (Operand.tmp 10), type := 26, pos := "outright.go:81", after := #[{ on := 11, ground := Ground.guard }], guard := some (11, true) }) (v := undef) rfl (by kernel_rfl) (by kernel_rfl) (by kernel_rfl) (fun _ _ _ h => h) (Or.inr ⟨by rfl, rfl⟩) hH ?_
              simp only [Act.put, List.setIfInBounds_toArray, List.set_cons_zero, List.set_cons_succ]
              refine wpAnyH_take (i := 13) (oi := { dst := some 88, op := Op.load 26 (Operand.tmp 12), type := 26, pos := "outright.go:81", after := #[{ on := 11, ground := Ground.guard }], guard := some (11, true) }) (v := undef) rfl (by kernel_rfl) (by kernel_rfl) (by kernel_rfl) (fun _ _ _ h => h) (Or.inr ⟨by rfl, rfl⟩) hH ?_
              simp only [Act.put, List.setIfInBounds_toArray, List.set_cons_zero, List.set_cons_succ]
              refine wpAnyH_take (i := 14) (oi := { dst := some 89, op := Op.call { callee := Callee.value (Operand.func 8), args := #[Operand.tmp 87, Operand.tmp 88], argTypes := #[26, 26] }, type := 4, pos := "outright.go:81", after := #[{ on := 12, ground := Ground.data }, { on := 13, ground := Ground.data }, { on := 11, ground := Ground.chain }, { on := 11, ground := Ground.guard }], guard := some (11, true) }) (v := undef) rfl (by kernel_rfl) (by kernel_rfl) (by kernel_rfl) (fun _ _ _ h => h) (Or.inr ⟨by rfl, rfl⟩) hH ?_
              simp only [Act.put, List.setIfInBounds_toArray, List.set_cons_zero, List.set_cons_succ]
              refine wpAnyH_take (i := 15) (oi := { dst := some 90, op := Op.unOp UnOp.not 4 (Operand.tmp 89), type := 4, pos := "outright.go:81", after := #[{ on := 14, ground := Ground.data }, { on := 11, ground := Ground.guard }], guard := some (11, true) }) (v := undef) rfl (by kernel_rfl) (by kernel_rfl) (by kernel_rfl) (fun _ _ _ h => h) (Or.inr ⟨by rfl, rfl⟩) hH ?_
              simp only [Act.put, List.setIfInBounds_toArray, List.set_cons_zero, List.set_cons_succ]
              refine wpAnyH_take (i := 16) (oi := { dst := some 91, op := Op.pick (Operand.tmp 86) (Operand.tmp 90) (Operand.const (Value.bool false)), type := 4, pos := "outright.go:81", after := #[{ on := 11, ground := Ground.data }, { on := 15, ground := Ground.data }, { on := 8, ground := Ground.guard }], guard := some (8, false) }) (v := .bool false) rfl (by kernel_rfl) (by kernel_rfl) (by kernel_rfl) (fun _ _ _ h => h) (Or.inl ⟨by rfl, fun w' hs => by go_simp⟩) hH ?_
              simp only [Act.put, List.setIfInBounds_toArray, List.set_cons_zero, List.set_cons_succ]
              refine wpAnyH_take (i := 17) (oi := { dst := some 92, op := Op.pick (Operand.tmp 83) (Operand.const (Value.bool true)) (Operand.tmp 91), type := 4, pos := "outright.go:81", after := #[{ on := 8, ground := Ground.data }, { on := 16, ground := Ground.data }], guard := none }) (v := .bool false) rfl (by kernel_rfl) (by kernel_rfl) (by kernel_rfl) (fun _ _ _ h => h) (Or.inl ⟨by rfl, fun w' hs => by go_simp⟩) hH ?_
              simp only [Act.put, List.setIfInBounds_toArray, List.set_cons_zero, List.set_cons_succ]
              refine wpAnyH_take (i := 18) (oi := { dst := some 93, op := Op.move (Operand.tmp 92), type := 4, pos := "outright.go:81", after := #[{ on := 17, ground := Ground.data }, { on := 14, ground := Ground.chain }], guard := none }) (v := .bool false) rfl (by kernel_rfl) (by kernel_rfl) (by kernel_rfl) (fun _ _ _ h => h) (Or.inl ⟨by rfl, fun w' hs => by go_simp⟩) hH ?_
              simp only [Act.put, List.setIfInBounds_toArray, List.set_cons_zero, List.set_cons_succ]
              refine wpAnyH_take (i := 19) (oi := { dst := some 94, op := Op.move (Operand.tmp 13), type := 3, pos := "outright.go:81", after := #[{ on := 18, ground := Ground.guard }], guard := some (18, false) }) (v := .int .i64 (j : Int)) rfl (by kernel_rfl) (by kernel_rfl) (by kernel_rfl) (fun _ _ _ h => h) (Or.inl ⟨by rfl, fun w' hs => by go_simp⟩) hH ?_
              simp only [Act.put, List.setIfInBounds_toArray, List.set_cons_zero, List.set_cons_succ]
              refine wpAnyH_take (i := 20) (oi := { dst := some 95, op := Op.binOp BinOp.lss 3 (Operand.tmp 94) (Operand.const (Value.int IntKind.i64 0)) 3, type := 4, pos := "outright.go:81", after := #[{ on := 19, ground := Ground.data }, { on := 18, ground := Ground.guard }], guard := some (18, false) }) (v := .bool false) rfl (by kernel_rfl) (by kernel_rfl) (by kernel_rfl) (fun _ _ _ h => h) (Or.inl ⟨by rfl, fun w' hs => by go_simp⟩) hH ?_
              simp only [Act.put, List.setIfInBounds_toArray, List.set_cons_zero, List.set_cons_succ]
              refine wpAnyH_take (i := 21) (oi := { dst := some 96, op := Op.pick (Operand.tmp 93) (Operand.const (Value.bool true)) (Operand.tmp 95), type := 4, pos := "outright.go:81", after := #[{ on := 18, ground := Ground.data }, { on := 20, ground := Ground.data }], guard := none }) (v := .bool false) rfl (by kernel_rfl) (by kernel_rfl) (by kernel_rfl) (fun _ _ _ h => h) (Or.inl ⟨by rfl, fun w' hs => by go_simp⟩) hH ?_
              simp only [Act.put, List.setIfInBounds_toArray, List.set_cons_zero, List.set_cons_succ]
              refine wpAnyH_take (i := 22) (oi := { dst := some 97, op := Op.move (Operand.tmp 96), type := 4, pos := "outright.go:81", after := #[{ on := 21, ground := Ground.data }, { on := 18, ground := Ground.chain }], guard := none }) (v := .bool false) rfl (by kernel_rfl) (by kernel_rfl) (by kernel_rfl) (fun _ _ _ h => h) (Or.inl ⟨by rfl, fun w' hs => by go_simp⟩) hH ?_
              simp only [Act.put, List.setIfInBounds_toArray, List.set_cons_zero, List.set_cons_succ]
              refine wpAnyH_take (i := 23) (oi := { dst := some 98, op := Op.move (Operand.tmp 13), type := 3, pos := "outright.go:81", after := #[{ on := 22, ground := Ground.guard }], guard := some (22, false) }) (v := .int .i64 (j : Int)) rfl (by kernel_rfl) (by kernel_rfl) (by kernel_rfl) (fun _ _ _ h => h) (Or.inl ⟨by rfl, fun w' hs => by go_simp⟩) hH ?_
              simp only [Act.put, List.setIfInBounds_toArray, List.set_cons_zero, List.set_cons_succ]
              refine wpAnyH_take (i := 24) (oi := { dst := some 99, op := Op.move (Operand.tmp 0), type := 22, pos := "outright.go:81", after := #[{ on := 22, ground := Ground.guard }], guard := some (22, false) }) (v := .slice (some ⟨g, o, none⟩) N cap) rfl (by kernel_rfl) (by kernel_rfl) (by kernel_rfl) (fun _ _ _ h => h) (Or.inl ⟨by rfl, fun w' hs => by go_simp⟩) hH ?_
              simp only [Act.put, List.setIfInBounds_toArray, List.set_cons_zero, List.set_cons_succ]
              refine wpAnyH_take (i := 25) (oi := { dst := some 100, op := Op.call { callee := Callee.builtin Builtin.len, args := #[Operand.tmp 99], argTypes := #[22] }, type := 3, pos := "outright.go:81", after := #[{ on := 24, ground := Ground.data }, { on := 22, ground := Ground.guard }], guard := some (22, false) }) (v := .int .i64 (N : Int)) rfl (by kernel_rfl) (by kernel_rfl) (by kernel_rfl) (fun _ _ _ h => h) (Or.inl ⟨by rfl, fun w' hs => by go_simp⟩) hH ?_
              simp only [Act.put, List.setIfInBounds_toArray, List.set_cons_zero, List.set_cons_succ]
              refine wpAnyH_take (i := 26) (oi := { dst := some 101, op := Op.binOp BinOp.geq 3 (Operand.tmp 98) (Operand.tmp 100) 3, type := 4, pos := "outright.go:81", after := #[{ on := 23, ground := Ground.data }, { on := 25, ground := Ground.data }, { on := 22, ground := Ground.guard }], guard := some (22, false) }) (v := .bool false) rfl (by kernel_rfl) (by kernel_rfl) (by kernel_rfl) (fun _ _ _ h => h) (Or.inl ⟨by rfl, fun w' hs => by go_simp⟩) hH ?_
              simp only [Act.put, List.setIfInBounds_toArray, List.set_cons_zero, List.set_cons_succ]
              refine wpAnyH_take (i := 27) (oi := { dst := some 102, op := Op.pick (Operand.tmp 97) (Operand.const (Value.bool true)) (Operand.tmp 101), type := 4, pos := "outright.go:81", after := #[{ on := 22, ground := Ground.data }, { on := 26, ground := Ground.data }], guard := none }) (v := .bool false) rfl (by kernel_rfl) (by kernel_rfl) (by kernel_rfl) (fun _ _ _ h => h) (Or.inl ⟨by rfl, fun w' hs => by go_simp⟩) hH ?_
              simp only [Act.put, List.setIfInBounds_toArray, List.set_cons_zero, List.set_cons_succ]
              refine wpAnyH_take (i := 28) (oi := { dst := some 103, op := Op.move (Operand.tmp 102), type := 4, pos := "outright.go:81", after := #[{ on := 27, ground := Ground.data }, { on := 22, ground := Ground.chain }], guard := none }) (v := .bool false) rfl (by kernel_rfl) (by kernel_rfl) (by kernel_rfl) (fun _ _ _ h => h) (Or.inl ⟨by rfl, fun w' hs => by go_simp⟩) hH ?_
              simp only [Act.put, List.setIfInBounds_toArray, List.set_cons_zero, List.set_cons_succ]
              refine wpAnyH_take (i := 29) (oi := { dst := some 104, op := Op.move (Operand.tmp 0), type := 22, pos := "outright.go:81", after := #[{ on := 28, ground := Ground.guard }], guard := some (28, false) }) (v := .slice (some ⟨g, o, none⟩) N cap) rfl (by kernel_rfl) (by kernel_rfl) (by kernel_rfl) (fun _ _ _ h => h) (Or.inl ⟨by rfl, fun w' hs => by go_simp⟩) hH ?_
              simp only [Act.put, List.setIfInBounds_toArray, List.set_cons_zero, List.set_cons_succ]
              refine wpAnyH_take (i := 30) (oi := { dst := some 105, op := Op.move (Operand.tmp 13), type := 3, pos := "outright.go:81", after := #[{ on := 28, ground := Ground.guard }], guard := some (28, false) }) (v := .int .i64 (j : Int)) rfl (by kernel_rfl) (by kernel_rfl) (by kernel_rfl) (fun _ _ _ h => h) (Or.inl ⟨by rfl, fun w' hs => by go_simp⟩) hH ?_
              simp only [Act.put, List.setIfInBounds_toArray, List.set_cons_zero, List.set_cons_succ]
              refine wpAnyH_take (i := 31) (oi := { dst := some 106, op := Op.indexAddr 22 (Operand.tmp 104) (Operand.tmp 105), type := 0, pos := "outright.go:81", after := #[{ on := 29, ground := Ground.data }, { on := 30, ground := Ground.data }, { on := 28, ground := Ground.guard }], guard := some (28, false) }) (v := .pointer (some ⟨g, o + j * 3, none⟩)) rfl (by kernel_rfl) (by kernel_rfl) (by kernel_rfl) (fun _ _ _ h => h) (Or.inl ⟨by rfl, fun w' hs => by go_simp⟩) hH ?_
              simp only [Act.put, List.setIfInBounds_toArray, List.set_cons_zero, List.set_cons_succ]
              refine wpAnyH_take (i := 32) (oi := { dst := some 107, op := Op.load 26 (Operand.tmp 106), type := 26, pos := "outright.go:81", after := #[{ on := 31, ground := Ground.data }, { on := 28, ground := Ground.guard }], guard := some (28, false) }) (v := .agg #[.int .i64 k.d, .int .i64 k.l, .int .i64 k.n]) rfl (by kernel_rfl) (by kernel_rfl) (by kernel_rfl) (fun _ _ _ h => h) (Or.inl ⟨by rfl, fun w' hs => by obtain ⟨_, h0, h1, h2, h3, h4, h5, h6, h7, h8⟩ := hs; go_simp⟩) hH ?_
              simp only [Act.put, List.setIfInBounds_toArray, List.set_cons_zero, List.set_cons_succ]
              refine wpAnyH_take (i := 33) (oi := { dst := some 108, op := Op.load 26 (Operand.tmp 12), type := 26, pos := "outright.go:81", after := #[{ on := 28, ground := Ground.guard }], guard := some (28, false) }) (v := .agg #[.int .i64 k.d, .int .i64 k.l, .int .i64 k.n]) rfl (by kernel_rfl) (by kernel_rfl) (by kernel_rfl) (fun _ _ _ h => h) (Or.inl ⟨by rfl, fun w' hs => by obtain ⟨_, h0, h1, h2, h3, h4, h5, h6, h7, h8⟩ := hs; go_simp⟩) hH ?_
              simp only [Act.put, List.setIfInBounds_toArray, List.set_cons_zero, List.set_cons_succ]
              refine wpAnyH_ready (rs := [34]) (by kernel_rfl) (by simp) ?_
              refine AllReadyH.cons (o := { dst := some 109, op := Op.call { callee := Callee.value (Operand.func 9), args := #[Operand.tmp 107, Operand.tmp 108], argTypes := #[26, 26] }, type := 4, pos := "outright.go:81", after := #[{ on := 32, ground := Ground.data }, { on := 33, ground := Ground.data }, { on := 28, ground := Ground.chain }, { on := 28, ground := Ground.guard }], guard := some (28, false) }) rfl (fun K hK => ?_) AllReadyH.nil
              go_simp
              refine (SA2.out _).mono ?_
              rintro e w9 ⟨rfl, hU⟩
              refine hK.out _ _ (K9.keep hU hH) (fun hH => ?_)
              refine wpAnyH_take (i := 35) (oi := { dst := some 110, op := Op.unOp UnOp.not 4 (Operand.tmp 109), type := 4, pos := "outright.go:81", after := #[{ on := 34, ground := Ground.data }, { on := 28, ground := Ground.guard }], guard := some (28, false) }) (v := .bool false) rfl (by kernel_rfl) (by kernel_rfl) (by kernel_rfl) (fun _ _ _ h => h) (Or.inl ⟨by rfl, fun w' hs => by go_simp⟩) hH ?_
              simp only [Act.put, List.setIfInBounds_toArray, List.set_cons_zero, List.set_cons_succ]
              refine wpAnyH_take (i := 36) (oi := { dst := some 111, op := Op.pick (Operand.tmp 103) (Operand.const (Value.bool true)) (Operand.tmp 110), type := 4, pos := "outright.go:81", after := #[{ on := 28, ground := Ground.data }, { on := 35, ground := Ground.data }], guard := none }) (v := .bool false) rfl (by kernel_rfl) (by kernel_rfl) (by kernel_rfl) (fun _ _ _ h => h) (Or.inl ⟨by rfl, fun w' hs => by go_simp⟩) hH ?_
              simp only [Act.put, List.setIfInBounds_toArray, List.set_cons_zero, List.set_cons_succ]
              refine wpAnyH_done (by kernel_rfl) ?_ _
              have B9 : Hid (Below w8.heap.size w8 w9) := hH.1
              clear hH hK hU
              go_wp2_with fail
              go_meet
              exact ⟨rfl, B9.out⟩
          case rest =>
            obtain ⟨rfl, bc⟩ := hcut
            have D9 : Hid (SW w R LB S L' (.slice (some ⟨g, o, none⟩) N cap) (.slice aa M ac) ks (unT ks N) last wc ∧ Blk KB 26 (kyL k) wc ∧ SP ks N day L' (i + 1) k) := ⟨D8.out.1.below bc, D8.out.2.1.below bc, D8.out.2.2⟩
            have SPP : Hid (SP ks N day L' (i + 1) k) := D8.out.2.2
            have D10 : Hid (SW w R LB S L' (.slice (some ⟨g, o, none⟩) N cap) (.slice aa M ac) ks (unT ks N) last wc ∧ Blk KB 26 (kyL k) wc ∧ KB ≠ LB) := ⟨D9.out.1, D9.out.2.1, KL.out⟩
            clear bc D8 D9 x0 x1 x2 UP LS KL
            go_wp2_with fail
            go_loopw [15] (fun vj wr => ∃ j' : Nat, vj = .int .i64 (j' : Int) ∧ j' ≤ j ∧ Hid (SW w R LB S L' (.slice (some ⟨g, o, none⟩) N cap) (.slice aa M ac) ks (unT ks N) last wr ∧ Blk KB 26 (kyL k) wr ∧ KB ≠ LB)) (fun vj _ => j - (intOf vj).toNat)
            case atStart => exact ⟨0, rfl, by omega, D10.out⟩
            case round =>
              obtain ⟨j', rfl, hj', E⟩ := hrel
              clear D10
              by_cases hjl : (j' : Int) < (j : Int)
              · have hjj : j' < j := by omega
                have hjN2 : j' < N := by omega
                obtain ⟨g2, o2, hao, x0, x1, x2, _⟩ := RdK.cells E.out.1.k hjN2
                cases hao
                have SA2 : Hid (∀ w, Calls Try.prog 9 #[.agg #[.int .i64 (kN ks j').d, .int .i64 (kN ks j').l, .int .i64 (kN ks j').n], .agg #[.int .i64 k.d, .int .i64 k.l, .int .i64 k.n]] w fun e w' => e = .returned (.bool false) ∧ Below w.heap.size w w') := fun w => by
                  have := SA.out (kN ks j') k w
                  rw [decide_eq_false (KJ.out.2 j' hjj)] at this
                  exact this
                generalize kN ks j' = y at *
                have S0 : Hid (K9 wr KB KB g (o + j' * 3) k k y wr.drew) := ⟨Below.drew (Below.refl _ _), E.out.2.1.cell 0 _ rfl, E.out.2.1.cell 1 _ rfl, E.out.2.1.cell 2 _ rfl, E.out.2.1.cell 0 _ rfl, E.out.2.1.cell 1 _ rfl, E.out.2.1.cell 2 _ rfl, x0, x1, x2⟩
                clear x0 x1 x2
                go_upto_region 28 with fail
                go_region_held3 (fun w' => K9 wr KB KB g (o + j' * 3) k k y w') (first | assumption | exact S0.out | exact K9.keep hU (by assumption)) (first
                  | (go_at_call 9; refine (SA2.out _).mono ?_; rintro e w9 ⟨rfl, hU⟩))
                have b9 : Below wr.heap.size wr w9 := And.left (show K9 wr KB KB g (o + j' * 3) k k y w9 by assumption)
                have E2 : Hid (SW w R LB S L' (.slice (some ⟨g, o, none⟩) N cap) (.slice aa M ac) ks (unT ks N) last w9 ∧ Blk KB 26 (kyL k) w9 ∧ KB ≠ LB) := ⟨E.out.1.below b9, E.out.2.1.below b9, E.out.2.2⟩
                clear S0 E b9 hU SA2
                go_wp2_with fail
                go_roundw
                case rel => exact ⟨j' + 1, by go_num, by omega, E2.out⟩
                case measure => simp [intOf]; omega
              · have a0 := E.out.1.b.cell 0 _ rfl
                have a1 := E.out.1.b.cell 1 _ rfl
                have a2 := E.out.1.b.cell 2 _ rfl
                have f0 := E.out.1.b.fz 0
                have f1 := E.out.1.b.fz 1
                have f2 := E.out.1.b.fz 2
                have x0 := E.out.2.1.cell 0 _ rfl
                have x1 := E.out.2.1.cell 1 _ rfl
                have x2 := E.out.2.1.cell 2 _ rfl
                have nKL : KB ≠ LB := E.out.2.2
                have E2 : Hid (SW w R LB S L' (.slice (some ⟨g, o, none⟩) N cap) (.slice aa M ac) ks (unT ks N) k (((wr.setCell ⟨LB, 0, none⟩ (.int .i64 k.d)).setCell ⟨LB, 1, none⟩ (.int .i64 k.l)).setCell ⟨LB, 2, none⟩ (.int .i64 k.n))) := E.out.1.last WK.out.1 WK.out.2.1 WK.out.2.2
                clear E
                go_wp2_with fail
                go_roundw
                case rel => exact ⟨i + 1, L', k, by go_num, by omega, E2.out, SPP.out⟩
                case measure => simp [intOf]; omega
        · have eic : i = c := by omega
          subst eic
          have PN : Hid (∀ w, TQ.QAt R S L w → Calls Try.prog 7 #[.pointer (some ⟨R, 0, none⟩), .int .i64 day] w (TQ.NotDue w)) := fun w h => by
            by_cases hL : L = []
            · subst hL
              exact TQ.pop_none R S w day h
            · obtain ⟨z, hz⟩ := h.least hL
              exact TQ.pop_late R S L w day z h hz (D.out.2.none (by rw [HC.out]; exact Nat.le_refl _) z hz.1)
          have GET : Hid (∀ m, m < M → (day < (kN (unT ks N) m).d ∧ ∃ v, (kN (unT ks N) m, v) ∈ L) ∨ ((kN (unT ks N) m).d ≤ day ∧ kN (unT ks N) m ∉ L.map (·.1))) := fun m hm => SPget D.out.2 (by rw [HC.out]; exact Nat.le_refl _) _ (by rw [kN_at (by rw [HM.out]; exact hm)]; exact List.getElem_mem _)
          have D2 : Hid (SW w R LB S L (.slice ao N cap) (.slice aa M ac) ks (unT ks N) last wr) := D.out.1
          clear D SA LS LE
          go_wp2_with fail
          refine (PN.out wr D2.out.q).mono ?_
          rintro e w6 ⟨rfl, b6⟩
          have D6 : Hid (SW w R LB S L (.slice ao N cap) (.slice aa M ac) ks (unT ks N) last (w6.alloc (.cells #[.int .i64 0, .int .i64 0, .int .i64 0] 26))) := D2.out.below (below_trans b6 (below_alloc _ _))
          clear D2 b6 PN
          go_wp2_with fail
          refine (LE2.out _ D6.out.q).mono ?_
          rintro e w7 ⟨rfl, rfl⟩
          have GY : Hid (∀ w k v, TQ.QAt R S L w → (k, v) ∈ L → Calls Try.prog 10 #[.pointer (some ⟨R, 0, none⟩), .agg #[.int .i64 k.d, .int .i64 k.l, .int .i64 k.n]] w fun e w' => e = .returned (.tuple #[.int .i64 v, .bool true]) ∧ Below w.heap.size w w') := fun w k v => TQ.get_yes R S L w k v
          have GN : Hid (∀ w k, TQ.QAt R S L w → k ∉ L.map (·.1) → Calls Try.prog 10 #[.pointer (some ⟨R, 0, none⟩), .agg #[.int .i64 k.d, .int .i64 k.l, .int .i64 k.n]] w fun e w' => e = .returned (.tuple #[.int .i64 0, .bool false]) ∧ Below w.heap.size w w') := fun w k => TQ.get_no R S L w k
          clear LE2 LN
          go_wp2_with fail
          generalize w6.alloc (.cells #[.int .i64 0, .int .i64 0, .int .i64 0] 26) = w8 at *
          go_loopw [19] (fun vm wr => ∃ m : Nat, vm = .int .i64 (m : Int) ∧ m ≤ M ∧ Hid (SW w R LB S L (.slice ao N cap) (.slice aa M ac) ks (unT ks N) last wr)) (fun vm _ => M - (intOf vm).toNat)
          case atStart => exact ⟨0, rfl, by omega, D6.out⟩
          case round =>
            obtain ⟨m, rfl, hm, E⟩ := hrel
            clear D6
            by_cases hlt2 : (m : Int) < (M : Int)
            · have hmM : m < M := by omega
              obtain ⟨g2, o2, rfl, x0, x1, x2, _⟩ := RdK.cells E.out.a hmM
              have gm := GET.out m hmM
              have RC : Hid (∀ w', SW w R LB S L (.slice ao N cap) (.slice (some ⟨g2, o2, none⟩) M ac) ks (unT ks N) last w' → w'.cell? ⟨g2, o2 + m * 3, none⟩ = some (.int .i64 (kN (unT ks N) m).d)) := fun w' h => by
                obtain ⟨g', o', e, h1, _⟩ := RdK.cells h.a hmM
                cases e
                exact h1
              generalize kN (unT ks N) m = x at *
              rcases gm with ⟨hd, v, hv⟩ | ⟨hd, hv⟩
              · have HV : Hid ((x, v) ∈ L) := hv
                clear hv
                go_wp2_with fail
                refine (GY.out wr x v E.out.q HV.out).mono ?_
                rintro e w9 ⟨rfl, b9⟩
                have E9 : Hid (SW w R LB S L (.slice ao N cap) (.slice (some ⟨g2, o2, none⟩) M ac) ks (unT ks N) last w9) := E.out.below b9
                clear E b9 x0 x1 x2
                have x0 := RC.out w9 E9.out
                go_wp2_with fail
                go_roundw
                case rel => exact ⟨m + 1, by go_num, by omega, E9.out⟩
                case measure => simp [intOf]; omega
              · have HV : Hid (x ∉ L.map (·.1)) := hv
                have hd' : ¬ (day < x.d) := by omega
                clear hv
                go_wp2_with fail
                refine (GN.out wr x E.out.q HV.out).mono ?_
                rintro e w9 ⟨rfl, b9⟩
                have E9 : Hid (SW w R LB S L (.slice ao N cap) (.slice (some ⟨g2, o2, none⟩) M ac) ks (unT ks N) last w9) := E.out.below b9
                clear E b9 x0 x1 x2
                have x0 := RC.out w9 E9.out
                go_wp2_with fail
                go_roundw
                case rel => exact ⟨m + 1, by go_num, by omega, E9.out⟩
                case measure => simp [intOf]; omega
            · go_wp2_with fail
              go_ret
              exact ⟨rfl, E.out.bw⟩
end Go.Proofs.Ytahfilagnciopaa
