/-
  Ours: the law's step of a trio.
-/
import Derived.Test.YtfdehlfhnlgcjaaDoorTqStep2
import Derived.Test.YtfdehlfhnlgcjaaDoorTqPopA
import Derived.Test.YtfdehlfhnlgcjaaDoorTqLists
namespace Go.Proofs.YtfdehlfhnlgcjaaDoor
open Go.RowKit TqM

theorem below_kp {w w1 w2 : World} {M : Nat → Prop} (b : Below w.heap.size w w1) (k : Kp M w1 w2) (hM : ∀ g, M g → w.heap.size ≤ g) : Below w.heap.size w w2 :=
  ⟨k.os.trans b.os, k.tape.trans b.tape, k.output.trans b.output, Nat.le_trans b.size k.size, fun i hi => (k.block i (Nat.lt_of_lt_of_le hi b.size) (fun h => by have := hM i h; omega)).trans (b.block i hi)⟩
/-- The reference has answered. -/
def Q0 (w : World) (S1 S2 T : Nat → Prop) (G' : List (Ky × Int)) (v : Value) (w' : World) : Prop := Below w.heap.size w w' ∧ w.heap.size + 3 ≤ w'.heap.size ∧ RowI 0 w' v G' ∧ ∀ g, v.ownBlock = some g → ((¬ S1 g ∧ ¬ S2 g) ∧ T g) ∨ w.heap.size + 3 ≤ g
/-- The queue of numbers has, too. -/
def Q1 (w : World) (R1 : Nat) (S1 S2 T : Nat → Prop) (G' : List (Ky × Int)) (v : Value) (w' : World) : Prop := ∃ w1 L1', Q0 w S1 S2 T G' v w1 ∧ TQ.QPost R1 S1 w1 L1' w' ∧ L1'.Perm G'
theorem Q0.kp {w : World} {S1 S2 T : Nat → Prop} {G' : List (Ky × Int)} {v : Value} {w1 w2 : World} {M : Nat → Prop} (hT : ∀ g, T g → g < w.heap.size) (h : Q0 w S1 S2 T G' v w1) (k : Kp M w1 w2) (hM : ∀ g, M g → w.heap.size ≤ g ∧ g < w.heap.size + 3) : Q0 w S1 S2 T G' v w2 := by
  obtain ⟨h1, h2, h3, h4⟩ := h
  refine ⟨below_kp h1 k (fun g hg => (hM g hg).1), Nat.le_trans h2 k.size, h3.same (fun g hg => k.block g (h3.lt hg) (fun hm => ?_)), h4⟩
  have := hM g hm
  rcases h4 g hg with h5 | h5
  · have := hT g h5.2; omega
  · omega
theorem Q1.below {w : World} {R1 : Nat} {S1 S2 T : Nat → Prop} {G' : List (Ky × Int)} {v : Value} {w1 w2 : World} (h : Q1 w R1 S1 S2 T G' v w1) (b : Below w1.heap.size w1 w2) : Q1 w R1 S1 S2 T G' v w2 := by
  obtain ⟨w0, L1', h1, ⟨S', a1, a2, a3⟩, h3⟩ := h
  exact ⟨w0, L1', h1, ⟨S', a1.below b, a2, a3.trans (Kp.of_below b (fun _ => False)) (fun _ _ h => h.elim)⟩, h3⟩
theorem filter_none {G : List (Ky × Int)} {k : Ky} (h : k ∉ G.map (·.1)) : G.filter (fun x => !decide (x.1 = k)) = G := List.filter_eq_self.2 (fun x hx => by
  simp
  exact fun e => h (List.mem_map.2 ⟨x, hx, e⟩))
theorem filter_perm {k : Ky} {v : Int} : ∀ {G : List (Ky × Int)}, (G.map (·.1)).Nodup → (k, v) ∈ G → G.Perm ((k, v) :: G.filter (fun x => !decide (x.1 = k)))
  | x :: r, hn, hm => by
    have hn' := List.nodup_cons.1 (by simpa using hn : (x.1 :: r.map (·.1)).Nodup)
    rcases List.mem_cons.1 hm with e | hm
    · subst e
      rw [List.filter_cons_of_neg (by simp), filter_none hn'.1]
    · have hne : ¬ x.1 = k := fun e => hn'.1 (List.mem_map.2 ⟨(k, v), hm, e.symm⟩)
      rw [List.filter_cons_of_pos (by simpa using hne)]
      exact ((filter_perm hn'.2 hm).cons x).trans (List.Perm.swap _ _ _)

theorem glue_put (B R1 R2 N : Nat) (vL : Value) (S1 S2 T : Nat → Prop) (L1 : List (Ky × Int)) (L2 : List (Ky × ByteArray)) (G G' : List (Ky × Int)) (ot : Bool) (k : Ky) (n : Int) (w : World) (hB : B ≤ w.heap.size) (hP : 0 < B) (ht : TabP w) (hn : LedM.i64 n) (h : Tri B R1 R2 vL T N G w) (q : TriQ R1 R2 vL S1 S2 T L1 L2 G w) (er : Int) (sd : Sd G') (i64 : ∀ x ∈ G', LedM.i64 x.2) (len : G'.length ≤ N + 1)
    (RP : ∀ w', Below w.heap.size w w' → w.heap.size + 3 ≤ w'.heap.size → Calls Tryd.prog 12 #[vL, .agg #[.int .i64 k.d, .int .i64 k.l, .int .i64 k.n], .int .i64 n] w' fun e w2 => ∃ v, e = .returned (.tuple #[v, .int .i64 er]) ∧ RowI 0 w2 v G' ∧ (∀ g, v.ownBlock = some g → ((¬ S1 g ∧ ¬ S2 g) ∧ T g) ∨ w.heap.size + 3 ≤ g) ∧ Below w'.heap.size w' w2)
    (IP : ∀ w', TQ.QAt R1 S1 L1 w' → Calls Tryd.prog 13 #[.pointer (some ⟨R1, 0, none⟩), .agg #[.int .i64 k.d, .int .i64 k.l, .int .i64 k.n], .int .i64 n] w' fun e w2 => e = .returned (.int .i64 er) ∧ ∃ L1', TQ.QPost R1 S1 w' L1' w2 ∧ L1'.Perm G')
    (TP : ∀ w', TS.QAt R2 S2 L2 w' → Calls Tryd.prog 14 #[.pointer (some ⟨R2, 0, none⟩), .agg #[.int .i64 k.d, .int .i64 k.l, .int .i64 k.n], .string (wdB n)] w' fun e w2 => e = .returned (.int .i64 er) ∧ ∃ L2', TS.QPost R2 S2 w' L2' w2 ∧ L2'.Perm (G'.map wdP)) :
    Calls Tryd.prog 9 #[trV R1 R2 vL, opV 1 ot k n] w fun e w' => ∃ vL', e = .returned (.tuple #[trV R1 R2 vL', .bool true]) ∧ ∃ G', TPo (w.heap.size + 3) B R1 R2 vL' T (N + 1) w G' w' := by
  have hT : ∀ g, T g → g < w.heap.size := fun g hg => (h.tw g hg).2
  have hTB : ∀ g, T g → B ≤ g := fun g hg => (h.tw g hg).1
  refine step_put R1 R2 vL ot k n w T hT (Q0 w S1 S2 T G') (Q1 w R1 S1 S2 T G') (fun v w' => ∃ G', TPo (w.heap.size + 3) B R1 R2 v T (N + 1) w G' w') er (wdB n) ?_ ?_ ?_ ?_ ?_ ?_ ?_
  · intro w' b hs
    refine (RP w' b hs).mono ?_
    rintro e w2 ⟨v, rfl, r, hv, b2⟩
    obtain ⟨sa, sm, sc, e⟩ := r.shape
    subst e
    exact ⟨sa, sm, sc, rfl, ⟨below_trans b b2, Nat.le_trans hs b2.size, r, hv⟩, b2⟩
  · rintro v w' ⟨b, hs, r, hv⟩
    refine (IP w' (q.q1.below b)).mono ?_
    rintro e w2 ⟨rfl, L1', p1, e1⟩
    exact ⟨rfl, ⟨w', L1', ⟨b, hs, r, hv⟩, p1, e1⟩, p1.elim (fun S' h => h.2.2.mono (fun g _ hg => q.t1 g hg))⟩
  · rintro v w' ⟨w1, L1', ⟨b, _, _, _⟩, ⟨S', a1, a2, a3⟩, _⟩
    have k0 : Kp T w w' := (Kp.of_below b T).trans a3 (fun g _ hg => q.t1 g hg)
    exact word_at n hn w' (ht.below hP (k0.belowB hTB hB))
  · rintro v w' ⟨w1, L1', ⟨b, hs, r, hv⟩, p1, e1⟩
    have q2 : TS.QAt R2 S2 L2 w' := by
      obtain ⟨S', a1, a2, a3⟩ := p1
      exact (q.q2.below b).kp a3 (fun g hg h1 => q.ap g h1 hg)
    refine (TP w' q2).mono ?_
    rintro e w2 ⟨rfl, L2', p2, e2⟩
    exact ⟨rfl, ⟨G', tri_after_m hB (by omega) hs h q b r hv p1 p2 e1 e2 sd i64 len⟩, p2.elim (fun S' h => h.2.2.mono (fun g _ hg => q.t2 g hg))⟩
  · exact fun v w' w2 M h1 k0 hM => h1.kp hT k0 hM
  · exact fun v w' w2 h1 b => h1.below b
  · rintro v w' w2 M ⟨G', h1⟩ k0 hM
    exact ⟨G', h1.kp hT k0 hM⟩

theorem glue_cancel (B R1 R2 N : Nat) (vL : Value) (S1 S2 T : Nat → Prop) (L1 : List (Ky × Int)) (L2 : List (Ky × ByteArray)) (G G' : List (Ky × Int)) (ot : Bool) (k : Ky) (n : Int) (w : World) (hB : B ≤ w.heap.size) (hP : 0 < B) (ht : TabP w) (hn : LedM.i64 n) (h : Tri B R1 R2 vL T N G w) (q : TriQ R1 R2 vL S1 S2 T L1 L2 G w) (er : Bool) (sd : Sd G') (i64 : ∀ x ∈ G', LedM.i64 x.2) (len : G'.length ≤ N + 1)
    (RP : ∀ w', Below w.heap.size w w' → w.heap.size + 3 ≤ w'.heap.size → Calls Tryd.prog 17 #[vL, .agg #[.int .i64 k.d, .int .i64 k.l, .int .i64 k.n]] w' fun e w2 => ∃ v, e = .returned (.tuple #[v, .bool er]) ∧ RowI 0 w2 v G' ∧ (∀ g, v.ownBlock = some g → ((¬ S1 g ∧ ¬ S2 g) ∧ T g) ∨ w.heap.size + 3 ≤ g) ∧ Below w'.heap.size w' w2)
    (IP : ∀ w', TQ.QAt R1 S1 L1 w' → Calls Tryd.prog 18 #[.pointer (some ⟨R1, 0, none⟩), .agg #[.int .i64 k.d, .int .i64 k.l, .int .i64 k.n]] w' fun e w2 => e = .returned (.bool er) ∧ ∃ L1', TQ.QPost R1 S1 w' L1' w2 ∧ L1'.Perm G')
    (TP : ∀ w', TS.QAt R2 S2 L2 w' → Calls Tryd.prog 19 #[.pointer (some ⟨R2, 0, none⟩), .agg #[.int .i64 k.d, .int .i64 k.l, .int .i64 k.n]] w' fun e w2 => e = .returned (.bool er) ∧ ∃ L2', TS.QPost R2 S2 w' L2' w2 ∧ L2'.Perm (G'.map wdP)) :
    Calls Tryd.prog 9 #[trV R1 R2 vL, opV 3 ot k n] w fun e w' => ∃ vL', e = .returned (.tuple #[trV R1 R2 vL', .bool true]) ∧ ∃ G', TPo (w.heap.size + 3) B R1 R2 vL' T (N + 1) w G' w' := by
  have hT : ∀ g, T g → g < w.heap.size := fun g hg => (h.tw g hg).2
  have hTB : ∀ g, T g → B ≤ g := fun g hg => (h.tw g hg).1
  refine step_cancel R1 R2 vL ot k n w T hT (Q0 w S1 S2 T G') (Q1 w R1 S1 S2 T G') (fun v w' => ∃ G', TPo (w.heap.size + 3) B R1 R2 v T (N + 1) w G' w') er (wdB n) ?_ ?_ ?_ ?_ ?_ ?_ ?_
  · intro w' b hs
    refine (RP w' b hs).mono ?_
    rintro e w2 ⟨v, rfl, r, hv, b2⟩
    obtain ⟨sa, sm, sc, e⟩ := r.shape
    subst e
    exact ⟨sa, sm, sc, rfl, ⟨below_trans b b2, Nat.le_trans hs b2.size, r, hv⟩, b2⟩
  · rintro v w' ⟨b, hs, r, hv⟩
    refine (IP w' (q.q1.below b)).mono ?_
    rintro e w2 ⟨rfl, L1', p1, e1⟩
    exact ⟨rfl, ⟨w', L1', ⟨b, hs, r, hv⟩, p1, e1⟩, p1.elim (fun S' h => h.2.2.mono (fun g _ hg => q.t1 g hg))⟩
  · rintro v w' ⟨w1, L1', ⟨b, _, _, _⟩, ⟨S', a1, a2, a3⟩, _⟩
    have k0 : Kp T w w' := (Kp.of_below b T).trans a3 (fun g _ hg => q.t1 g hg)
    exact word_at n hn w' (ht.below hP (k0.belowB hTB hB))
  · rintro v w' ⟨w1, L1', ⟨b, hs, r, hv⟩, p1, e1⟩
    have q2 : TS.QAt R2 S2 L2 w' := by
      obtain ⟨S', a1, a2, a3⟩ := p1
      exact (q.q2.below b).kp a3 (fun g hg h1 => q.ap g h1 hg)
    refine (TP w' q2).mono ?_
    rintro e w2 ⟨rfl, L2', p2, e2⟩
    exact ⟨rfl, ⟨G', tri_after_m hB (by omega) hs h q b r hv p1 p2 e1 e2 sd i64 len⟩, p2.elim (fun S' h => h.2.2.mono (fun g _ hg => q.t2 g hg))⟩
  · exact fun v w' w2 M h1 k0 hM => h1.kp hT k0 hM
  · exact fun v w' w2 h1 b => h1.below b
  · rintro v w' w2 M ⟨G', h1⟩ k0 hM
    exact ⟨G', h1.kp hT k0 hM⟩

theorem glue_move (B R1 R2 N : Nat) (vL : Value) (S1 S2 T : Nat → Prop) (L1 : List (Ky × Int)) (L2 : List (Ky × ByteArray)) (G G' : List (Ky × Int)) (ot : Bool) (k : Ky) (n : Int) (w : World) (hB : B ≤ w.heap.size) (hP : 0 < B) (ht : TabP w) (hn : LedM.i64 n) (h : Tri B R1 R2 vL T N G w) (q : TriQ R1 R2 vL S1 S2 T L1 L2 G w) (er : Int) (sd : Sd G') (i64 : ∀ x ∈ G', LedM.i64 x.2) (len : G'.length ≤ N + 1)
    (RP : ∀ w', Below w.heap.size w w' → w.heap.size + 3 ≤ w'.heap.size → Calls Tryd.prog 20 #[vL, .agg #[.int .i64 k.d, .int .i64 k.l, .int .i64 k.n], .int .i64 n] w' fun e w2 => ∃ v, e = .returned (.tuple #[v, .int .i64 er]) ∧ RowI 0 w2 v G' ∧ (∀ g, v.ownBlock = some g → ((¬ S1 g ∧ ¬ S2 g) ∧ T g) ∨ w.heap.size + 3 ≤ g) ∧ Below w'.heap.size w' w2)
    (IP : ∀ w', TQ.QAt R1 S1 L1 w' → Calls Tryd.prog 21 #[.pointer (some ⟨R1, 0, none⟩), .agg #[.int .i64 k.d, .int .i64 k.l, .int .i64 k.n], .int .i64 n] w' fun e w2 => e = .returned (.int .i64 er) ∧ ∃ L1', TQ.QPost R1 S1 w' L1' w2 ∧ L1'.Perm G')
    (TP : ∀ w', TS.QAt R2 S2 L2 w' → Calls Tryd.prog 22 #[.pointer (some ⟨R2, 0, none⟩), .agg #[.int .i64 k.d, .int .i64 k.l, .int .i64 k.n], .int .i64 n] w' fun e w2 => e = .returned (.int .i64 er) ∧ ∃ L2', TS.QPost R2 S2 w' L2' w2 ∧ L2'.Perm (G'.map wdP)) :
    Calls Tryd.prog 9 #[trV R1 R2 vL, opV 4 ot k n] w fun e w' => ∃ vL', e = .returned (.tuple #[trV R1 R2 vL', .bool true]) ∧ ∃ G', TPo (w.heap.size + 3) B R1 R2 vL' T (N + 1) w G' w' := by
  have hT : ∀ g, T g → g < w.heap.size := fun g hg => (h.tw g hg).2
  have hTB : ∀ g, T g → B ≤ g := fun g hg => (h.tw g hg).1
  refine step_move R1 R2 vL ot k n w T hT (Q0 w S1 S2 T G') (Q1 w R1 S1 S2 T G') (fun v w' => ∃ G', TPo (w.heap.size + 3) B R1 R2 v T (N + 1) w G' w') er (wdB n) ?_ ?_ ?_ ?_ ?_ ?_ ?_
  · intro w' b hs
    refine (RP w' b hs).mono ?_
    rintro e w2 ⟨v, rfl, r, hv, b2⟩
    obtain ⟨sa, sm, sc, e⟩ := r.shape
    subst e
    exact ⟨sa, sm, sc, rfl, ⟨below_trans b b2, Nat.le_trans hs b2.size, r, hv⟩, b2⟩
  · rintro v w' ⟨b, hs, r, hv⟩
    refine (IP w' (q.q1.below b)).mono ?_
    rintro e w2 ⟨rfl, L1', p1, e1⟩
    exact ⟨rfl, ⟨w', L1', ⟨b, hs, r, hv⟩, p1, e1⟩, p1.elim (fun S' h => h.2.2.mono (fun g _ hg => q.t1 g hg))⟩
  · rintro v w' ⟨w1, L1', ⟨b, _, _, _⟩, ⟨S', a1, a2, a3⟩, _⟩
    have k0 : Kp T w w' := (Kp.of_below b T).trans a3 (fun g _ hg => q.t1 g hg)
    exact word_at n hn w' (ht.below hP (k0.belowB hTB hB))
  · rintro v w' ⟨w1, L1', ⟨b, hs, r, hv⟩, p1, e1⟩
    have q2 : TS.QAt R2 S2 L2 w' := by
      obtain ⟨S', a1, a2, a3⟩ := p1
      exact (q.q2.below b).kp a3 (fun g hg h1 => q.ap g h1 hg)
    refine (TP w' q2).mono ?_
    rintro e w2 ⟨rfl, L2', p2, e2⟩
    exact ⟨rfl, ⟨G', tri_after_m hB (by omega) hs h q b r hv p1 p2 e1 e2 sd i64 len⟩, p2.elim (fun S' h => h.2.2.mono (fun g _ hg => q.t2 g hg))⟩
  · exact fun v w' w2 M h1 k0 hM => h1.kp hT k0 hM
  · exact fun v w' w2 h1 b => h1.below b
  · rintro v w' w2 M ⟨G', h1⟩ k0 hM
    exact ⟨G', h1.kp hT k0 hM⟩

theorem step_at (B R1 R2 N : Nat) (vL : Value) (T : Nat → Prop) (G : List (Ky × Int)) (kd : Int) (ot : Bool) (k : Ky) (n : Int) (w : World) (hN : N + 1 ≤ 1000000000) (hB : B ≤ w.heap.size) (hP : 0 < B) (ht : TabP w) (hn : LedM.i64 n) (h : Tri B R1 R2 vL T N G w) :
    Calls Tryd.prog 9 #[trV R1 R2 vL, opV kd ot k n] w fun e w' => ∃ vL', e = .returned (.tuple #[trV R1 R2 vL', .bool true]) ∧ ∃ G', TPo (w.heap.size + 3) B R1 R2 vL' T (N + 1) w G' w' := by
  obtain ⟨S1, S2, L1, L2, q⟩ := h.q
  have hlen := h.len
  have ln1 : L1.length = G.length := q.p1.length_eq
  have ln2 : L2.length = G.length := by rw [q.p2.length_eq]; simp
  have hnd := h.sd.nodup
  have m1 : ∀ x, x ∈ L1.map (·.1) ↔ x ∈ G.map (·.1) := fun x => (q.p1.map _).mem_iff
  have m2 : ∀ x, x ∈ L2.map (·.1) ↔ x ∈ G.map (·.1) := fun x => by
    rw [(q.p2.map (·.1)).mem_iff, List.map_map]; rfl
  have i2 : ∀ x v, (x, v) ∈ G → (x, wdB v) ∈ L2 := fun x v hm => q.p2.mem_iff.2 (List.mem_map.2 ⟨(x, v), hm, rfl⟩)
  have rr : ∀ w', Below w.heap.size w w' → RowI 0 w' vL G := fun w' b => q.row.later b
  have rd : ∀ w', Below w.heap.size w w' → RdI w' vL G := fun w' b => (rr w' b).rd
  have hT : ∀ g, T g → g < w.heap.size := fun g hg => (h.tw g hg).2
  have hTB : ∀ g, T g → B ≤ g := fun g hg => (h.tw g hg).1
  obtain ⟨va, vm, vc, hv⟩ := q.row.shape
  have ask : ∀ (e : Ending) w', (e = .returned (.tuple #[trV R1 R2 vL, .bool true]) ∧ Below w.heap.size w w') → ∃ vL', e = .returned (.tuple #[trV R1 R2 vL', .bool true]) ∧ ∃ G', TPo (w.heap.size + 3) B R1 R2 vL' T (N + 1) w G' w' := by
    rintro e w' ⟨rfl, b⟩
    exact ⟨vL, rfl, G, (TPo.refl h b).mono (Nat.le_refl _) (Nat.le_succ N)⟩
  have tab : ∀ w', Below w.heap.size w w' → TabP w' := fun w' b => ht.below hP ((Kp.of_below b T).belowB hTB hB)
  have old : ∀ w' w2 a, Below w.heap.size w w' → Below w'.heap.size w' w2 → ∃ v, Ending.returned (.tuple #[vL, a]) = .returned (.tuple #[v, a]) ∧ RowI 0 w2 v G ∧ (∀ g, v.ownBlock = some g → ((¬ S1 g ∧ ¬ S2 g) ∧ T g) ∨ w.heap.size + 3 ≤ g) ∧ Below w'.heap.size w' w2 := fun w' w2 a b b2 => ⟨vL, rfl, rr w2 (below_trans b b2), fun g hg => .inl (q.av g hg), b2⟩
  have new : ∀ w' w2 a v G', Below w'.heap.size w' w2 → w.heap.size + 3 ≤ w'.heap.size → RowI w'.heap.size w2 v G' → ∃ v', Ending.returned (.tuple #[v, a]) = .returned (.tuple #[v', a]) ∧ RowI 0 w2 v' G' ∧ (∀ g, v'.ownBlock = some g → ((¬ S1 g ∧ ¬ S2 g) ∧ T g) ∨ w.heap.size + 3 ≤ g) ∧ Below w'.heap.size w' w2 := fun w' w2 a v G' b2 hs r => ⟨v, rfl, r.mono (Nat.zero_le _), fun g hg => .inr (Nat.le_trans hs (r.ge hg)), b2⟩
  have i64f : ∀ x ∈ G.filter (fun x => !decide (x.1 = k)), LedM.i64 x.2 := fun x hx => h.i64 x (List.mem_filter.1 hx).1
  have lenf : (G.filter (fun x => !decide (x.1 = k))).length ≤ G.length := List.length_filter_le _ _
  by_cases k1 : kd = 1
  · subst k1
    by_cases hx : k ∈ G.map (·.1)
    · obtain ⟨x, hm⟩ : ∃ x, (k, x) ∈ G := by
        obtain ⟨⟨k0, x⟩, hm, e⟩ := List.mem_map.1 hx
        obtain rfl : k0 = k := e
        exact ⟨x, hm⟩
      refine glue_put B R1 R2 N vL S1 S2 T L1 L2 G G ot k n w hB hP ht hn h q 110 h.sd h.i64 (by omega) ?_ ?_ ?_
      · intro w' b hs
        exact (rput_no G vL k n w' (by omega) (rd w' b) x hm hnd).mono (by rintro e w2 ⟨rfl, b2⟩; exact old w' w2 _ b b2)
      · intro w' h1
        exact (TQ.put_no R1 S1 L1 w' k n h1 ((m1 k).2 hx)).mono (by rintro e w2 ⟨rfl, p⟩; exact ⟨rfl, L1, p, q.p1⟩)
      · intro w' h1
        exact (TS.put_no R2 S2 L2 w' k (wdB n) h1 ((m2 k).2 hx)).mono (by rintro e w2 ⟨rfl, p⟩; exact ⟨rfl, L2, p, q.p2⟩)
    · refine glue_put B R1 R2 N vL S1 S2 T L1 L2 G (ins (k, n) G) ot k n w hB hP ht hn h q 0 (ins_sd h.sd hx) ?_ (by rw [ins_len]; omega) ?_ ?_ ?_
      · intro x hx
        rcases List.mem_cons.1 ((ins_perm _ _).mem_iff.1 hx) with rfl | hx
        · exact hn
        · exact h.i64 x hx
      · intro w' b hs
        exact (rput_yes G vL k n w' (by omega) (rd w' b) hx).mono (by rintro e w2 ⟨v, rfl, r, b2⟩; exact new w' w2 _ v _ b2 hs r)
      · intro w' h1
        exact (TQ.put_yes R1 S1 L1 w' k n h1 (by omega) (fun hm => hx ((m1 k).1 hm))).mono (by rintro e w2 ⟨rfl, p⟩; exact ⟨rfl, _, p, (q.p1.cons _).trans (ins_perm _ _).symm⟩)
      · intro w' h1
        exact (TS.put_yes R2 S2 L2 w' k (wdB n) h1 (by omega) (fun hm => hx ((m2 k).1 hm))).mono (by rintro e w2 ⟨rfl, p⟩; exact ⟨rfl, _, p, (q.p2.cons _).trans ((ins_perm (k, n) G).map wdP).symm⟩)
  by_cases k3 : kd = 3
  · subst k3
    by_cases hx : k ∈ G.map (·.1)
    · obtain ⟨x, hm⟩ : ∃ x, (k, x) ∈ G := by
        obtain ⟨⟨k0, x⟩, hm, e⟩ := List.mem_map.1 hx
        obtain rfl : k0 = k := e
        exact ⟨x, hm⟩
      refine glue_cancel B R1 R2 N vL S1 S2 T L1 L2 G (G.filter (fun x => !decide (x.1 = k))) ot k n w hB hP ht hn h q true (h.sd.filter _) i64f (by omega) ?_ ?_ ?_
      · intro w' b hs
        exact (rcancel_at G vL k w' (by omega) (rd w' b) x true (.inr ⟨rfl, hm, hnd⟩)).mono (by rintro e w2 ⟨v, rfl, r, b2⟩; exact new w' w2 _ v _ b2 hs r)
      · intro w' h1
        exact (TQ.cancel_yes R1 S1 L1 w' k x h1 (by omega) (q.p1.mem_iff.2 hm)).mono (by
          rintro e w2 ⟨rfl, L', p, q2, k2⟩
          exact ⟨rfl, L', ⟨S1, q2, fun _ h => .inl h, k2⟩, ((p.symm.trans q.p1).trans (filter_perm hnd hm)).cons_inv⟩)
      · intro w' h1
        exact (TS.cancel_yes R2 S2 L2 w' k (wdB x) h1 (by omega) (i2 k x hm)).mono (by
          rintro e w2 ⟨rfl, L', p, q2, k2⟩
          exact ⟨rfl, L', ⟨S2, q2, fun _ h => .inl h, k2⟩, ((p.symm.trans q.p2).trans ((filter_perm hnd hm).map wdP)).cons_inv⟩)
    · have fe := filter_none hx
      refine glue_cancel B R1 R2 N vL S1 S2 T L1 L2 G G ot k n w hB hP ht hn h q false h.sd h.i64 (by omega) ?_ ?_ ?_
      · intro w' b hs
        exact (rcancel_at G vL k w' (by omega) (rd w' b) 0 false (.inl ⟨rfl, rfl, hx⟩)).mono (by rintro e w2 ⟨v, rfl, r, b2⟩; rw [fe] at r; exact new w' w2 _ v _ b2 hs r)
      · intro w' h1
        exact (TQ.cancel_no R1 S1 L1 w' k h1 (fun hm => hx ((m1 k).1 hm))).mono (by rintro e w2 ⟨rfl, b⟩; exact ⟨rfl, L1, TQ.QPost.refl h1 b, q.p1⟩)
      · intro w' h1
        exact (TS.cancel_no R2 S2 L2 w' k h1 (fun hm => hx ((m2 k).1 hm))).mono (by rintro e w2 ⟨rfl, b⟩; exact ⟨rfl, L2, TS.QPost.refl h1 b, q.p2⟩)
  by_cases k4 : kd = 4
  · subst k4
    by_cases hx : k ∈ G.map (·.1)
    · obtain ⟨x, hm⟩ : ∃ x, (k, x) ∈ G := by
        obtain ⟨⟨k0, x⟩, hm, e⟩ := List.mem_map.1 hx
        obtain rfl : k0 = k := e
        exact ⟨x, hm⟩
      have h1m := q.p1.mem_iff.2 hm
      have h2m := i2 k x hm
      by_cases hd : n = k.d
      · subst hd
        refine glue_move B R1 R2 N vL S1 S2 T L1 L2 G G ot k k.d w hB hP ht hn h q 0 h.sd h.i64 (by omega) ?_ ?_ ?_
        · intro w' b hs
          exact (rmove_same G vL k w' (by omega) (rd w' b) x hm hnd).mono (by rintro e w2 ⟨rfl, b2⟩; exact old w' w2 _ b b2)
        · intro w' h1
          exact (TQ.move_same R1 S1 L1 w' k x h1 h1m).mono (by rintro e w2 ⟨rfl, b⟩; exact ⟨rfl, L1, TQ.QPost.refl h1 b, q.p1⟩)
        · intro w' h1
          exact (TS.move_same R2 S2 L2 w' k (wdB x) h1 h2m).mono (by rintro e w2 ⟨rfl, b⟩; exact ⟨rfl, L2, TS.QPost.refl h1 b, q.p2⟩)
      by_cases hy : (⟨n, k.l, k.n⟩ : Ky) ∈ G.map (·.1)
      · obtain ⟨y, hym⟩ : ∃ y, ((⟨n, k.l, k.n⟩ : Ky), y) ∈ G := by
          obtain ⟨⟨k0, y⟩, hm, e⟩ := List.mem_map.1 hy
          obtain rfl : k0 = ⟨n, k.l, k.n⟩ := e
          exact ⟨y, hm⟩
        refine glue_move B R1 R2 N vL S1 S2 T L1 L2 G G ot k n w hB hP ht hn h q 110 h.sd h.i64 (by omega) ?_ ?_ ?_
        · intro w' b hs
          exact (rmove_taken G vL k n w' (by omega) (rd w' b) x y hm hnd hd hym).mono (by rintro e w2 ⟨rfl, b2⟩; exact old w' w2 _ b b2)
        · intro w' h1
          exact (TQ.move_taken R1 S1 L1 w' k x n h1 h1m hd ((m1 _).2 hy)).mono (by rintro e w2 ⟨rfl, b⟩; exact ⟨rfl, L1, TQ.QPost.refl h1 b, q.p1⟩)
        · intro w' h1
          exact (TS.move_taken R2 S2 L2 w' k (wdB x) n h1 h2m hd ((m2 _).2 hy)).mono (by rintro e w2 ⟨rfl, b⟩; exact ⟨rfl, L2, TS.QPost.refl h1 b, q.p2⟩)
      · have hyf : (⟨n, k.l, k.n⟩ : Ky) ∉ (G.filter (fun x => !decide (x.1 = k))).map (·.1) := fun hm => by
          obtain ⟨a, ha, e⟩ := List.mem_map.1 hm
          exact hy (List.mem_map.2 ⟨a, (List.mem_filter.1 ha).1, e⟩)
        refine glue_move B R1 R2 N vL S1 S2 T L1 L2 G (ins (⟨n, k.l, k.n⟩, x) (G.filter (fun x => !decide (x.1 = k)))) ot k n w hB hP ht hn h q 0 (ins_sd (h.sd.filter _) hyf) ?_ (by rw [ins_len]; omega) ?_ ?_ ?_
        · intro z hz
          rcases List.mem_cons.1 ((ins_perm _ _).mem_iff.1 hz) with rfl | hz
          · exact h.i64 (k, x) hm
          · exact i64f z hz
        · intro w' b hs
          exact (rmove_yes G vL k n w' (by omega) (rd w' b) x hm hnd hd hy).mono (by rintro e w2 ⟨v, rfl, r, b2⟩; exact new w' w2 _ v _ b2 hs r)
        · intro w' h1
          exact (TQ.move_yes R1 S1 L1 w' k x n h1 h1m hd (by omega) (fun hm => hy ((m1 _).1 hm))).mono (by
            rintro e w2 ⟨rfl, L', p, q2, k2⟩
            exact ⟨rfl, _, ⟨S1, q2, fun _ h => .inl h, k2⟩, (((p.symm.trans q.p1).trans (filter_perm hnd hm)).cons_inv.cons _).trans (ins_perm _ _).symm⟩)
        · intro w' h1
          exact (TS.move_yes R2 S2 L2 w' k (wdB x) n h1 h2m hd (by omega) (fun hm => hy ((m2 _).1 hm))).mono (by
            rintro e w2 ⟨rfl, L', p, q2, k2⟩
            exact ⟨rfl, _, ⟨S2, q2, fun _ h => .inl h, k2⟩, (((p.symm.trans q.p2).trans ((filter_perm hnd hm).map wdP)).cons_inv.cons _).trans ((ins_perm (⟨n, k.l, k.n⟩, x) (G.filter (fun x => !decide (x.1 = k)))).map wdP).symm⟩)
    · refine glue_move B R1 R2 N vL S1 S2 T L1 L2 G G ot k n w hB hP ht hn h q 110 h.sd h.i64 (by omega) ?_ ?_ ?_
      · intro w' b hs
        exact (rmove_no G vL k n w' (by omega) (rd w' b) hx).mono (by rintro e w2 ⟨rfl, b2⟩; exact old w' w2 _ b b2)
      · intro w' h1
        exact (TQ.move_no R1 S1 L1 w' k n h1 (fun hm => hx ((m1 k).1 hm))).mono (by rintro e w2 ⟨rfl, b⟩; exact ⟨rfl, L1, TQ.QPost.refl h1 b, q.p1⟩)
      · intro w' h1
        exact (TS.move_no R2 S2 L2 w' k n h1 (fun hm => hx ((m2 k).1 hm))).mono (by rintro e w2 ⟨rfl, b⟩; exact ⟨rfl, L2, TS.QPost.refl h1 b, q.p2⟩)
  by_cases k6 : kd = 6
  · subst k6
    refine step_pop R1 R2 vL ot k n w T hT (fun v w' => ∃ G', TPo (w.heap.size + 3) B R1 R2 v T (N + 1) w G' w') ?_ ?_
    · intro w' b hs
      refine (pops_at B R1 R2 N vL T G n w' (by omega) (Nat.le_trans hB b.size) hP (tab w' b) (h.below b)).mono ?_
      rintro e w2 ⟨v, rfl, G', T', h1, h2, h3⟩
      obtain ⟨S1', S2', L1', L2', q'⟩ := h1.q
      obtain ⟨sa, sm, sc, e⟩ := q'.row.shape
      subst e
      exact ⟨sa, sm, sc, rfl, ⟨G', T', h1.mono (Nat.le_succ N), fun g hg => (h2 g hg).imp id (fun h => by omega), (Kp.of_below b T).trans h3 (fun _ _ h => h)⟩, h3⟩
    · rintro v w' w2 M ⟨G', h1⟩ k0 hM
      exact ⟨G', h1.kp hT k0 hM⟩
  by_cases k2 : kd = 2
  · subst k2
    subst hv
    refine (step_gets R1 R2 va vm vc ot k n w ?_).mono ask
    intro w' b
    by_cases hx : k ∈ G.map (·.1)
    · obtain ⟨x, hm⟩ : ∃ x, (k, x) ∈ G := by
        obtain ⟨⟨k0, x⟩, hm, e⟩ := List.mem_map.1 hx
        obtain rfl : k0 = k := e
        exact ⟨x, hm⟩
      exact gets_yes B R1 R2 N _ T G k w' (by omega) (h.below b) x hm (tab w' b)
    · exact gets_no B R1 R2 N _ T G k w' (by omega) (h.below b) hx
  by_cases k5 : kd = 5
  · subst k5
    subst hv
    exact (step_nexts R1 R2 va vm vc ot k n w (fun w' b => nexts_at B R1 R2 N _ T G w' (h.below b))).mono ask
  by_cases k7 : kd = 7
  · subst k7
    subst hv
    exact (step_lists R1 R2 va vm vc ot k n w (fun w' b => lists_at B R1 R2 N _ T G w' (by omega) (h.below b))).mono ask
  subst hv
  exact (step_other R1 R2 va vm vc kd ot k n w k1 k2 k3 k4 k5 k6 k7).mono ask
end Go.Proofs.YtfdehlfhnlgcjaaDoor
