/-
  Ours: the statements' alike, emptied.
-/
import Derived.Test.YtfdehlfhnlgcjaaTqUn
import Derived.Test.YtfdehlfhnlgcjaaTqMove
import Derived.Test.YtfdehlfhnlgcjaaTqList
namespace Go.Proofs.Ytfdehlfhnlgcjaa
open Go.RowKit TqM

/-- Two queues that share nothing, all of it new. -/
structure P2 (w : World) (R1 R2 : Nat) (S1 S2 : Nat → Prop) (L1 L2 : List (Ky × Int)) (wr : World) : Prop where
  q1 : TQ.QAt R1 S1 L1 wr
  q2 : TQ.QAt R2 S2 L2 wr
  dj : ∀ g, S1 g → ¬ S2 g
  g1 : ∀ g, S1 g → w.heap.size ≤ g
  g2 : ∀ g, S2 g → w.heap.size ≤ g
  bw : Below w.heap.size w wr
theorem P2.below {w w1 w2 : World} {R1 R2 : Nat} {S1 S2 : Nat → Prop} {L1 L2 : List (Ky × Int)} (h : P2 w R1 R2 S1 S2 L1 L2 w1) (b : Below w1.heap.size w1 w2) : P2 w R1 R2 S1 S2 L1 L2 w2 :=
  ⟨h.q1.below b, h.q2.below b, h.dj, h.g1, h.g2, below_trans h.bw b⟩
theorem kp_below {S : Nat → Prop} {w w1 w2 : World} (b : Below w.heap.size w w1) (k : Kp S w1 w2) (hS : ∀ g, S g → w.heap.size ≤ g) : Below w.heap.size w w2 :=
  ⟨k.os.trans b.os, k.tape.trans b.tape, k.output.trans b.output, Nat.le_trans b.size k.size, fun i hi => (k.block i (Nat.lt_of_lt_of_le hi b.size) (fun hs => by have := hS i hs; omega)).trans (b.block i hi)⟩
theorem P2.left {w w1 w2 : World} {R1 R2 : Nat} {S1 S2 : Nat → Prop} {L1 L2 L : List (Ky × Int)} (h : P2 w R1 R2 S1 S2 L1 L2 w1) (k : TQ.QPost R1 S1 w1 L w2) : ∃ S, P2 w R1 R2 S S2 L L2 w2 := by
  obtain ⟨S, q, hS, kp⟩ := k
  refine ⟨S, q, h.q2.kp kp (fun g h2 h1 => h.dj g h1 h2), fun g hg h2 => ?_, fun g hg => ?_, h.g2, kp_below h.bw kp h.g1⟩
  · rcases hS g hg with h1 | h1
    · exact h.dj g h1 h2
    · have := h.q2.s g h2; omega
  · rcases hS g hg with h1 | h1
    · exact h.g1 g h1
    · exact Nat.le_trans h.bw.size h1
theorem P2.right {w w1 w2 : World} {R1 R2 : Nat} {S1 S2 : Nat → Prop} {L1 L2 L : List (Ky × Int)} (h : P2 w R1 R2 S1 S2 L1 L2 w1) (k : TQ.QPost R2 S2 w1 L w2) : ∃ S, P2 w R1 R2 S1 S L1 L w2 := by
  obtain ⟨S, q, hS, kp⟩ := k
  refine ⟨S, h.q1.kp kp (fun g h1 h2 => h.dj g h1 h2), q, fun g h1 hg => ?_, h.g1, fun g hg => ?_, kp_below h.bw kp h.g2⟩
  · rcases hS g hg with h2 | h2
    · exact h.dj g h1 h2
    · have := h.q1.s g h1; omega
  · rcases hS g hg with h2 | h2
    · exact h.g2 g h2
    · exact Nat.le_trans h.bw.size h2
theorem TQ.QPost.of_kp {R : Nat} {S : Nat → Prop} {L : List (Ky × Int)} {w w' : World} (q : TQ.QAt R S L w') (k : Kp S w w') : TQ.QPost R S w L w' := ⟨S, q, fun _ h => .inl h, k⟩

/-- Two keys, each where it lies. -/
abbrev K7 (w : World) (g o h p : Nat) (x k : Ky) (w' : World) : Prop := Below w.heap.size w w' ∧
  w'.cell? ⟨g, o, none⟩ = some (.int .i64 x.d) ∧ w'.cell? ⟨g, o + 1, none⟩ = some (.int .i64 x.l) ∧ w'.cell? ⟨g, o + 2, none⟩ = some (.int .i64 x.n) ∧
  w'.cell? ⟨h, p, none⟩ = some (.int .i64 k.d) ∧ w'.cell? ⟨h, p + 1, none⟩ = some (.int .i64 k.l) ∧ w'.cell? ⟨h, p + 2, none⟩ = some (.int .i64 k.n)
theorem K7.keep {w w1 w2 : World} {g o h p : Nat} {x k : Ky} (b : Below w1.heap.size w1 w2) (c : K7 w g o h p x k w1) : K7 w g o h p x k w2 :=
  ⟨below_trans c.1 b, below_cell b c.2.1, below_cell b c.2.2.1, below_cell b c.2.2.2.1, below_cell b c.2.2.2.2.1, below_cell b c.2.2.2.2.2.1, below_cell b c.2.2.2.2.2.2⟩
/-- Three keys, each where it lies. -/
abbrev K9a (w : World) (P Q g o : Nat) (x k y : Ky) (w' : World) : Prop := Below w.heap.size w w' ∧
  w'.cell? ⟨P, 0, none⟩ = some (.int .i64 x.d) ∧ w'.cell? ⟨P, 1, none⟩ = some (.int .i64 x.l) ∧ w'.cell? ⟨P, 2, none⟩ = some (.int .i64 x.n) ∧
  w'.cell? ⟨Q, 0, none⟩ = some (.int .i64 k.d) ∧ w'.cell? ⟨Q, 1, none⟩ = some (.int .i64 k.l) ∧ w'.cell? ⟨Q, 2, none⟩ = some (.int .i64 k.n) ∧
  w'.cell? ⟨g, o, none⟩ = some (.int .i64 y.d) ∧ w'.cell? ⟨g, o + 1, none⟩ = some (.int .i64 y.l) ∧ w'.cell? ⟨g, o + 2, none⟩ = some (.int .i64 y.n)
theorem K9a.keep {w w1 w2 : World} {P Q g o : Nat} {x k y : Ky} (b : Below w1.heap.size w1 w2) (h : K9a w P Q g o x k y w1) : K9a w P Q g o x k y w2 :=
  ⟨below_trans h.1 b, below_cell b h.2.1, below_cell b h.2.2.1, below_cell b h.2.2.2.1, below_cell b h.2.2.2.2.1, below_cell b h.2.2.2.2.2.1, below_cell b h.2.2.2.2.2.2.1, below_cell b h.2.2.2.2.2.2.2.1, below_cell b h.2.2.2.2.2.2.2.2.1, below_cell b h.2.2.2.2.2.2.2.2.2⟩
/-- The first of the keys in order is the least's. -/
theorem srt_least {ks : List Ky} {L : List (Ky × Int)} {z : Ky × Int} (hs : Srt ks) (hp : ks.Perm (L.map (·.1))) (hz : TQ.Least z L) : kN ks 0 = z.1 := by
  cases ks with
  | nil => have := hp.mem_iff.2 (List.mem_map.2 ⟨z, hz.1, rfl⟩); cases this
  | cons x r =>
    obtain ⟨h1, _⟩ := List.pairwise_cons.1 hs
    show x = z.1
    rcases List.mem_cons.1 (hp.mem_iff.2 (List.mem_map.2 ⟨z, hz.1, rfl⟩)) with e | e
    · exact e.symm
    · have h2 := h1 z.1 e
      obtain ⟨y, hy, hyx⟩ := List.mem_map.1 (hp.mem_iff.1 (List.mem_cons_self ..))
      rcases hz.2 y hy with e2 | h3
      · rw [← hyx, e2]
      · rw [hyx] at h3
        exact absurd h3 (lt_asym h2)
theorem perm_least {L1 L2 : List (Ky × Int)} (p : L1.Perm L2) {z : Ky × Int} (h : TQ.Least z L1) : TQ.Least z L2 := ⟨p.mem_iff.1 h.1, fun x hx => h.2 x (p.mem_iff.2 hx)⟩
theorem TQ.QAt.least' {R : Nat} {S : Nat → Prop} {L : List (Ky × Int)} {w : World} (h : TQ.QAt R S L w) (h0 : L ≠ []) : ∃ z, TQ.Least z L := by
  obtain ⟨bm, vh, hp, f, q, h⟩ := h
  cases hp with
  | nil => exact absurd (List.eq_nil_of_length_eq_zero (by simpa using h.perm.length_eq.symm)) h0
  | cons a r => exact ⟨a, h.least rfl⟩

set_option maxRecDepth 20000 in
set_option maxHeartbeats 4000000 in
theorem emptied_yes (w0 : World) (R1 R2 : Nat) (S1 S2 : Nat → Prop) (L1 L2 : List (Ky × Int)) (w : World) (h : P2 w0 R1 R2 S1 S2 L1 L2 w) (hp : L1.Perm L2) (hl : L1.length ≤ 300) (hd : ∀ x ∈ L1, x.1.d ≤ 9223372036854775807) :
    Calls Try.prog 14 #[.pointer (some ⟨R1, 0, none⟩), .pointer (some ⟨R2, 0, none⟩)] w fun e w' => e = .returned (.bool true) ∧ Below w0.heap.size w0 w' := by
  have SA : Hid (∀ (a : Ky) (w : World), Calls Try.prog 12 #[.agg #[.int .i64 a.d, .int .i64 a.l, .int .i64 a.n], .agg #[.int .i64 a.d, .int .i64 a.l, .int .i64 a.n]] w fun e w' => e = .returned (.bool true) ∧ Below w.heap.size w w') := fun a w => by
    have := same_at a a w
    rw [decide_eq_true rfl] at this
    exact this
  obtain ⟨N, hN⟩ : ∃ N, L1.length = N := ⟨_, rfl⟩
  have D0 : Hid (P2 w0 R1 R2 S1 S2 L1 L2 w ∧ L1.Perm L2 ∧ L1.length + 0 = N ∧ ∀ x ∈ L1, x.1.d ≤ 9223372036854775807) := ⟨h, hp, hN, hd⟩
  have hN3 : N ≤ 300 := by omega
  clear h hp hl hd hN
  go_enter Try.func14, Try.ntmps14
  go_wp2_with fail
  go_loopw [5] (fun vi wr => ∃ (i : Nat), vi = .int .i64 (i : Int) ∧ i ≤ N ∧ ∃ S1 S2 L1 L2, Hid (P2 w0 R1 R2 S1 S2 L1 L2 wr ∧ L1.Perm L2 ∧ L1.length + i = N ∧ ∀ x ∈ L1, x.1.d ≤ 9223372036854775807)) (fun vi _ => N + 1 - (intOf vi).toNat)
  case atStart => exact ⟨0, rfl, by omega, S1, S2, L1, L2, D0.out⟩
  case round =>
    obtain ⟨i, rfl, hi, S1, S2, L1, L2, D⟩ := hrel
    clear D0
    have hi3 : (i : Int) ≤ 300 := by omega
    by_cases hL : L1 = []
    · subst hL
      have hL2 : L2 = [] := D.out.2.1.nil_eq.symm
      subst hL2
      have P1 : Hid (∀ w, TQ.QAt R1 S1 [] w → Calls Try.prog 20 #[.pointer (some ⟨R1, 0, none⟩), .int .i64 9223372036854775807] w (TQ.NotDue w)) := fun w h => TQ.pop_none R1 S1 w _ h
      have P2' : Hid (∀ w, TQ.QAt R2 S2 [] w → Calls Try.prog 20 #[.pointer (some ⟨R2, 0, none⟩), .int .i64 9223372036854775807] w (TQ.NotDue w)) := fun w h => TQ.pop_none R2 S2 w _ h
      go_wp2_with fail
      refine (P1.out wr D.out.1.q1).mono ?_
      rintro e w1 ⟨rfl, b1⟩
      have D1 : Hid (P2 w0 R1 R2 S1 S2 [] [] (w1.alloc (.cells #[.int .i64 0, .int .i64 0, .int .i64 0] 31)) ∧ Blk w1.heap.size 31 (kyL ⟨0, 0, 0⟩) (w1.alloc (.cells #[.int .i64 0, .int .i64 0, .int .i64 0] 31))) := ⟨D.out.1.below (below_trans b1 (below_alloc _ _)), Blk.new 31 (kyL ⟨0, 0, 0⟩) w1⟩
      clear D b1 P1
      go_wp2_with fail
      refine (P2'.out _ D1.out.1.q2).mono ?_
      rintro e w2 ⟨rfl, b2⟩
      have D2 : Hid (Below w0.heap.size w0 w2 ∧ Blk w1.heap.size 31 (kyL ⟨0, 0, 0⟩) w2) := ⟨below_trans D1.out.1.bw b2, D1.out.2.below b2⟩
      clear D1 b2 P2'
      generalize w1.heap.size = Q1 at *
      have x0 := D2.out.2.cell 0 _ rfl
      have x1 := D2.out.2.cell 1 _ rfl
      have x2 := D2.out.2.cell 2 _ rfl
      have ltQ := D2.out.2.lt
      have SA0 : Hid (∀ w, Calls Try.prog 12 #[.agg #[.int .i64 0, .int .i64 0, .int .i64 0], .agg #[.int .i64 0, .int .i64 0, .int .i64 0]] w fun e w' => e = .returned (.bool true) ∧ Below w.heap.size w w') := fun w => SA.out ⟨0, 0, 0⟩ w
      go_wp2_with fail
      refine (SA0.out _).mono ?_
      rintro e w3 ⟨rfl, b3⟩
      have D3 : Hid (Below w0.heap.size w0 w3) := below_trans (below_trans D2.out.1 (below_alloc _ _)) b3
      clear D2 b3 SA SA0 x0 x1 x2
      go_wp2_with fail
      go_ret
      exact ⟨rfl, D3.out⟩
    · obtain ⟨z, hz⟩ := D.out.1.q1.least' hL
      have hz2 := perm_least D.out.2.1 hz
      have hzd := D.out.2.2.2 z hz.1
      have hlen := D.out.2.1.length_eq
      have hlN := D.out.2.2.1
      have P1 : Hid (∀ w, TQ.QAt R1 S1 L1 w → Calls Try.prog 20 #[.pointer (some ⟨R1, 0, none⟩), .int .i64 9223372036854775807] w fun e w' => e = .returned (.tuple #[.agg #[.int .i64 z.1.d, .int .i64 z.1.l, .int .i64 z.1.n], .int .i64 z.2, .bool true]) ∧ ∃ L', L1.Perm (z :: L') ∧ TQ.QAt R1 S1 L' w' ∧ Kp S1 w w') := fun w h => TQ.pop_yes R1 S1 L1 w _ z h (by omega) hz hzd
      have P2' : Hid (∀ w, TQ.QAt R2 S2 L2 w → Calls Try.prog 20 #[.pointer (some ⟨R2, 0, none⟩), .int .i64 9223372036854775807] w fun e w' => e = .returned (.tuple #[.agg #[.int .i64 z.1.d, .int .i64 z.1.l, .int .i64 z.1.n], .int .i64 z.2, .bool true]) ∧ ∃ L', L2.Perm (z :: L') ∧ TQ.QAt R2 S2 L' w' ∧ Kp S2 w w') := fun w h => TQ.pop_yes R2 S2 L2 w _ z h (by omega) hz2 hzd
      clear hz hz2 hzd hlen hlN hL
      go_wp2_with fail
      refine (P1.out wr D.out.1.q1).mono ?_
      rintro e w1 ⟨rfl, L1', p1, q1, k1⟩
      obtain ⟨S1', hP1⟩ := D.out.1.left (TQ.QPost.of_kp q1 k1)
      have D1 : Hid (P2 w0 R1 R2 S1' S2 L1' L2 (w1.alloc (.cells #[.int .i64 z.1.d, .int .i64 z.1.l, .int .i64 z.1.n] 31)) ∧ Blk w1.heap.size 31 (kyL z.1) (w1.alloc (.cells #[.int .i64 z.1.d, .int .i64 z.1.l, .int .i64 z.1.n] 31)) ∧ ¬ S2 w1.heap.size ∧ L1.Perm (z :: L1')) := ⟨hP1.below (below_alloc _ _), Blk.new 31 (kyL z.1) w1, fun h => by have := hP1.q2.s _ h; omega, p1⟩
      have DD : Hid (L1.Perm L2 ∧ L1.length + i = N ∧ ∀ x ∈ L1, x.1.d ≤ 9223372036854775807) := D.out.2
      clear D p1 q1 k1 hP1 P1
      go_wp2_with fail
      refine (P2'.out _ D1.out.1.q2).mono ?_
      rintro e w2 ⟨rfl, L2', p2, q2, k2⟩
      obtain ⟨S2', hP2⟩ := D1.out.1.right (TQ.QPost.of_kp q2 k2)
      have D2 : Hid (P2 w0 R1 R2 S1' S2' L1' L2' w2 ∧ Blk w1.heap.size 31 (kyL z.1) w2 ∧ L1'.Perm L2' ∧ L1'.length + (i + 1) = N ∧ ∀ x ∈ L1', x.1.d ≤ 9223372036854775807) := by
        have d := D1.out
        have dd := DD.out
        refine ⟨hP2, d.2.1.kp k2 d.2.2.1, (List.perm_cons z).1 ((d.2.2.2.symm.trans dd.1).trans p2), ?_, fun x hx => dd.2.2 x (d.2.2.2.mem_iff.2 (by simp [hx]))⟩
        have := d.2.2.2.length_eq
        simp at this
        omega
      clear D1 DD p2 q2 k2 hP2 P2'
      generalize w1.heap.size = Q1 at *
      have x0 := D2.out.2.1.cell 0 _ rfl
      have x1 := D2.out.2.1.cell 1 _ rfl
      have x2 := D2.out.2.1.cell 2 _ rfl
      have ltQ := D2.out.2.1.lt
      go_wp2_with fail
      refine (SA.out z.1 _).mono ?_
      rintro e w3 ⟨rfl, b3⟩
      have D3 : Hid (P2 w0 R1 R2 S1' S2' L1' L2' w3 ∧ L1'.Perm L2' ∧ L1'.length + (i + 1) = N ∧ ∀ x ∈ L1', x.1.d ≤ 9223372036854775807) := ⟨(D2.out.1.below (below_alloc _ _)).below b3, D2.out.2.2⟩
      have hi1 : i + 1 ≤ N := by have := D2.out.2.2.2.1; omega
      clear D2 b3 x0 x1 x2 ltQ
      go_wp2_with fail
      go_roundw
      case rel => exact ⟨i + 1, by go_num, hi1, S1', S2', L1', L2', D3.out⟩
      case measure => simp [intOf]; omega

set_option maxRecDepth 20000 in
set_option maxHeartbeats 4000000 in
theorem alike_yes (hS : SortOk) (R1 R2 : Nat) (S1 S2 : Nat → Prop) (L1 L2 : List (Ky × Int)) (w : World) (h1 : TQ.QAt R1 S1 L1 w) (h2 : TQ.QAt R2 S2 L2 w) (hp : L1.Perm L2) (hl : L1.length ≤ 1000000) :
    Calls Try.prog 13 #[.pointer (some ⟨R1, 0, none⟩), .pointer (some ⟨R2, 0, none⟩)] w fun e w' => e = .returned (.bool true) ∧ Below w.heap.size w w' := by
  have SA : Hid (∀ (a : Ky) (w : World), Calls Try.prog 12 #[.agg #[.int .i64 a.d, .int .i64 a.l, .int .i64 a.n], .agg #[.int .i64 a.d, .int .i64 a.l, .int .i64 a.n]] w fun e w' => e = .returned (.bool true) ∧ Below w.heap.size w w') := fun a w => by
    have := same_at a a w
    rw [decide_eq_true rfl] at this
    exact this
  have hlen := hp.length_eq
  obtain ⟨N, hN⟩ : ∃ N, L1.length = N := ⟨_, rfl⟩
  have LI : Hid (∀ R S L w, TQ.QAt R S L w → L.length = N → Calls Try.prog 18 #[.pointer (some ⟨R, 0, none⟩)] w fun e w' => ∃ v, e = .returned v ∧ ∃ ks, RowK w.heap.size w' v ks ∧ Srt ks ∧ ks.Perm (L.map (·.1)) ∧ Below w.heap.size w w') := fun R S L w h hL => TQ.list_at hS R S L w h (by omega)
  have LE : Hid (∀ R S L w, TQ.QAt R S L w → L.length = N → Calls Try.prog 8 #[.pointer (some ⟨R, 0, none⟩)] w fun e w' => e = .returned (.int .i64 (N : Int)) ∧ w' = w) := fun R S L w h hL => by
    have := TQ.len_at R S L w h
    rw [hL] at this
    exact this
  have HP : Hid (L1.Perm L2 ∧ L1.length = N ∧ L2.length = N) := ⟨hp, hN, by omega⟩
  have D0 : Hid (TQ.QAt R1 S1 L1 w ∧ TQ.QAt R2 S2 L2 w) := ⟨h1, h2⟩
  have hN6 : N ≤ 1000000 := by omega
  clear h1 h2 hp hl hlen hN hS
  go_enter Try.func13, Try.ntmps13
  go_wp2_with fail
  refine (LI.out R1 S1 L1 w D0.out.1 HP.out.2.1).mono ?_
  rintro e w1 ⟨v1, rfl, ks, r1, s1, p1, b1⟩
  have D1 : Hid (TQ.QAt R1 S1 L1 w1 ∧ TQ.QAt R2 S2 L2 w1 ∧ RdK w1 v1 ks ∧ Below w.heap.size w w1) := ⟨D0.out.1.below b1, D0.out.2.below b1, r1.rd, b1⟩
  clear D0 b1 r1
  go_wp2_with fail
  refine (LI.out R2 S2 L2 w1 D1.out.2.1 HP.out.2.2).mono ?_
  rintro e w2 ⟨v2, rfl, ks2, r2, s2, p2, b2⟩
  obtain rfl : ks2 = ks := s2.uniq s1 (p2.trans ((HP.out.1.map (·.1)).symm.trans p1.symm))
  have hkl : ks2.length = N := by rw [p2.length_eq, List.length_map]; exact HP.out.2.2
  have D2 : Hid (TQ.QAt R1 S1 L1 w2 ∧ TQ.QAt R2 S2 L2 w2 ∧ RdK w2 v1 ks2 ∧ RdK w2 v2 ks2 ∧ Below w.heap.size w w2) := ⟨D1.out.1.below b2, D1.out.2.1.below b2, D1.out.2.2.1.later b2, r2.rd, below_trans D1.out.2.2.2 b2⟩
  have KS : Hid (Srt ks2 ∧ ks2.Perm (L2.map (·.1)) ∧ ks2.length = N) := ⟨s2, p2, hkl⟩
  clear D1 b2 r2 s1 s2 p1 p2 LI
  obtain ⟨a1, c1, ev1, hc1, -, -⟩ := D2.out.2.2.1
  obtain ⟨a2, c2, ev2, hc2, -, -⟩ := D2.out.2.2.2.1
  rw [hkl] at ev1 ev2 hc1 hc2
  subst ev1 ev2
  clear hkl
  go_wp2_with fail
  refine (LE.out R1 S1 L1 w2 D2.out.1 HP.out.2.1).mono ?_
  rintro e w3 ⟨rfl, rfl⟩
  go_wp2_with fail
  refine (LE.out R2 S2 L2 _ D2.out.2.1 HP.out.2.2).mono ?_
  rintro e w4 ⟨rfl, rfl⟩
  clear LE
  go_wp2_with fail
  have GY : Hid (∀ R S L w k v, TQ.QAt R S L w → (k, v) ∈ L → Calls Try.prog 11 #[.pointer (some ⟨R, 0, none⟩), .agg #[.int .i64 k.d, .int .i64 k.l, .int .i64 k.n]] w fun e w' => e = .returned (.tuple #[.int .i64 v, .bool true]) ∧ Below w.heap.size w w') := TQ.get_yes
  have STEP : Hid (∀ a b, Below a.heap.size a b → (TQ.QAt R1 S1 L1 a ∧ TQ.QAt R2 S2 L2 a ∧ RdK a (.slice a1 N c1) ks2 ∧ RdK a (.slice a2 N c2) ks2 ∧ Below w.heap.size w a) → (TQ.QAt R1 S1 L1 b ∧ TQ.QAt R2 S2 L2 b ∧ RdK b (.slice a1 N c1) ks2 ∧ RdK b (.slice a2 N c2) ks2 ∧ Below w.heap.size w b)) := fun a b bb h => ⟨h.1.below bb, h.2.1.below bb, h.2.2.1.later bb, h.2.2.2.1.later bb, below_trans h.2.2.2.2 bb⟩
  go_loopw [7] (fun vi wr => ∃ i : Nat, vi = .int .i64 (i : Int) ∧ i ≤ N ∧ Hid (TQ.QAt R1 S1 L1 wr ∧ TQ.QAt R2 S2 L2 wr ∧ RdK wr (.slice a1 N c1) ks2 ∧ RdK wr (.slice a2 N c2) ks2 ∧ Below w.heap.size w wr)) (fun vi _ => N - (intOf vi).toNat)
  case atStart => exact ⟨0, rfl, by omega, D2.out⟩
  case round =>
    obtain ⟨i, rfl, hi, D⟩ := hrel
    clear D2
    by_cases hlt : (i : Int) < (N : Int)
    · have hiN : i < N := by omega
      obtain ⟨v, hv1, hv2⟩ : ∃ v, (kN ks2 i, v) ∈ L1 ∧ (kN ks2 i, v) ∈ L2 := by
        have hm : kN ks2 i ∈ ks2 := by rw [kN_at (by rw [KS.out.2.2]; exact hiN)]; exact List.getElem_mem _
        obtain ⟨y, hy, hyx⟩ := List.mem_map.1 (KS.out.2.1.mem_iff.1 hm)
        refine ⟨y.2, HP.out.1.mem_iff.2 ?_, ?_⟩ <;> (rw [← hyx]; exact hy)
      have HV : Hid ((kN ks2 i, v) ∈ L1 ∧ (kN ks2 i, v) ∈ L2) := ⟨hv1, hv2⟩
      clear hv1 hv2
      obtain ⟨g1, o1, rfl, x0, x1, x2, _⟩ := RdK.cells D.out.2.2.1 hiN
      obtain ⟨g2, o2, rfl, y0, y1, y2, _⟩ := RdK.cells D.out.2.2.2.1 hiN
      generalize kN ks2 i = x at *
      have KP : Hid (∀ w', Below wr.heap.size wr w' → K7 wr g1 (o1 + i * 3) g2 (o2 + i * 3) x x w') := fun w' b => ⟨b, below_cell b x0, below_cell b x1, below_cell b x2, below_cell b y0, below_cell b y1, below_cell b y2⟩
      clear y0 y1 y2
      go_wp2_with fail
      refine (GY.out R1 S1 L1 wr x v D.out.1 HV.out.1).mono ?_
      rintro e w5 ⟨rfl, b5⟩
      have D5 : Hid ((TQ.QAt R1 S1 L1 w5 ∧ TQ.QAt R2 S2 L2 w5 ∧ RdK w5 (.slice (some ⟨g1, o1, none⟩) N c1) ks2 ∧ RdK w5 (.slice (some ⟨g2, o2, none⟩) N c2) ks2 ∧ Below w.heap.size w w5) ∧ K7 wr g1 (o1 + i * 3) g2 (o2 + i * 3) x x w5) := ⟨STEP.out _ _ b5 D.out, KP.out w5 b5⟩
      clear D b5 x0 x1 x2
      obtain ⟨-, x0, x1, x2, -, -, -⟩ := D5.out.2
      go_wp2_with fail
      refine (GY.out R2 S2 L2 w5 x v D5.out.1.2.1 HV.out.2).mono ?_
      rintro e w6 ⟨rfl, b6⟩
      have D6 : Hid ((TQ.QAt R1 S1 L1 w6 ∧ TQ.QAt R2 S2 L2 w6 ∧ RdK w6 (.slice (some ⟨g1, o1, none⟩) N c1) ks2 ∧ RdK w6 (.slice (some ⟨g2, o2, none⟩) N c2) ks2 ∧ Below w.heap.size w w6) ∧ K7 wr g1 (o1 + i * 3) g2 (o2 + i * 3) x x w6) := ⟨STEP.out _ _ b6 D5.out.1, D5.out.2.keep b6⟩
      clear D5 b6 x0 x1 x2
      have S0 : Hid (K7 w6 g1 (o1 + i * 3) g2 (o2 + i * 3) x x w6.drew) := ⟨Below.drew (Below.refl _ _), D6.out.2.2⟩
      go_upto_region 10 with fail
      go_region_held3 (fun w' => K7 w6 g1 (o1 + i * 3) g2 (o2 + i * 3) x x w') (first | assumption | exact S0.out | exact K7.keep hU (by assumption)) (first
        | (go_at_call 12; refine (SA.out _ _).mono ?_; rintro e w7 ⟨rfl, hU⟩))
      have b7 : Below w6.heap.size w6 w7 := And.left (show K7 w6 g1 (o1 + i * 3) g2 (o2 + i * 3) x x w7 by assumption)
      have D7 : Hid (TQ.QAt R1 S1 L1 w7 ∧ TQ.QAt R2 S2 L2 w7 ∧ RdK w7 (.slice (some ⟨g1, o1, none⟩) N c1) ks2 ∧ RdK w7 (.slice (some ⟨g2, o2, none⟩) N c2) ks2 ∧ Below w.heap.size w w7) := STEP.out _ _ b7 D6.out.1
      clear S0 D6 b7 hU
      go_wp2_with fail
      go_roundw
      case rel => exact ⟨i + 1, by go_num, by omega, D7.out⟩
      case measure => simp [intOf]; omega
    · by_cases h0 : N = 0
      · subst h0
        have e1 : L1 = [] := List.eq_nil_of_length_eq_zero HP.out.2.1
        have e2 : L2 = [] := List.eq_nil_of_length_eq_zero HP.out.2.2
        subst e1 e2
        have NN : Hid (∀ R S w, TQ.QAt R S [] w → Calls Try.prog 19 #[.pointer (some ⟨R, 0, none⟩)] w fun e w' => e = .returned (.tuple #[.agg #[.int .i64 0, .int .i64 0, .int .i64 0], .bool false]) ∧ Below w.heap.size w w') := TQ.next_none
        clear GY
        go_wp2_with fail
        refine (NN.out R1 S1 wr D.out.1).mono ?_
        rintro e w5 ⟨rfl, b5⟩
        have D5 : Hid ((TQ.QAt R1 S1 [] (w5.alloc (.cells #[.int .i64 0, .int .i64 0, .int .i64 0] 31)) ∧ TQ.QAt R2 S2 [] (w5.alloc (.cells #[.int .i64 0, .int .i64 0, .int .i64 0] 31)) ∧ RdK (w5.alloc (.cells #[.int .i64 0, .int .i64 0, .int .i64 0] 31)) (.slice a1 0 c1) ks2 ∧ RdK (w5.alloc (.cells #[.int .i64 0, .int .i64 0, .int .i64 0] 31)) (.slice a2 0 c2) ks2 ∧ Below w.heap.size w (w5.alloc (.cells #[.int .i64 0, .int .i64 0, .int .i64 0] 31))) ∧ Blk w5.heap.size 31 (kyL ⟨0, 0, 0⟩) (w5.alloc (.cells #[.int .i64 0, .int .i64 0, .int .i64 0] 31))) := ⟨STEP.out _ _ (below_trans b5 (below_alloc _ _)) D.out, Blk.new 31 (kyL ⟨0, 0, 0⟩) w5⟩
        clear D b5
        go_wp2_with fail
        refine (NN.out R2 S2 _ D5.out.1.2.1).mono ?_
        rintro e w6 ⟨rfl, b6⟩
        have D6 : Hid (Below w.heap.size w (w6.alloc (.cells #[.int .i64 0, .int .i64 0, .int .i64 0] 31)) ∧ Blk w5.heap.size 31 (kyL ⟨0, 0, 0⟩) (w6.alloc (.cells #[.int .i64 0, .int .i64 0, .int .i64 0] 31)) ∧ Blk w6.heap.size 31 (kyL ⟨0, 0, 0⟩) (w6.alloc (.cells #[.int .i64 0, .int .i64 0, .int .i64 0] 31))) := ⟨below_trans (below_trans D5.out.1.2.2.2.2 b6) (below_alloc _ _), (D5.out.2.below b6).old _, Blk.new 31 (kyL ⟨0, 0, 0⟩) w6⟩
        clear D5 b6 NN STEP
        go_upto_region 14 with fail
        generalize w6.alloc (.cells #[.int .i64 0, .int .i64 0, .int .i64 0] 31) = w7 at *
        generalize w5.heap.size = Q1 at *
        generalize w6.heap.size = Q2 at *
        have SA0 : Hid (∀ w, Calls Try.prog 12 #[.agg #[.int .i64 0, .int .i64 0, .int .i64 0], .agg #[.int .i64 0, .int .i64 0, .int .i64 0]] w fun e w' => e = .returned (.bool true) ∧ Below w.heap.size w w') := fun w => SA.out ⟨0, 0, 0⟩ w
        clear SA
        have S0 : Hid (K9a w7 Q1 Q2 Q1 0 ⟨0, 0, 0⟩ ⟨0, 0, 0⟩ ⟨0, 0, 0⟩ w7.drew) := ⟨Below.drew (Below.refl _ _), D6.out.2.1.cell 0 _ rfl, D6.out.2.1.cell 1 _ rfl, D6.out.2.1.cell 2 _ rfl, D6.out.2.2.cell 0 _ rfl, D6.out.2.2.cell 1 _ rfl, D6.out.2.2.cell 2 _ rfl, D6.out.2.1.cell 0 _ rfl, D6.out.2.1.cell 1 _ rfl, D6.out.2.1.cell 2 _ rfl⟩
        have BD : Hid (Below w.heap.size w w7) := D6.out.1
        clear D6
        refine wp_region_held_drew (S := fun w' => K9a w7 Q1 Q2 Q1 0 ⟨0, 0, 0⟩ ⟨0, 0, 0⟩ ⟨0, 0, 0⟩ w') (by kernel_rfl) S0.out (fun hH => ?_)
        refine wpAnyH_take (i := 0) (oi := { dst := some 96, op := Op.move (Operand.tmp 13), type := 4, pos := "outright.go:120", after := #[], guard := none }) (v := .bool false) rfl (by kernel_rfl) (by kernel_rfl) (by kernel_rfl) (fun _ _ _ h => h) (Or.inl ⟨by rfl, fun w' hs => by go_simp⟩) hH ?_
        simp only [Act.put, List.setIfInBounds_toArray, List.set_cons_zero, List.set_cons_succ]
        refine wpAnyH_take (i := 1) (oi := { dst := some 97, op := Op.move (Operand.tmp 15), type := 4, pos := "outright.go:120", after := #[], guard := none }) (v := .bool false) rfl (by kernel_rfl) (by kernel_rfl) (by kernel_rfl) (fun _ _ _ h => h) (Or.inl ⟨by rfl, fun w' hs => by go_simp⟩) hH ?_
        simp only [Act.put, List.setIfInBounds_toArray, List.set_cons_zero, List.set_cons_succ]
        refine wpAnyH_take (i := 2) (oi := { dst := some 98, op := Op.binOp BinOp.eql 4 (Operand.tmp 96) (Operand.tmp 97) 4, type := 4, pos := "outright.go:120", after := #[{ on := 0, ground := Ground.data }, { on := 1, ground := Ground.data }], guard := none }) (v := .bool true) rfl (by kernel_rfl) (by kernel_rfl) (by kernel_rfl) (fun _ _ _ h => h) (Or.inl ⟨by rfl, fun w' hs => by go_simp⟩) hH ?_
        simp only [Act.put, List.setIfInBounds_toArray, List.set_cons_zero, List.set_cons_succ]
        refine wpAnyH_take (i := 3) (oi := { dst := some 99, op := Op.move (Operand.tmp 98), type := 4, pos := "outright.go:120", after := #[{ on := 2, ground := Ground.data }], guard := none }) (v := .bool true) rfl (by kernel_rfl) (by kernel_rfl) (by kernel_rfl) (fun _ _ _ h => h) (Or.inl ⟨by rfl, fun w' hs => by go_simp⟩) hH ?_
        simp only [Act.put, List.setIfInBounds_toArray, List.set_cons_zero, List.set_cons_succ]
        refine wpAnyH_take (i := 4) (oi := { dst := some 100, op := Op.load 31 (Operand.tmp 12), type := 31, pos := "outright.go:120", after := #[{ on := 3, ground := Ground.guard }], guard := some (3, true) }) (v := .agg #[.int .i64 0, .int .i64 0, .int .i64 0]) rfl (by kernel_rfl) (by kernel_rfl) (by kernel_rfl) (fun _ _ _ h => h) (Or.inl ⟨by rfl, fun w' hs => by obtain ⟨_, h0, h1, h2, h3, h4, h5, h6, h7, h8⟩ := hs; go_simp⟩) hH ?_
        simp only [Act.put, List.setIfInBounds_toArray, List.set_cons_zero, List.set_cons_succ]
        refine wpAnyH_take (i := 5) (oi := { dst := some 101, op := Op.load 31 (Operand.tmp 14), type := 31, pos := "outright.go:120", after := #[{ on := 3, ground := Ground.guard }], guard := some (3, true) }) (v := .agg #[.int .i64 0, .int .i64 0, .int .i64 0]) rfl (by kernel_rfl) (by kernel_rfl) (by kernel_rfl) (fun _ _ _ h => h) (Or.inl ⟨by rfl, fun w' hs => by obtain ⟨_, h0, h1, h2, h3, h4, h5, h6, h7, h8⟩ := hs; go_simp⟩) hH ?_
        simp only [Act.put, List.setIfInBounds_toArray, List.set_cons_zero, List.set_cons_succ]
        refine wpAnyH_ready (rs := [6]) (by kernel_rfl) (by simp) ?_
        refine AllReadyH.cons (o := { dst := some 102, op := Op.call { callee := Callee.value (Operand.func 12), args := #[Operand.tmp 100, Operand.tmp 101], argTypes := #[31, 31] }, type := 4, pos := "outright.go:120", after := #[{ on := 4, ground := Ground.data }, { on := 5, ground := Ground.data }, { on := 3, ground := Ground.chain }, { on := 3, ground := Ground.guard }], guard := some (3, true) }) rfl (fun K hK => ?_) AllReadyH.nil
        go_simp
        refine (SA0.out _).mono ?_
        rintro e w9 ⟨rfl, hU⟩
        refine hK.out _ _ (K9a.keep hU hH) (fun hH => ?_)
        refine wpAnyH_take (i := 7) (oi := { dst := some 103, op := Op.pick (Operand.tmp 99) (Operand.tmp 102) (Operand.const (Value.bool false)), type := 4, pos := "outright.go:120", after := #[{ on := 3, ground := Ground.data }, { on := 6, ground := Ground.data }], guard := none }) (v := .bool true) rfl (by kernel_rfl) (by kernel_rfl) (by kernel_rfl) (fun _ _ _ h => h) (Or.inl ⟨by rfl, fun w' hs => by go_simp⟩) hH ?_
        simp only [Act.put, List.setIfInBounds_toArray, List.set_cons_zero, List.set_cons_succ]
        refine wpAnyH_take (i := 8) (oi := { dst := some 104, op := Op.move (Operand.tmp 103), type := 4, pos := "outright.go:120", after := #[{ on := 7, ground := Ground.data }, { on := 6, ground := Ground.chain }], guard := none }) (v := .bool true) rfl (by kernel_rfl) (by kernel_rfl) (by kernel_rfl) (fun _ _ _ h => h) (Or.inl ⟨by rfl, fun w' hs => by go_simp⟩) hH ?_
        simp only [Act.put, List.setIfInBounds_toArray, List.set_cons_zero, List.set_cons_succ]
        refine wpAnyH_take (i := 9) (oi := { dst := some 105, op := Op.move (Operand.tmp 5), type := 22, pos := "outright.go:120", after := #[{ on := 8, ground := Ground.guard }], guard := some (8, true) }) (v := .slice a1 0 c1) rfl (by kernel_rfl) (by kernel_rfl) (by kernel_rfl) (fun _ _ _ h => h) (Or.inl ⟨by rfl, fun w' hs => by go_simp⟩) hH ?_
        simp only [Act.put, List.setIfInBounds_toArray, List.set_cons_zero, List.set_cons_succ]
        refine wpAnyH_take (i := 10) (oi := { dst := some 106, op := Op.call { callee := Callee.builtin Builtin.len, args := #[Operand.tmp 105], argTypes := #[22] }, type := 3, pos := "outright.go:120", after := #[{ on := 9, ground := Ground.data }, { on := 8, ground := Ground.guard }], guard := some (8, true) }) (v := .int .i64 0) rfl (by kernel_rfl) (by kernel_rfl) (by kernel_rfl) (fun _ _ _ h => h) (Or.inl ⟨by rfl, fun w' hs => by go_simp⟩) hH ?_
        simp only [Act.put, List.setIfInBounds_toArray, List.set_cons_zero, List.set_cons_succ]
        refine wpAnyH_take (i := 11) (oi := { dst := some 107, op := Op.binOp BinOp.eql 3 (Operand.tmp 106) (Operand.const (Value.int IntKind.i64 0)) 3, type := 4, pos := "outright.go:120", after := #[{ on := 10, ground := Ground.data }, { on := 8, ground := Ground.guard }], guard := some (8, true) }) (v := .bool true) rfl (by kernel_rfl) (by kernel_rfl) (by kernel_rfl) (fun _ _ _ h => h) (Or.inl ⟨by rfl, fun w' hs => by go_simp⟩) hH ?_
        simp only [Act.put, List.setIfInBounds_toArray, List.set_cons_zero, List.set_cons_succ]
        refine wpAnyH_take (i := 12) (oi := { dst := some 108, op := Op.move (Operand.tmp 107), type := 4, pos := "outright.go:120", after := #[{ on := 11, ground := Ground.data }, { on := 8, ground := Ground.chain }, { on := 8, ground := Ground.guard }], guard := some (8, true) }) (v := .bool true) rfl (by kernel_rfl) (by kernel_rfl) (by kernel_rfl) (fun _ _ _ h => h) (Or.inl ⟨by rfl, fun w' hs => by go_simp⟩) hH ?_
        simp only [Act.put, List.setIfInBounds_toArray, List.set_cons_zero, List.set_cons_succ]
        refine wpAnyH_take (i := 13) (oi := { dst := some 109, op := Op.load 31 (Operand.tmp 12), type := 31, pos := "outright.go:120", after := #[{ on := 12, ground := Ground.guard }], guard := some (12, false) }) (v := undef) rfl (by kernel_rfl) (by kernel_rfl) (by kernel_rfl) (fun _ _ _ h => h) (Or.inr ⟨by rfl, rfl⟩) hH ?_
        simp only [Act.put, List.setIfInBounds_toArray, List.set_cons_zero, List.set_cons_succ]
        refine wpAnyH_take (i := 14) (oi := { dst := some 110, op := Op.move (Operand.tmp 5), type := 22, pos := "outright.go:120", after := #[{ on := 12, ground := Ground.guard }], guard := some (12, false) }) (v := undef) rfl (by kernel_rfl) (by kernel_rfl) (by kernel_rfl) (fun _ _ _ h => h) (Or.inr ⟨by rfl, rfl⟩) hH ?_
        simp only [Act.put, List.setIfInBounds_toArray, List.set_cons_zero, List.set_cons_succ]
        refine wpAnyH_take (i := 15) (oi := { dst := some 111, op := Op.indexAddr 22 (Operand.tmp 110) (Operand.const (Value.int IntKind.i64 0)), type := 0, pos := "outright.go:120", after := #[{ on := 14, ground := Ground.data }, { on := 12, ground := Ground.guard }], guard := some (12, false) }) (v := undef) rfl (by kernel_rfl) (by kernel_rfl) (by kernel_rfl) (fun _ _ _ h => h) (Or.inr ⟨by rfl, rfl⟩) hH ?_
        simp only [Act.put, List.setIfInBounds_toArray, List.set_cons_zero, List.set_cons_succ]
        refine wpAnyH_take (i := 16) (oi := { dst := some 112, op := Op.load 31 (Operand.tmp 111), type := 31, pos := "outright.go:120", after := #[{ on := 15, ground := Ground.data }, { on := 12, ground := Ground.guard }], guard := some (12, false) }) (v := undef) rfl (by kernel_rfl) (by kernel_rfl) (by kernel_rfl) (fun _ _ _ h => h) (Or.inr ⟨by rfl, rfl⟩) hH ?_
        simp only [Act.put, List.setIfInBounds_toArray, List.set_cons_zero, List.set_cons_succ]
        refine wpAnyH_take (i := 17) (oi := { dst := some 113, op := Op.call { callee := Callee.value (Operand.func 12), args := #[Operand.tmp 109, Operand.tmp 112], argTypes := #[31, 31] }, type := 4, pos := "outright.go:120", after := #[{ on := 13, ground := Ground.data }, { on := 16, ground := Ground.data }, { on := 12, ground := Ground.chain }, { on := 12, ground := Ground.guard }], guard := some (12, false) }) (v := undef) rfl (by kernel_rfl) (by kernel_rfl) (by kernel_rfl) (fun _ _ _ h => h) (Or.inr ⟨by rfl, rfl⟩) hH ?_
        simp only [Act.put, List.setIfInBounds_toArray, List.set_cons_zero, List.set_cons_succ]
        refine wpAnyH_take (i := 18) (oi := { dst := some 114, op := Op.pick (Operand.tmp 108) (Operand.const (Value.bool true)) (Operand.tmp 113), type := 4, pos := "outright.go:120", after := #[{ on := 12, ground := Ground.data }, { on := 17, ground := Ground.data }, { on := 8, ground := Ground.guard }], guard := some (8, true) }) (v := .bool true) rfl (by kernel_rfl) (by kernel_rfl) (by kernel_rfl) (fun _ _ _ h => h) (Or.inl ⟨by rfl, fun w' hs => by go_simp⟩) hH ?_
        simp only [Act.put, List.setIfInBounds_toArray, List.set_cons_zero, List.set_cons_succ]
        refine wpAnyH_take (i := 19) (oi := { dst := some 115, op := Op.pick (Operand.tmp 104) (Operand.tmp 114) (Operand.const (Value.bool false)), type := 4, pos := "outright.go:120", after := #[{ on := 8, ground := Ground.data }, { on := 18, ground := Ground.data }], guard := none }) (v := .bool true) rfl (by kernel_rfl) (by kernel_rfl) (by kernel_rfl) (fun _ _ _ h => h) (Or.inl ⟨by rfl, fun w' hs => by go_simp⟩) hH ?_
        simp only [Act.put, List.setIfInBounds_toArray, List.set_cons_zero, List.set_cons_succ]
        refine wpAnyH_take (i := 20) (oi := { dst := some 4, op := Op.assign (Operand.tmp 115), type := 4, pos := "outright.go:120", after := #[{ on := 19, ground := Ground.data }, { on := 17, ground := Ground.chain }, { on := 0, ground := Ground.phase }, { on := 1, ground := Ground.phase }, { on := 2, ground := Ground.phase }, { on := 3, ground := Ground.phase }, { on := 4, ground := Ground.phase }, { on := 5, ground := Ground.phase }, { on := 6, ground := Ground.phase }, { on := 7, ground := Ground.phase }, { on := 8, ground := Ground.phase }, { on := 9, ground := Ground.phase }, { on := 10, ground := Ground.phase }, { on := 11, ground := Ground.phase }, { on := 12, ground := Ground.phase }, { on := 13, ground := Ground.phase }, { on := 14, ground := Ground.phase }, { on := 15, ground := Ground.phase }, { on := 16, ground := Ground.phase }, { on := 17, ground := Ground.phase }, { on := 18, ground := Ground.phase }, { on := 19, ground := Ground.phase }], guard := none }) (v := .bool true) rfl (by kernel_rfl) (by kernel_rfl) (by kernel_rfl) (fun _ _ _ h => h) (Or.inl ⟨by rfl, fun w' hs => by go_simp⟩) hH ?_
        simp only [Act.put, List.setIfInBounds_toArray, List.set_cons_zero, List.set_cons_succ]
        refine wpAnyH_done (by kernel_rfl) ?_ _
        have B9 : Hid (Below w.heap.size w w9) := below_trans BD.out hH.1
        clear hH hK hU BD S0
        go_wp2_with fail
        go_ret
        exact ⟨rfl, B9.out⟩
      · obtain ⟨z, hz⟩ := D.out.1.least' (fun e => h0 (by rw [← HP.out.2.1, e]; rfl))
        have hz2 := perm_least HP.out.1 hz
        have k0 := srt_least KS.out.1 KS.out.2.1 hz2
        have N1 : Hid (∀ w, TQ.QAt R1 S1 L1 w → Calls Try.prog 19 #[.pointer (some ⟨R1, 0, none⟩)] w fun e w' => e = .returned (.tuple #[.agg #[.int .i64 z.1.d, .int .i64 z.1.l, .int .i64 z.1.n], .bool true]) ∧ Below w.heap.size w w') := fun w h => TQ.next_some R1 S1 L1 w z h hz
        have N2 : Hid (∀ w, TQ.QAt R2 S2 L2 w → Calls Try.prog 19 #[.pointer (some ⟨R2, 0, none⟩)] w fun e w' => e = .returned (.tuple #[.agg #[.int .i64 z.1.d, .int .i64 z.1.l, .int .i64 z.1.n], .bool true]) ∧ Below w.heap.size w w') := fun w h => TQ.next_some R2 S2 L2 w z h hz2
        have KZ : Hid (kN ks2 0 = z.1) := k0
        have hN0 : 0 < N := by omega
        have n0 : ((N : Int) == 0) = false := by simp; omega
        clear hz hz2 k0 GY
        go_wp2_with fail
        refine (N1.out wr D.out.1).mono ?_
        rintro e w5 ⟨rfl, b5⟩
        have D5 : Hid ((TQ.QAt R1 S1 L1 (w5.alloc (.cells #[.int .i64 z.1.d, .int .i64 z.1.l, .int .i64 z.1.n] 31)) ∧ TQ.QAt R2 S2 L2 (w5.alloc (.cells #[.int .i64 z.1.d, .int .i64 z.1.l, .int .i64 z.1.n] 31)) ∧ RdK (w5.alloc (.cells #[.int .i64 z.1.d, .int .i64 z.1.l, .int .i64 z.1.n] 31)) (.slice a1 N c1) ks2 ∧ RdK (w5.alloc (.cells #[.int .i64 z.1.d, .int .i64 z.1.l, .int .i64 z.1.n] 31)) (.slice a2 N c2) ks2 ∧ Below w.heap.size w (w5.alloc (.cells #[.int .i64 z.1.d, .int .i64 z.1.l, .int .i64 z.1.n] 31))) ∧ Blk w5.heap.size 31 (kyL z.1) (w5.alloc (.cells #[.int .i64 z.1.d, .int .i64 z.1.l, .int .i64 z.1.n] 31))) := ⟨STEP.out _ _ (below_trans b5 (below_alloc _ _)) D.out, Blk.new 31 (kyL z.1) w5⟩
        clear D b5 N1
        go_wp2_with fail
        refine (N2.out _ D5.out.1.2.1).mono ?_
        rintro e w6 ⟨rfl, b6⟩
        have D6 : Hid ((TQ.QAt R1 S1 L1 (w6.alloc (.cells #[.int .i64 z.1.d, .int .i64 z.1.l, .int .i64 z.1.n] 31)) ∧ TQ.QAt R2 S2 L2 (w6.alloc (.cells #[.int .i64 z.1.d, .int .i64 z.1.l, .int .i64 z.1.n] 31)) ∧ RdK (w6.alloc (.cells #[.int .i64 z.1.d, .int .i64 z.1.l, .int .i64 z.1.n] 31)) (.slice a1 N c1) ks2 ∧ RdK (w6.alloc (.cells #[.int .i64 z.1.d, .int .i64 z.1.l, .int .i64 z.1.n] 31)) (.slice a2 N c2) ks2 ∧ Below w.heap.size w (w6.alloc (.cells #[.int .i64 z.1.d, .int .i64 z.1.l, .int .i64 z.1.n] 31))) ∧ Blk w5.heap.size 31 (kyL z.1) (w6.alloc (.cells #[.int .i64 z.1.d, .int .i64 z.1.l, .int .i64 z.1.n] 31)) ∧ Blk w6.heap.size 31 (kyL z.1) (w6.alloc (.cells #[.int .i64 z.1.d, .int .i64 z.1.l, .int .i64 z.1.n] 31))) := ⟨STEP.out _ _ (below_trans b6 (below_alloc _ _)) D5.out.1, (D5.out.2.below b6).old _, Blk.new 31 (kyL z.1) w6⟩
        clear D5 b6 N2 STEP
        go_upto_region 14 with fail
        generalize w6.alloc (.cells #[.int .i64 z.1.d, .int .i64 z.1.l, .int .i64 z.1.n] 31) = w7 at *
        generalize w5.heap.size = Q1 at *
        generalize w6.heap.size = Q2 at *
        obtain ⟨g1, o1, rfl, x0, x1, x2, _⟩ := RdK.cells D6.out.1.2.2.1 hN0
        rw [KZ.out] at x0 x1 x2
        simp only [Nat.zero_mul, Nat.add_zero] at x0 x1 x2
        have S0 : Hid (K9a w7 Q1 Q2 g1 o1 z.1 z.1 z.1 w7.drew) := ⟨Below.drew (Below.refl _ _), D6.out.2.1.cell 0 _ rfl, D6.out.2.1.cell 1 _ rfl, D6.out.2.1.cell 2 _ rfl, D6.out.2.2.cell 0 _ rfl, D6.out.2.2.cell 1 _ rfl, D6.out.2.2.cell 2 _ rfl, x0, x1, x2⟩
        have BD : Hid (Below w.heap.size w w7) := D6.out.1.2.2.2.2
        clear D6 x0 x1 x2
        go_region_held3 (fun w' => K9a w7 Q1 Q2 g1 o1 z.1 z.1 z.1 w') (first | assumption | exact S0.out | exact K9a.keep hU (by assumption)) (first
          | (go_at_call 12; refine (SA.out _ _).mono ?_; rintro e w8 ⟨rfl, hU⟩))
        have B9 : Hid (Below w.heap.size w w8) := below_trans BD.out (And.left (show K9a w7 Q1 Q2 g1 o1 z.1 z.1 z.1 w8 by assumption))
        clear hU BD S0
        go_wp2_with fail
        go_ret
        exact ⟨rfl, B9.out⟩
end Go.Proofs.Ytfdehlfhnlgcjaa
