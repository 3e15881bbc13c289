/-
  Ours: the law's nexts.
-/
import Derived.Test.YtfdehlfhnlgcjaaDoorTqGets
namespace Go.Proofs.YtfdehlfhnlgcjaaDoor
open Go.RowKit TqM

theorem Blk3 (w : World) (R1 R2 : Nat) (vL : Value) : Blk w.heap.size 33 (trL R1 R2 vL) (w.alloc (.cells #[.pointer (some ⟨R1, 0, none⟩), .pointer (some ⟨R2, 0, none⟩), vL] 33)) := Blk.new 33 (trL R1 R2 vL) w
/-- What a call of nexts holds in its own memory. -/
structure Nx (w : World) (Q K J M R1 R2 : Nat) (vL : Value) (z x : Ky) (w' : World) : Prop where
  b : Below w.heap.size w w'
  q : Blk Q 33 (trL R1 R2 vL) w'
  k : Blk K 24 (kyL z) w'
  j : Blk J 24 (kyL z) w'
  m : Blk M 24 (kyL x) w'
theorem Nx.below {w w1 w2 : World} {Q K J M R1 R2 : Nat} {vL : Value} {z x : Ky} (h : Nx w Q K J M R1 R2 vL z x w1) (b : Below w1.heap.size w1 w2) : Nx w Q K J M R1 R2 vL z x w2 := ⟨below_trans h.b b, h.q.below b, h.k.below b, h.j.below b, h.m.below b⟩
/-- A trio's cells, in a region that draws its order. -/
abbrev T3 (w : World) (Q R1 R2 : Nat) (vL : Value) (w' : World) : Prop := Below w.heap.size w w' ∧ w'.cell? ⟨Q, 0, none⟩ = some (.pointer (some ⟨R1, 0, none⟩)) ∧ w'.cell? ⟨Q, 1, none⟩ = some (.pointer (some ⟨R2, 0, none⟩)) ∧ w'.cell? ⟨Q, 2, none⟩ = some vL
theorem T3.keep {w w1 w2 : World} {Q R1 R2 : Nat} {vL : Value} (b : Below w1.heap.size w1 w2) (c : T3 w Q R1 R2 vL w1) : T3 w Q R1 R2 vL w2 := ⟨below_trans c.1 b, below_cell b c.2.1, below_cell b c.2.2.1, below_cell b c.2.2.2⟩
/-- The keys of a queue, as a list tells the first. -/
theorem least_map {G : List (Ky × Int)} (h : Sd G) (h0 : 0 < G.length) : TQ.Least (gN G 0) G := by
  cases G with
  | nil => cases h0
  | cons x r =>
    show TQ.Least x (x :: r)
    refine ⟨by simp, fun y hy => ?_⟩
    rcases List.mem_cons.1 hy with rfl | hy
    · exact .inl rfl
    · exact .inr ((List.pairwise_cons.1 h).1 y hy)
theorem least_perm {L G : List (Ky × Int)} {z : Ky × Int} (h : TQ.Least z G) (p : L.Perm G) : TQ.Least z L := ⟨p.mem_iff.2 h.1, fun x hx => h.2 x (p.mem_iff.1 hx)⟩
theorem least_permT {L : List (Ky × ByteArray)} {G : List (Ky × Int)} {z : Ky × Int} (h : TQ.Least z G) (p : L.Perm (G.map wdP)) : TS.Least (wdP z) L := by
  refine ⟨p.mem_iff.2 (List.mem_map.2 ⟨z, h.1, rfl⟩), fun x hx => ?_⟩
  obtain ⟨y, hy, rfl⟩ := List.mem_map.1 (p.mem_iff.1 hx)
  rcases h.2 y hy with rfl | h1
  · exact .inl rfl
  · exact .inr h1
theorem set3_blk {M : Nat} {w : World} {x : Ky} (k : Ky) (h : Blk M 24 (kyL x) w) : Blk M 24 (kyL k) (((w.setCell ⟨M, 0, none⟩ (.int .i64 k.d)).setCell ⟨M, 1, none⟩ (.int .i64 k.l)).setCell ⟨M, 2, none⟩ (.int .i64 k.n)) ∧ w.grownBy (((w.setCell ⟨M, 0, none⟩ (.int .i64 k.d)).setCell ⟨M, 1, none⟩ (.int .i64 k.l)).setCell ⟨M, 2, none⟩ (.int .i64 k.n)) (some M) :=
  ⟨((h.set (i := 0) (.int .i64 k.d)).set (i := 1) (.int .i64 k.l)).set (i := 2) (.int .i64 k.n), grownBy_trans (grownBy_trans (setCell_grown w M 0 _) (setCell_grown _ M 1 _)) (setCell_grown _ M 2 _)⟩

set_option maxRecDepth 20000 in
set_option maxHeartbeats 2000000 in
theorem nexts_none (B R1 R2 N : Nat) (vL : Value) (T : Nat → Prop) (w : World) (h : Tri B R1 R2 vL T N [] w) :
    Calls Tryd.prog 23 #[trV R1 R2 vL] w fun e w' => e = .returned (.bool true) ∧ Below w.heap.size w w' := by
  obtain ⟨S1, S2, L1, L2, q⟩ := h.q
  obtain rfl : L1 = [] := q.p1.eq_nil
  obtain rfl : L2 = [] := List.Perm.eq_nil (by simpa using q.p2)
  obtain ⟨ao, cap, hv, -, -, -⟩ := q.row.rd
  rw [List.length_nil] at hv
  have NI : Hid (∀ w', Below w.heap.size w w' → Calls Tryd.prog 38 #[.pointer (some ⟨R1, 0, none⟩)] w' fun e w2 => e = .returned (.tuple #[.agg #[.int .i64 0, .int .i64 0, .int .i64 0], .bool false]) ∧ Below w'.heap.size w' w2) := fun w' b => TQ.next_none R1 S1 w' (q.q1.below b)
  have NT : Hid (∀ w', Below w.heap.size w w' → Calls Tryd.prog 39 #[.pointer (some ⟨R2, 0, none⟩)] w' fun e w2 => e = .returned (.tuple #[.agg #[.int .i64 0, .int .i64 0, .int .i64 0], .bool false]) ∧ Below w'.heap.size w' w2) := fun w' b => TS.next_none R2 S2 w' (q.q2.below b)
  have LI : Hid (∀ w', Below w.heap.size w w' → Calls Tryd.prog 41 #[.pointer (some ⟨R1, 0, none⟩)] w' fun e w2 => e = .returned (.int .i64 0) ∧ w2 = w') := fun w' b => TQ.len_at R1 S1 _ w' (q.q1.below b)
  have LT2 : Hid (∀ w', Below w.heap.size w w' → Calls Tryd.prog 42 #[.pointer (some ⟨R2, 0, none⟩)] w' fun e w2 => e = .returned (.int .i64 0) ∧ w2 = w') := fun w' b => TS.len_at R2 S2 _ w' (q.q2.below b)
  have SM : Hid (∀ w', Calls Tryd.prog 40 #[.agg #[.int .i64 0, .int .i64 0, .int .i64 0], .agg #[.int .i64 0, .int .i64 0, .int .i64 0]] w' fun e w2 => e = .returned (.bool true) ∧ Below w'.heap.size w' w2) := fun w' => by
    have := same_at ⟨0, 0, 0⟩ ⟨0, 0, 0⟩ w'
    rw [decide_eq_true rfl] at this
    exact this
  have B0 : Hid (Blk w.heap.size 33 (trL R1 R2 vL) (w.alloc (.cells #[.pointer (some ⟨R1, 0, none⟩), .pointer (some ⟨R2, 0, none⟩), vL] 33)) ∧ Below w.heap.size w (w.alloc (.cells #[.pointer (some ⟨R1, 0, none⟩), .pointer (some ⟨R2, 0, none⟩), vL] 33))) := ⟨Blk3 w R1 R2 vL, below_alloc _ _⟩
  clear h q
  subst hv
  go_enter Tryd.func23, Tryd.ntmps23
  go_wp2_with fail
  refine (NI.out _ B0.out.2).mono ?_
  rintro e w2 ⟨rfl, b2⟩
  have B2 : Hid (Blk w.heap.size 33 (trL R1 R2 (.slice ao 0 cap)) (w2.alloc (.cells #[.int .i64 0, .int .i64 0, .int .i64 0] 24)) ∧ Blk w2.heap.size 24 (kyL ⟨0, 0, 0⟩) (w2.alloc (.cells #[.int .i64 0, .int .i64 0, .int .i64 0] 24)) ∧ Below w.heap.size w (w2.alloc (.cells #[.int .i64 0, .int .i64 0, .int .i64 0] 24))) := ⟨(B0.out.1.below b2).below (below_alloc _ _), Blk.new 24 (kyL ⟨0, 0, 0⟩) w2, below_trans (below_trans B0.out.2 b2) (below_alloc _ _)⟩
  have x0 := B2.out.1.cell 0 _ rfl
  have x1 := B2.out.1.cell 1 _ rfl
  have x2 := B2.out.1.cell 2 _ rfl
  clear b2 B0 NI
  go_wp2_with fail
  refine (NT.out _ B2.out.2.2).mono ?_
  rintro e w3 ⟨rfl, b3⟩
  have N3 : Hid (Nx w w.heap.size w2.heap.size w3.heap.size (w3.heap.size + 1) R1 R2 (.slice ao 0 cap) ⟨0, 0, 0⟩ ⟨0, 0, 0⟩ ((w3.alloc (.cells #[.int .i64 0, .int .i64 0, .int .i64 0] 24)).alloc (.cells #[.int .i64 0, .int .i64 0, .int .i64 0] 24))) := by
    have bb := below_trans (below_alloc w3 (.cells #[.int .i64 0, .int .i64 0, .int .i64 0] 24)) (below_alloc _ (.cells #[.int .i64 0, .int .i64 0, .int .i64 0] 24))
    exact ⟨below_trans (below_trans B2.out.2.2 b3) bb, (B2.out.1.below b3).below bb, (B2.out.2.1.below b3).below bb, (Blk.new 24 (kyL ⟨0, 0, 0⟩) w3).old _, Blk.new2 24 (kyL ⟨0, 0, 0⟩) w3 _⟩
  clear x0 x1 x2 b3 B2 NT
  go_upto_region 4 with fail
  generalize (w3.alloc (.cells #[.int .i64 0, .int .i64 0, .int .i64 0] 24)).alloc (.cells #[.int .i64 0, .int .i64 0, .int .i64 0] 24) = W at *
  generalize w3.heap.size + 1 = M at *
  generalize w3.heap.size = J at *
  generalize w2.heap.size = K at *
  have x0 := N3.out.q.cell 0 _ rfl
  have x1 := N3.out.q.cell 1 _ rfl
  have x2 := N3.out.q.cell 2 _ rfl
  have y0 := N3.out.k.cell 0 _ rfl
  have y1 := N3.out.k.cell 1 _ rfl
  have y2 := N3.out.k.cell 2 _ rfl
  have u0 := N3.out.j.cell 0 _ rfl
  have u1 := N3.out.j.cell 1 _ rfl
  have u2 := N3.out.j.cell 2 _ rfl
  have v0 := N3.out.m.cell 0 _ rfl
  have v1 := N3.out.m.cell 1 _ rfl
  have v2 := N3.out.m.cell 2 _ rfl
  go_wp2_with fail
  refine (SM.out _).mono ?_
  rintro e w5 ⟨rfl, b5⟩
  have N5 : Hid (Nx w w.heap.size K J M R1 R2 (.slice ao 0 cap) ⟨0, 0, 0⟩ ⟨0, 0, 0⟩ w5) := N3.out.below b5
  clear b5 N3
  clear x0 x1 x2 y0 y1 y2 u0 u1 u2 v0 v1 v2
  have x0 := N5.out.q.cell 0 _ rfl
  have x1 := N5.out.q.cell 1 _ rfl
  have x2 := N5.out.q.cell 2 _ rfl
  have y0 := N5.out.k.cell 0 _ rfl
  have y1 := N5.out.k.cell 1 _ rfl
  have y2 := N5.out.k.cell 2 _ rfl
  have u0 := N5.out.j.cell 0 _ rfl
  have u1 := N5.out.j.cell 1 _ rfl
  have u2 := N5.out.j.cell 2 _ rfl
  have v0 := N5.out.m.cell 0 _ rfl
  have v1 := N5.out.m.cell 1 _ rfl
  have v2 := N5.out.m.cell 2 _ rfl
  go_wp2_with fail
  refine (SM.out _).mono ?_
  rintro e w6 ⟨rfl, b6⟩
  have N6 : Hid (Nx w w.heap.size K J M R1 R2 (.slice ao 0 cap) ⟨0, 0, 0⟩ ⟨0, 0, 0⟩ w6) := N5.out.below b6
  clear b6 N5
  clear x0 x1 x2 y0 y1 y2 u0 u1 u2 v0 v1 v2
  have S6 : Hid (T3 w w.heap.size R1 R2 (.slice ao 0 cap) w6.drew) := ⟨Below.drew N6.out.b, N6.out.q.cell 0 _ rfl, N6.out.q.cell 1 _ rfl, N6.out.q.cell 2 _ rfl⟩
  go_upto_region 8 with fail
  go_region_held3 (fun w' => T3 w w.heap.size R1 R2 (.slice ao 0 cap) w') (first | assumption | exact S6.out) (first
    | (go_at_call 41; refine (LI.out _ (And.left (show T3 w w.heap.size R1 R2 (.slice ao 0 cap) _ by assumption))).mono ?_; rintro e w7 ⟨rfl, rfl⟩)
    | (go_at_call 42; refine (LT2.out _ (And.left (show T3 w w.heap.size R1 R2 (.slice ao 0 cap) _ by assumption))).mono ?_; rintro e w8 ⟨rfl, rfl⟩))
  have F6 : Hid (Below w.heap.size w w6.drew) := S6.out.1
  clear S6 N6 LI LT2 SM
  go_wp2_with fail
  go_ret
  exact ⟨rfl, F6.out⟩

set_option maxRecDepth 20000 in
set_option maxHeartbeats 2000000 in
theorem nexts_some (B R1 R2 N : Nat) (vL : Value) (T : Nat → Prop) (G : List (Ky × Int)) (w : World) (h0 : 0 < G.length) (h : Tri B R1 R2 vL T N G w) :
    Calls Tryd.prog 23 #[trV R1 R2 vL] w fun e w' => e = .returned (.bool true) ∧ Below w.heap.size w w' := by
  obtain ⟨S1, S2, L1, L2, q⟩ := h.q
  have LS := least_map h.sd h0
  have L1n := q.p1.length_eq
  have L2n := q.p2.length_eq
  rw [List.length_map] at L2n
  obtain ⟨ao, cap, hv, -, -, H⟩ := q.row.rd
  obtain ⟨g, o, rfl, lt, r⟩ := H 0 h0
  have c0 : w.cell? ⟨g, o, none⟩ = some (.int .i64 (gN G 0).1.d) := by simpa using r 0 _ rfl
  have c1 : w.cell? ⟨g, o + 1, none⟩ = some (.int .i64 (gN G 0).1.l) := by simpa using r 1 _ rfl
  have c2 : w.cell? ⟨g, o + 2, none⟩ = some (.int .i64 (gN G 0).1.n) := by simpa using r 2 _ rfl
  have CC : Hid (∀ w', Below w.heap.size w w' → w'.cell? ⟨g, o, none⟩ = some (.int .i64 (gN G 0).1.d) ∧ w'.cell? ⟨g, o + 1, none⟩ = some (.int .i64 (gN G 0).1.l) ∧ w'.cell? ⟨g, o + 2, none⟩ = some (.int .i64 (gN G 0).1.n)) := fun w' b => ⟨below_cell b c0, below_cell b c1, below_cell b c2⟩
  have LT : Hid (g < w.heap.size) := lt
  clear H r c0 c1 c2
  have h0' : (0 : Int) < (G.length : Int) := by omega
  have d0 : decide ((0 : Int) < (G.length : Int)) = true := decide_eq_true h0'
  have NI : Hid (∀ w', Below w.heap.size w w' → Calls Tryd.prog 38 #[.pointer (some ⟨R1, 0, none⟩)] w' fun e w2 => e = .returned (.tuple #[.agg #[.int .i64 (gN G 0).1.d, .int .i64 (gN G 0).1.l, .int .i64 (gN G 0).1.n], .bool true]) ∧ Below w'.heap.size w' w2) := fun w' b => TQ.next_some R1 S1 L1 w' _ (q.q1.below b) (least_perm LS q.p1)
  have NT : Hid (∀ w', Below w.heap.size w w' → Calls Tryd.prog 39 #[.pointer (some ⟨R2, 0, none⟩)] w' fun e w2 => e = .returned (.tuple #[.agg #[.int .i64 (gN G 0).1.d, .int .i64 (gN G 0).1.l, .int .i64 (gN G 0).1.n], .bool true]) ∧ Below w'.heap.size w' w2) := fun w' b => TS.next_some R2 S2 L2 w' _ (q.q2.below b) (least_permT LS q.p2)
  have LI : Hid (∀ w', Below w.heap.size w w' → Calls Tryd.prog 41 #[.pointer (some ⟨R1, 0, none⟩)] w' fun e w2 => e = .returned (.int .i64 (G.length : Int)) ∧ w2 = w') := fun w' b => by rw [← L1n]; exact TQ.len_at R1 S1 _ w' (q.q1.below b)
  have LT2 : Hid (∀ w', Below w.heap.size w w' → Calls Tryd.prog 42 #[.pointer (some ⟨R2, 0, none⟩)] w' fun e w2 => e = .returned (.int .i64 (G.length : Int)) ∧ w2 = w') := fun w' b => by rw [← L2n]; exact TS.len_at R2 S2 _ w' (q.q2.below b)
  clear L1n L2n LS lt
  generalize gN G 0 = z at *
  generalize G.length = n at *
  have SM : Hid (∀ w', Calls Tryd.prog 40 #[.agg #[.int .i64 z.1.d, .int .i64 z.1.l, .int .i64 z.1.n], .agg #[.int .i64 z.1.d, .int .i64 z.1.l, .int .i64 z.1.n]] w' fun e w2 => e = .returned (.bool true) ∧ Below w'.heap.size w' w2) := fun w' => by
    have := same_at z.1 z.1 w'
    rw [decide_eq_true rfl] at this
    exact this
  have B0 : Hid (Blk w.heap.size 33 (trL R1 R2 vL) (w.alloc (.cells #[.pointer (some ⟨R1, 0, none⟩), .pointer (some ⟨R2, 0, none⟩), vL] 33)) ∧ Below w.heap.size w (w.alloc (.cells #[.pointer (some ⟨R1, 0, none⟩), .pointer (some ⟨R2, 0, none⟩), vL] 33))) := ⟨Blk3 w R1 R2 vL, below_alloc _ _⟩
  clear h q
  subst hv
  go_enter Tryd.func23, Tryd.ntmps23
  go_wp2_with fail
  refine (NI.out _ B0.out.2).mono ?_
  rintro e w2 ⟨rfl, b2⟩
  have B2 : Hid (Blk w.heap.size 33 (trL R1 R2 (.slice (some ⟨g, o, none⟩) n cap)) (w2.alloc (.cells #[.int .i64 z.1.d, .int .i64 z.1.l, .int .i64 z.1.n] 24)) ∧ Blk w2.heap.size 24 (kyL z.1) (w2.alloc (.cells #[.int .i64 z.1.d, .int .i64 z.1.l, .int .i64 z.1.n] 24)) ∧ Below w.heap.size w (w2.alloc (.cells #[.int .i64 z.1.d, .int .i64 z.1.l, .int .i64 z.1.n] 24))) := ⟨(B0.out.1.below b2).below (below_alloc _ _), Blk.new 24 (kyL z.1) w2, below_trans (below_trans B0.out.2 b2) (below_alloc _ _)⟩
  have x0 := B2.out.1.cell 0 _ rfl
  have x1 := B2.out.1.cell 1 _ rfl
  have x2 := B2.out.1.cell 2 _ rfl
  clear b2 B0 NI
  go_wp2_with fail
  refine (NT.out _ B2.out.2.2).mono ?_
  rintro e w3 ⟨rfl, b3⟩
  have N3 : Hid (Nx w w.heap.size w2.heap.size w3.heap.size (w3.heap.size + 1) R1 R2 (.slice (some ⟨g, o, none⟩) n cap) z.1 ⟨0, 0, 0⟩ ((w3.alloc (.cells #[.int .i64 z.1.d, .int .i64 z.1.l, .int .i64 z.1.n] 24)).alloc (.cells #[.int .i64 0, .int .i64 0, .int .i64 0] 24))) := by
    have bb := below_trans (below_alloc w3 (.cells #[.int .i64 z.1.d, .int .i64 z.1.l, .int .i64 z.1.n] 24)) (below_alloc _ (.cells #[.int .i64 0, .int .i64 0, .int .i64 0] 24))
    exact ⟨below_trans (below_trans B2.out.2.2 b3) bb, (B2.out.1.below b3).below bb, (B2.out.2.1.below b3).below bb, (Blk.new 24 (kyL z.1) w3).old _, Blk.new2 24 (kyL ⟨0, 0, 0⟩) w3 _⟩
  have NE : Hid (w.heap.size ≠ w3.heap.size + 1 ∧ w2.heap.size ≠ w3.heap.size + 1 ∧ w3.heap.size ≠ w3.heap.size + 1 ∧ g ≠ w3.heap.size + 1) := by
    have h1 := (B2.out.1.below b3).lt
    have h2 := (B2.out.2.1.below b3).lt
    have h3 := LT.out
    refine ⟨?_, ?_, ?_, ?_⟩ <;> omega
  have NM : Hid (w.heap.size ≤ w3.heap.size + 1) := by
    have h1 := (B2.out.1.below b3).lt
    unfold Hid
    omega
  clear x0 x1 x2 b3 B2 NT
  go_upto_region 4 with fail
  generalize (w3.alloc (.cells #[.int .i64 z.1.d, .int .i64 z.1.l, .int .i64 z.1.n] 24)).alloc (.cells #[.int .i64 0, .int .i64 0, .int .i64 0] 24) = W at *
  generalize w3.heap.size + 1 = M at *
  generalize w3.heap.size = J at *
  generalize w2.heap.size = K at *
  have x0 := N3.out.q.cell 0 _ rfl
  have x1 := N3.out.q.cell 1 _ rfl
  have x2 := N3.out.q.cell 2 _ rfl
  have y0 := N3.out.k.cell 0 _ rfl
  have y1 := N3.out.k.cell 1 _ rfl
  have y2 := N3.out.k.cell 2 _ rfl
  have u0 := N3.out.j.cell 0 _ rfl
  have u1 := N3.out.j.cell 1 _ rfl
  have u2 := N3.out.j.cell 2 _ rfl
  have v0 := N3.out.m.cell 0 _ rfl
  have v1 := N3.out.m.cell 1 _ rfl
  have v2 := N3.out.m.cell 2 _ rfl
  obtain ⟨c0, c1, c2⟩ := CC.out W N3.out.b
  have f0 := N3.out.m.fz 0
  have f1 := N3.out.m.fz 1
  have f2 := N3.out.m.fz 2
  have ltM := N3.out.m.lt
  have gM : g ≠ M := NE.out.2.2.2
  go_upto_region 6 with fail
  have N4 : Hid (Nx w w.heap.size K J M R1 R2 (.slice (some ⟨g, o, none⟩) n cap) z.1 z.1 (((W.setCell ⟨M, 0, none⟩ (.int .i64 z.1.d)).setCell ⟨M, 1, none⟩ (.int .i64 z.1.l)).setCell ⟨M, 2, none⟩ (.int .i64 z.1.n))) := by
    obtain ⟨h1, h2⟩ := set3_blk z.1 N3.out.m
    exact ⟨below_row N3.out.b h2 NM.out, N3.out.q.grown h2 (fun e => NE.out.1 (by injection e with e; exact e.symm)), N3.out.k.grown h2 (fun e => NE.out.2.1 (by injection e with e; exact e.symm)), N3.out.j.grown h2 (fun e => NE.out.2.2.1 (by injection e with e; exact e.symm)), h1⟩
  clear c0 c1 c2 f0 f1 f2 ltM gM N3 NE NM
  clear x0 x1 x2 y0 y1 y2 u0 u1 u2 v0 v1 v2
  generalize ((W.setCell ⟨M, 0, none⟩ (.int .i64 z.1.d)).setCell ⟨M, 1, none⟩ (.int .i64 z.1.l)).setCell ⟨M, 2, none⟩ (.int .i64 z.1.n) = W4 at *
  have x0 := N4.out.q.cell 0 _ rfl
  have x1 := N4.out.q.cell 1 _ rfl
  have x2 := N4.out.q.cell 2 _ rfl
  have y0 := N4.out.k.cell 0 _ rfl
  have y1 := N4.out.k.cell 1 _ rfl
  have y2 := N4.out.k.cell 2 _ rfl
  have u0 := N4.out.j.cell 0 _ rfl
  have u1 := N4.out.j.cell 1 _ rfl
  have u2 := N4.out.j.cell 2 _ rfl
  have v0 := N4.out.m.cell 0 _ rfl
  have v1 := N4.out.m.cell 1 _ rfl
  have v2 := N4.out.m.cell 2 _ rfl
  go_wp2_with fail
  refine (SM.out _).mono ?_
  rintro e w5 ⟨rfl, b5⟩
  have N5 : Hid (Nx w w.heap.size K J M R1 R2 (.slice (some ⟨g, o, none⟩) n cap) z.1 z.1 w5) := N4.out.below b5
  clear b5 N4
  clear x0 x1 x2 y0 y1 y2 u0 u1 u2 v0 v1 v2
  have x0 := N5.out.q.cell 0 _ rfl
  have x1 := N5.out.q.cell 1 _ rfl
  have x2 := N5.out.q.cell 2 _ rfl
  have y0 := N5.out.k.cell 0 _ rfl
  have y1 := N5.out.k.cell 1 _ rfl
  have y2 := N5.out.k.cell 2 _ rfl
  have u0 := N5.out.j.cell 0 _ rfl
  have u1 := N5.out.j.cell 1 _ rfl
  have u2 := N5.out.j.cell 2 _ rfl
  have v0 := N5.out.m.cell 0 _ rfl
  have v1 := N5.out.m.cell 1 _ rfl
  have v2 := N5.out.m.cell 2 _ rfl
  go_wp2_with fail
  refine (SM.out _).mono ?_
  rintro e w6 ⟨rfl, b6⟩
  have N6 : Hid (Nx w w.heap.size K J M R1 R2 (.slice (some ⟨g, o, none⟩) n cap) z.1 z.1 w6) := N5.out.below b6
  clear b6 N5
  clear x0 x1 x2 y0 y1 y2 u0 u1 u2 v0 v1 v2
  have S6 : Hid (T3 w w.heap.size R1 R2 (.slice (some ⟨g, o, none⟩) n cap) w6.drew) := ⟨Below.drew N6.out.b, N6.out.q.cell 0 _ rfl, N6.out.q.cell 1 _ rfl, N6.out.q.cell 2 _ rfl⟩
  go_upto_region 8 with fail
  go_region_held3 (fun w' => T3 w w.heap.size R1 R2 (.slice (some ⟨g, o, none⟩) n cap) w') (first | assumption | exact S6.out) (first
    | (go_at_call 41; refine (LI.out _ (And.left (show T3 w w.heap.size R1 R2 (.slice (some ⟨g, o, none⟩) n cap) _ by assumption))).mono ?_; rintro e w7 ⟨rfl, rfl⟩)
    | (go_at_call 42; refine (LT2.out _ (And.left (show T3 w w.heap.size R1 R2 (.slice (some ⟨g, o, none⟩) n cap) _ by assumption))).mono ?_; rintro e w8 ⟨rfl, rfl⟩))
  have F6 : Hid (Below w.heap.size w w6.drew) := S6.out.1
  clear S6 N6 LI LT2 SM
  go_wp2_with fail
  go_ret
  exact ⟨rfl, F6.out⟩

end Go.Proofs.YtfdehlfhnlgcjaaDoor
