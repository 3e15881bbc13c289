/-
  Ours: compare, and the library's cmp.Compare and cmp.Or that it calls.
-/
import Derived.Test.YtfdehlfhnlgcjaaDoorTqKey
import Derived.Deep.RegionHeld3
import Derived.Deep.CutRange
import Derived.LoopN
namespace Go.Proofs.YtfdehlfhnlgcjaaDoor
open Go.RowKit TqM

set_option maxRecDepth 20000 in
theorem ccmp_at (x y : Int) (w : World) : Calls Tryd.prog 66 #[.int .i64 x, .int .i64 y] w fun e w' => e = .returned (.int .i64 (c3 x y)) ∧ w' = w := by
  have q1 : (x != x) = false := by simp
  have q2 : (y != y) = false := by simp
  by_cases h1 : x < y
  · rw [show c3 x y = -1 from by unfold c3; rw [if_pos h1]]
    go_enter Tryd.func66, Tryd.ntmps66
    go_wp2
    go_ret
    exact ⟨rfl, rfl⟩
  · by_cases h2 : y < x
    · rw [show c3 x y = 1 from by unfold c3; rw [if_neg h1, if_pos h2]]
      go_enter Tryd.func66, Tryd.ntmps66
      go_wp2
      go_ret
      exact ⟨rfl, rfl⟩
    · rw [show c3 x y = 0 from by unfold c3; rw [if_neg h1, if_neg h2]]
      go_enter Tryd.func66, Tryd.ntmps66
      go_wp2
      go_ret
      exact ⟨rfl, rfl⟩

set_option maxRecDepth 20000 in
theorem cor_at (a b c : Int) (G : Nat) (w : World) (h0 : w.cell? ⟨G, 0, none⟩ = some (.int .i64 a)) (h1 : w.cell? ⟨G, 1, none⟩ = some (.int .i64 b)) (h2 : w.cell? ⟨G, 2, none⟩ = some (.int .i64 c)) :
    Calls Tryd.prog 65 #[.slice (some ⟨G, 0, none⟩) 3 3] w fun e w' => e = .returned (.int .i64 (if a ≠ 0 then a else if b ≠ 0 then b else c)) ∧ w' = w := by
  by_cases ha : a = 0
  · subst ha
    by_cases hb : b = 0
    · subst hb
      by_cases hc : c = 0
      · subst hc
        go_enter Tryd.func65, Tryd.ntmps65
        go_wp2
        refine wp_loop_rounds 4 ?_
        rw [rounds_succ]; go_wp2
        rw [rounds_succ]; go_wp2
        rw [rounds_succ]; go_wp2
        rw [rounds_succ]; go_wp2
        go_ret
        exact ⟨rfl, rfl⟩
      · have hc' : (c != 0) = true := by simpa using hc
        go_enter Tryd.func65, Tryd.ntmps65
        go_wp2
        refine wp_loop_rounds 4 ?_
        rw [rounds_succ]; go_wp2
        rw [rounds_succ]; go_wp2
        rw [rounds_succ]; go_wp2
        go_ret
        exact ⟨rfl, rfl⟩
    · have hb' : (b != 0) = true := by simpa using hb
      simp only [ne_eq, not_true_eq_false, if_false, hb, not_false_eq_true, if_true]
      go_enter Tryd.func65, Tryd.ntmps65
      go_wp2
      refine wp_loop_rounds 4 ?_
      rw [rounds_succ]; go_wp2
      rw [rounds_succ]; go_wp2
      go_ret
      exact ⟨rfl, rfl⟩
  · have ha' : (a != 0) = true := by simpa using ha
    simp only [ne_eq, ha, not_false_eq_true, if_true]
    go_enter Tryd.func65, Tryd.ntmps65
    go_wp2
    refine wp_loop_rounds 4 ?_
    rw [rounds_succ]; go_wp2
    go_ret
    exact ⟨rfl, rfl⟩

/-- What a call of no consequence leaves of six cells. -/
abbrev Six (w : World) (Q P : Nat) (a0 a1 a2 b0 b1 b2 : Int) (w' : World) : Prop := Below w.heap.size w w' ∧ w'.cell? ⟨Q, 0, none⟩ = some (.int .i64 a0) ∧ w'.cell? ⟨Q, 1, none⟩ = some (.int .i64 a1) ∧ w'.cell? ⟨Q, 2, none⟩ = some (.int .i64 a2) ∧
  w'.cell? ⟨P, 0, none⟩ = some (.int .i64 b0) ∧ w'.cell? ⟨P, 1, none⟩ = some (.int .i64 b1) ∧ w'.cell? ⟨P, 2, none⟩ = some (.int .i64 b2)
theorem below_cell {w w' : World} {x : Addr} {v : Value} (b : Below w.heap.size w w') (h : w.cell? x = some v) : w'.cell? x = some v := (b.cell (World.block_lt_of_cell? _ _ h)).trans h
theorem Six.keep {w w1 w2 : World} {Q P : Nat} {a0 a1 a2 b0 b1 b2 : Int} (b : Below w1.heap.size w1 w2) (h : Six w Q P a0 a1 a2 b0 b1 b2 w1) : Six w Q P a0 a1 a2 b0 b1 b2 w2 :=
  ⟨below_trans h.1 b, below_cell b h.2.1, below_cell b h.2.2.1, below_cell b h.2.2.2.1, below_cell b h.2.2.2.2.1, below_cell b h.2.2.2.2.2.1, below_cell b h.2.2.2.2.2.2⟩

set_option maxRecDepth 20000 in
set_option maxHeartbeats 2000000 in
theorem compare_at (a b : Ky) (w : World) : Calls Tryd.prog 55 #[kyV a, kyV b] w fun e w' => e = .returned (.int .i64 (cmpK a b)) ∧ Below w.heap.size w w' := by
  have C1 : Hid (∀ x y w, Calls Tryd.prog 66 #[.int .i64 x, .int .i64 y] w fun e w' => e = .returned (.int .i64 (c3 x y)) ∧ Below w.heap.size w w') := fun x y w => (ccmp_at x y w).mono (by rintro e w' ⟨rfl, rfl⟩; exact ⟨rfl, Below.refl _ _⟩)
  have hK : Hid (cmpK a b = if c3 a.d b.d ≠ 0 then c3 a.d b.d else if c3 a.l b.l ≠ 0 then c3 a.l b.l else c3 a.n b.n) := rfl
  generalize cmpK a b = r at *
  obtain ⟨a0, a1, a2⟩ := a
  obtain ⟨b0, b1, b2⟩ := b
  have hK' : (if c3 a0 b0 ≠ 0 then c3 a0 b0 else if c3 a1 b1 ≠ 0 then c3 a1 b1 else c3 a2 b2) = r := hK.out.symm
  have C2 : Hid (∀ w1 : World, Calls Tryd.prog 65 #[.slice (some ⟨w1.heap.size, 0, none⟩) 3 3] (w1.alloc (.cells #[.int .i64 (c3 a0 b0), .int .i64 (c3 a1 b1), .int .i64 (c3 a2 b2)] 3)) fun e w' => e = .returned (.int .i64 r) ∧ Below (w1.alloc (.cells #[.int .i64 (c3 a0 b0), .int .i64 (c3 a1 b1), .int .i64 (c3 a2 b2)] 3)).heap.size (w1.alloc (.cells #[.int .i64 (c3 a0 b0), .int .i64 (c3 a1 b1), .int .i64 (c3 a2 b2)] 3)) w') := fun w1 => by
    have B := Blk.new 3 [.int .i64 (c3 a0 b0), .int .i64 (c3 a1 b1), .int .i64 (c3 a2 b2)] w1
    refine (cor_at _ _ _ _ _ (B.cell 0 _ rfl) (B.cell 1 _ rfl) (B.cell 2 _ rfl)).mono ?_
    rintro e w' ⟨rfl, rfl⟩
    exact ⟨by rw [hK'], Below.refl _ _⟩
  have S0 : Hid (Six w w.heap.size (w.heap.size + 1) a0 a1 a2 b0 b1 b2 ((w.alloc (.cells #[.int .i64 a0, .int .i64 a1, .int .i64 a2] 24)).alloc (.cells #[.int .i64 b0, .int .i64 b1, .int .i64 b2] 24)).drew) := by
    have B1 := (Blk.new 24 [.int .i64 a0, .int .i64 a1, .int .i64 a2] w).old (.cells #[.int .i64 b0, .int .i64 b1, .int .i64 b2] 24)
    have B2 := Blk.new2 24 [.int .i64 b0, .int .i64 b1, .int .i64 b2] w (.cells #[.int .i64 a0, .int .i64 a1, .int .i64 a2] 24)
    exact ⟨Below.drew (below_trans (below_alloc _ _) (below_alloc _ _)), B1.cell 0 _ rfl, B1.cell 1 _ rfl, B1.cell 2 _ rfl, B2.cell 0 _ rfl, B2.cell 1 _ rfl, B2.cell 2 _ rfl⟩
  clear hK hK'
  go_enter Tryd.func55, Tryd.ntmps55
  go_upto_region 1 with fail
  generalize (w.alloc (.cells #[.int .i64 a0, .int .i64 a1, .int .i64 a2] 24)).alloc (.cells #[.int .i64 b0, .int .i64 b1, .int .i64 b2] 24) = W at *
  go_region_held3 (fun w' => Six w w.heap.size (w.heap.size + 1) a0 a1 a2 b0 b1 b2 w') (first | assumption | exact S0.out | exact Six.keep hU (by assumption) | exact Six.keep (below_alloc _ _) (by assumption)) (first
    | (go_at_call 66; refine (C1.out _ _ _).mono ?_; rintro e w1 ⟨rfl, hU⟩)
    | (go_at_call 65; refine (C2.out _).mono ?_; rintro e w1 ⟨rfl, hU⟩))
  have B9 : Hid (Below w.heap.size w w1) := And.left (show Six w w.heap.size (w.heap.size + 1) a0 a1 a2 b0 b1 b2 w1 by assumption)
  go_wp2_with fail
  go_ret
  exact ⟨rfl, B9.out⟩
end Go.Proofs.YtfdehlfhnlgcjaaDoor
