/-
  Ours: compare once more, with what it lays told to the block: for the library's sort.
-/
import Derived.Test.YtfdehlfhnlgcjaaDoorTqCmp
import Derived.Sort.Grow
namespace Go.Proofs.YtfdehlfhnlgcjaaDoor
open Go.RowKit TqM Go.Sort

/-- Draws and new blocks, and nothing else. -/
def Gr (w w' : World) : Prop := ∃ q os, w' = grow (w.drewN q) os
theorem Gr.refl (w : World) : Gr w w := ⟨0, #[], by rw [grow_empty]; rfl⟩
theorem Gr.alloc (w : World) (o : Obj) : Gr w (w.alloc o) := ⟨0, #[o], by rw [alloc_eq_grow]; rfl⟩
theorem Gr.drewN (w : World) (n : Nat) : Gr w (w.drewN n) := ⟨n, #[], by rw [grow_empty]⟩
theorem grow_drewN (w : World) (os : Array Obj) (n : Nat) : (grow w os).drewN n = grow (w.drewN n) os := rfl
theorem Gr.trans {a b c : World} (h : Gr a b) (k : Gr b c) : Gr a c := by
  obtain ⟨q, os, rfl⟩ := h
  obtain ⟨q', os', rfl⟩ := k
  refine ⟨q + q', os ++ os', ?_⟩
  rw [grow_drewN, grow_grow]
  congr 1
  simp [World.drewN, Nat.add_assoc]
theorem Gr.below {a b : World} (h : Gr a b) : Go.RowKit.Below a.heap.size a b := by
  obtain ⟨q, os, rfl⟩ := h
  refine ⟨rfl, rfl, rfl, ?_, fun k hk => ?_⟩
  · show a.heap.size ≤ (a.heap ++ os).size
    simp
  · show (a.heap ++ os)[k]? = a.heap[k]?
    rw [Array.getElem?_append_left hk]
/-- What a call of no consequence leaves of six cells. -/
abbrev SixG (w : World) (Q P : Nat) (a0 a1 a2 b0 b1 b2 : Int) (w' : World) : Prop := Gr w w' ∧ w'.cell? ⟨Q, 0, none⟩ = some (.int .i64 a0) ∧ w'.cell? ⟨Q, 1, none⟩ = some (.int .i64 a1) ∧ w'.cell? ⟨Q, 2, none⟩ = some (.int .i64 a2) ∧
  w'.cell? ⟨P, 0, none⟩ = some (.int .i64 b0) ∧ w'.cell? ⟨P, 1, none⟩ = some (.int .i64 b1) ∧ w'.cell? ⟨P, 2, none⟩ = some (.int .i64 b2)
theorem SixG.keep {w w1 w2 : World} {Q P : Nat} {a0 a1 a2 b0 b1 b2 : Int} (b : Gr w1 w2) (h : SixG w Q P a0 a1 a2 b0 b1 b2 w1) : SixG w Q P a0 a1 a2 b0 b1 b2 w2 :=
  ⟨h.1.trans b, below_cell b.below h.2.1, below_cell b.below h.2.2.1, below_cell b.below h.2.2.2.1, below_cell b.below h.2.2.2.2.1, below_cell b.below h.2.2.2.2.2.1, below_cell b.below h.2.2.2.2.2.2⟩

set_option maxRecDepth 20000 in
set_option maxHeartbeats 2000000 in
theorem compare_gr (a b : Ky) (w : World) : Calls Tryd.prog 55 #[kyV a, kyV b] w fun e w' => e = .returned (.int .i64 (cmpK a b)) ∧ Gr w w' := by
  have C1 : Hid (∀ x y w, Calls Tryd.prog 66 #[.int .i64 x, .int .i64 y] w fun e w' => e = .returned (.int .i64 (c3 x y)) ∧ Gr w w') := fun x y w => (ccmp_at x y w).mono (by rintro e w' ⟨rfl, rfl⟩; exact ⟨rfl, Gr.refl _⟩)
  have hK : Hid (cmpK a b = if c3 a.d b.d ≠ 0 then c3 a.d b.d else if c3 a.l b.l ≠ 0 then c3 a.l b.l else c3 a.n b.n) := rfl
  generalize cmpK a b = r at *
  obtain ⟨a0, a1, a2⟩ := a
  obtain ⟨b0, b1, b2⟩ := b
  have hK' : (if c3 a0 b0 ≠ 0 then c3 a0 b0 else if c3 a1 b1 ≠ 0 then c3 a1 b1 else c3 a2 b2) = r := hK.out.symm
  have C2 : Hid (∀ w1 : World, Calls Tryd.prog 65 #[.slice (some ⟨w1.heap.size, 0, none⟩) 3 3] (w1.alloc (.cells #[.int .i64 (c3 a0 b0), .int .i64 (c3 a1 b1), .int .i64 (c3 a2 b2)] 3)) fun e w' => e = .returned (.int .i64 r) ∧ Gr (w1.alloc (.cells #[.int .i64 (c3 a0 b0), .int .i64 (c3 a1 b1), .int .i64 (c3 a2 b2)] 3)) w') := fun w1 => by
    have B := Blk.new 3 [.int .i64 (c3 a0 b0), .int .i64 (c3 a1 b1), .int .i64 (c3 a2 b2)] w1
    refine (cor_at _ _ _ _ _ (B.cell 0 _ rfl) (B.cell 1 _ rfl) (B.cell 2 _ rfl)).mono ?_
    rintro e w' ⟨rfl, rfl⟩
    exact ⟨by rw [hK'], Gr.refl _⟩
  have S0 : Hid (SixG w w.heap.size (w.heap.size + 1) a0 a1 a2 b0 b1 b2 ((w.alloc (.cells #[.int .i64 a0, .int .i64 a1, .int .i64 a2] 24)).alloc (.cells #[.int .i64 b0, .int .i64 b1, .int .i64 b2] 24)).drew) := by
    have B1 := (Blk.new 24 [.int .i64 a0, .int .i64 a1, .int .i64 a2] w).old (.cells #[.int .i64 b0, .int .i64 b1, .int .i64 b2] 24)
    have B2 := Blk.new2 24 [.int .i64 b0, .int .i64 b1, .int .i64 b2] w (.cells #[.int .i64 a0, .int .i64 a1, .int .i64 a2] 24)
    exact ⟨((Gr.alloc _ _).trans (Gr.alloc _ _)).trans (Gr.drewN _ 1), B1.cell 0 _ rfl, B1.cell 1 _ rfl, B1.cell 2 _ rfl, B2.cell 0 _ rfl, B2.cell 1 _ rfl, B2.cell 2 _ rfl⟩
  clear hK hK'
  go_enter Tryd.func55, Tryd.ntmps55
  go_upto_region 1 with fail
  generalize (w.alloc (.cells #[.int .i64 a0, .int .i64 a1, .int .i64 a2] 24)).alloc (.cells #[.int .i64 b0, .int .i64 b1, .int .i64 b2] 24) = W at *
  go_region_held3 (fun w' => SixG w w.heap.size (w.heap.size + 1) a0 a1 a2 b0 b1 b2 w') (first | assumption | exact S0.out | exact SixG.keep hU (by assumption) | exact SixG.keep (Gr.alloc _ _) (by assumption)) (first
    | (go_at_call 66; refine (C1.out _ _ _).mono ?_; rintro e w1 ⟨rfl, hU⟩)
    | (go_at_call 65; refine (C2.out _).mono ?_; rintro e w1 ⟨rfl, hU⟩))
  have B9 : Hid (Gr w w1) := And.left (show SixG w w.heap.size (w.heap.size + 1) a0 a1 a2 b0 b1 b2 w1 by assumption)
  go_wp2_with fail
  go_ret
  exact ⟨rfl, B9.out⟩
end Go.Proofs.YtfdehlfhnlgcjaaDoor
