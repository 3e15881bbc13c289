/-
  Ours: TqPps, joined.
-/
import Derived.Test.YtfdehlfhnlgcjaaDoorTqUz
namespace Go.Proofs.YtfdehlfhnlgcjaaDoor
open Go.RowKit TqM

theorem RdO.two (w : World) (e f : OpT) : RdO (w.alloc (.cells (opT e ++ opT f).toArray 26)) (.slice (some ⟨w.heap.size, 0, none⟩) 2 2) [e, f] := by
  have al := (Blk.new 26 (opT e ++ opT f) w).all
  refine ⟨_, _, rfl, Nat.le_refl _, (fun h => by cases h), fun i hi => ?_⟩
  have hi2 : i = 0 ∨ i = 1 := by simp at hi; omega
  rcases hi2 with rfl | rfl
  · refine ⟨_, _, rfl, by simp, fun j v hj => ?_⟩
    have hj6 := opT_get _ _ _ hj
    have := al j v (by rw [List.getElem?_append_left (by simpa [opT, opL] using hj6)]; exact hj)
    simpa using this
  · refine ⟨_, _, rfl, by simp, fun j v hj => ?_⟩
    have hj6 := opT_get _ _ _ hj
    have := al (6 + j) v (by rw [List.getElem?_append_right (by simp [opT, opL])]; rw [show 6 + j - (opT e).length = j from by simp [opT, opL]]; exact hj)
    simpa [Nat.add_assoc] using this
set_option maxRecDepth 20000 in
set_option maxHeartbeats 2000000 in
theorem pops_any (os : List OpT) (vs : Value) (w : World) (oko : ∀ o ∈ os, LedM.i64 o.n) (hns : os.length ≤ 1048576) (h : RdO w vs os) (ht : TabP w) :
    Calls Tryd.prog 5 #[vs] w fun e w' => e = .returned (.bool true) ∧ Below w.heap.size w w' := by
  have U1 : Hid (∀ lo hi, Calls Tryd.prog 7 #[.slice (some ⟨w.heap.size, 0, none⟩) 2 2, .int .i64 lo, .int .i64 hi] (w.alloc (.cells #[.int .i64 1, .bool false, .int .i64 1, .int .i64 1, .int .i64 1, .int .i64 5, .int .i64 6, .bool false, .int .i64 0, .int .i64 0, .int .i64 0, .int .i64 1] 26)) fun e w' => e = .returned (.bool true) ∧ Below w.heap.size w w') := fun lo hi => (upTo_at [⟨1, false, ⟨1, 1, 1⟩, 5⟩, ⟨6, false, ⟨0, 0, 0⟩, 1⟩] _ lo hi _ (by simp) (fun o ho => by simp at ho; rcases ho with rfl | rfl <;> exact ⟨by decide, by decide⟩) (RdO.two w ⟨1, false, ⟨1, 1, 1⟩, 5⟩ ⟨6, false, ⟨0, 0, 0⟩, 1⟩) (ht.below ht.lt (below_alloc w _))).mono fun e w' ⟨he, hb⟩ => ⟨he, below_trans (below_alloc w _) hb⟩
  have U2 : Hid (∀ w', Below w.heap.size w w' → ∀ lo hi, Calls Tryd.prog 7 #[vs, .int .i64 lo, .int .i64 hi] w' fun e w2 => e = .returned (.bool true) ∧ Below w'.heap.size w' w2) := fun w' b lo hi => upTo_at os vs lo hi w' (by omega) oko (h.later b) (ht.below ht.lt b)
  clear oko hns h ht
  go_enter Tryd.func5, Tryd.ntmps5
  go_wp2_with fail
  refine (U1.out _ _).mono ?_
  rintro e w1 ⟨rfl, b1⟩
  have B1 : Hid (Below w.heap.size w w1) := b1
  clear b1 U1
  go_wp2_with fail
  refine (U2.out _ B1.out _ _).mono ?_
  rintro e w2 ⟨rfl, b2⟩
  have B2 : Hid (Below w.heap.size w w2) := below_trans B1.out b2
  clear b2 U2 B1
  go_wp2_with fail
  go_ret
  exact ⟨rfl, B2.out⟩
end Go.Proofs.YtfdehlfhnlgcjaaDoor
