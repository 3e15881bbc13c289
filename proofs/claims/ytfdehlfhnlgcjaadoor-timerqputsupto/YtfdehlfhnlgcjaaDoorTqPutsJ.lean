/-
  Ours: TqPuts, joined.
-/
import Derived.Test.YtfdehlfhnlgcjaaDoorTqUz
namespace Go.Proofs.YtfdehlfhnlgcjaaDoor
open Go.RowKit TqM

set_option maxRecDepth 20000 in
set_option maxHeartbeats 2000000 in
theorem puts_any (os : List OpT) (vs : Value) (w : World) (oko : ∀ o ∈ os, LedM.i64 o.n) (hns : os.length ≤ 1048576) (h : RdO w vs os) (ht : TabP w) :
    Calls Tryd.prog 3 #[vs] w fun e w' => e = .returned (.bool true) ∧ Below w.heap.size w w' := by
  have U1 : Hid (∀ lo hi, Calls Tryd.prog 7 #[.slice (some ⟨w.heap.size, 0, none⟩) 1 1, .int .i64 lo, .int .i64 hi] (w.alloc (.cells #[.int .i64 1, .bool false, .int .i64 1, .int .i64 1, .int .i64 1, .int .i64 1] 26)) fun e w' => e = .returned (.bool true) ∧ Below w.heap.size w w') := fun lo hi => (upTo_at [⟨1, false, ⟨1, 1, 1⟩, 1⟩] _ lo hi _ (by simp) (fun o ho => by simp at ho; rcases ho with rfl <;> exact ⟨by decide, by decide⟩) (RdO.one w ⟨1, false, ⟨1, 1, 1⟩, 1⟩) (ht.below ht.lt (below_alloc w _))).mono fun e w' ⟨he, hb⟩ => ⟨he, below_trans (below_alloc w _) hb⟩
  have U2 : Hid (∀ w', Below w.heap.size w w' → ∀ lo hi, Calls Tryd.prog 7 #[vs, .int .i64 lo, .int .i64 hi] w' fun e w2 => e = .returned (.bool true) ∧ Below w'.heap.size w' w2) := fun w' b lo hi => upTo_at os vs lo hi w' (by omega) oko (h.later b) (ht.below ht.lt b)
  clear oko hns h ht
  go_enter Tryd.func3, Tryd.ntmps3
  go_wp2_with fail
  refine (U1.out _ _).mono ?_
  rintro e w1 ⟨rfl, b1⟩
  have B1 : Hid (Below w.heap.size w w1) := b1
  clear b1 U1
  go_wp2_with fail
  refine (U2.out _ B1.out _ _).mono ?_
  rintro e w2 ⟨rfl, b2⟩
  have B2 : Hid (Below w.heap.size w w2) := below_trans B1.out b2
  clear b2 U2 B1
  go_wp2_with fail
  go_ret
  exact ⟨rfl, B2.out⟩
end Go.Proofs.YtfdehlfhnlgcjaaDoor
