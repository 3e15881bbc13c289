/-
  Ours: interest.partsOf of an equal plan.
-/
import Derived.Test.YtkabfdajpilomabDoorIntPart
import Derived.RegionTactic
import Derived.ChangeAlike
import Derived.BigRegion
import Derived.Laws.NewBlocks
namespace Go.Proofs.YtkabfdajpilomabDoor
open Go.RowKit IntM CalM

theorem two_new1 (W : World) (u v : Value) (t t' : TypeId) : (((W.alloc (.cells #[u] t)).alloc (.cells #[v] t')).drew).cell? ⟨W.heap.size, 0, none⟩ = some u := by
  show ((W.alloc (.cells #[u] t)).alloc (.cells #[v] t')).cell? ⟨W.heap.size, 0, none⟩ = some u
  rw [World.cell?_alloc_past _ _ _ (by simp), World.cell?_alloc_at _ _ _ _ rfl]; rfl
theorem two_new2 (W : World) (u v : Value) (t t' : TypeId) : (((W.alloc (.cells #[u] t)).alloc (.cells #[v] t')).drew).cell? ⟨W.heap.size + 1, 0, none⟩ = some v := by
  show ((W.alloc (.cells #[u] t)).alloc (.cells #[v] t')).cell? ⟨W.heap.size + 1, 0, none⟩ = some v
  rw [World.cell?_alloc_at _ _ _ _ (by simp)]; rfl

set_option maxHeartbeats 2000000 in
theorem parts1 (P r start rule pay : Int) (n : Nat) (P0 : 1 ≤ P) (P1 : P ≤ 10000000000000) (n0 : 1 ≤ n) (n1 : n ≤ 120) (w : World) :
    Calls Tryd.prog 20 #[termsV 1 P r n start rule] w fun e w' => ∃ fv, e = .returned fv ∧ Up w w' ∧ PartsAns 1 P n pay fv w' := by
  unfold termsV
  have d0 : 0 ≤ P / (n : Int) := Int.ediv_nonneg (by omega) (by omega)
  have d1 : P / (n : Int) ≤ 10000000000000 := Int.le_trans (Int.ediv_le_self _ (by omega)) P1
  have m0 : 0 ≤ P % (n : Int) := Int.emod_nonneg _ (by omega)
  have m1 : P % (n : Int) < (n : Int) := Int.emod_lt_of_pos _ (by omega)
  have HF : Hid (∀ (g g' : Nat) (W : World), W.cell? ⟨g, 0, none⟩ = some (.int .i64 (P % (n : Int))) → W.cell? ⟨g', 0, none⟩ = some (.int .i64 (P / (n : Int))) → PartFn 39 #[.pointer (some ⟨g, 0, none⟩), .pointer (some ⟨g', 0, none⟩)] (partI 1 P n pay) W) := by
    intro g g' W h1 h2 w' k b i U k1 b0 b1 i0 i1
    have := part1_at (P / (n : Int)) (P % (n : Int)) g g' k b i d0 d1 w' (U.cell h1) (U.cell h2)
    simpa [partI] using this
  have nn : (1 : Int) ≤ (n : Int) := by omega
  have nm : (n : Int) ≤ 120 := by omega
  generalize (n : Int) = c at *
  go_enter Tryd.func20, Tryd.ntmps20
  go_wp2_with fail
  have c1 : (w.alloc (.cells #[.int .i64 1, .int .i64 P, .int .i64 r, .int .i64 c, .int .i64 start, .int .i64 rule] 23)).cell? ⟨w.heap.size, 1, none⟩ = some (.int .i64 P) := cell_new _ _ _ 1 _ _ rfl rfl
  have c3 : (w.alloc (.cells #[.int .i64 1, .int .i64 P, .int .i64 r, .int .i64 c, .int .i64 start, .int .i64 rule] 23)).cell? ⟨w.heap.size, 3, none⟩ = some (.int .i64 c) := cell_new _ _ _ 3 _ _ rfl rfl
  have UW : Hid (Up w (w.alloc (.cells #[.int .i64 1, .int .i64 P, .int .i64 r, .int .i64 c, .int .i64 start, .int .i64 rule] 23))) := (Up.refl w).alloc _
  have hbW : w.heap.size < (w.alloc (.cells #[.int .i64 1, .int .i64 P, .int .i64 r, .int .i64 c, .int .i64 start, .int .i64 rule] 23)).heap.size := by simp
  have hc0 : ¬ c = 0 := by omega
  have tq : P.tdiv c = P / c := Int.tdiv_eq_ediv_of_nonneg (by omega)
  have tm : P.tmod c = P % c := Int.tmod_eq_emod_of_nonneg (by omega)
  generalize hbb : w.heap.size = bb at *
  generalize w.alloc (.cells #[.int .i64 1, .int .i64 P, .int .i64 r, .int .i64 c, .int .i64 start, .int .i64 rule] 23) = W at *
  clear hbb
  go_region
  all_goals
    go_wp2_with fail
    go_ret
    refine ⟨_, rfl, Below.drew ((UW.out.alloc _).alloc _), _, _, rfl, HF.out _ _ _ ?_ ?_, callFunc_enters Tryd.func39 (by decide +kernel) rfl⟩
    · first
        | exact two_new2 W _ _ _ _
        | exact two_new1 W _ _ _ _
    · first
        | exact two_new1 W _ _ _ _
        | exact two_new2 W _ _ _ _
end Go.Proofs.YtkabfdajpilomabDoor
