/-
  Ours: interest.partsOf of an equal plan.
-/
import Derived.Test.YtgdmkcbbomfmdaaGreatDoorIntValid
import Derived.Test.YtgdmkcbbomfmdaaGreatDoorIntPlanM
import Derived.RegionTactic
import Derived.BigRegion
import Derived.ChangeAlike
import Derived.Laws.NewBlocks
namespace Go.Proofs.YtgdmkcbbomfmdaaGreatDoor
open Go.RowKit IntM CalM

theorem up_boxed (P r : Int) (n m : Nat) (w : World) : Up w ((boxed P r n w).drewN m) := up_drewN (((Up.refl w).alloc _).alloc _ |>.alloc _) m

theorem callFunc_enters {P : Program} {F : FuncId} {fn : Func} (hf : P.funcs[F]? = some fn) (hn : (fn.name == "runtime.NumGoroutine") = false) (hb : fn.body.isNone = false) (args : Array Value) (w : World) :
    Sem.run P (callFunc F args) w = .ok (.enter F args) w := by
  unfold callFunc
  rw [Sem.run_bind]
  show Sem.run P (match P.funcs[F]? with
    | none => _
    | some fn => _) w = _
  rw [hf]
  show Sem.run P (if (fn.name == "runtime.NumGoroutine") = true then _ else (if fn.body.isNone = true then _ else _)) w = _
  rw [hn, if_neg (by decide), hb, if_neg (by decide)]
  rfl

/-- A function value for a month's part: in every later world it answers as f. -/
def PartFn (F : Nat) (caps : Array Value) (f : Nat → Int → Int → Int) (w : World) : Prop :=
  ∀ (w' : World) (k : Nat) (b i : Int), Up w w' → k ≤ 120 → 0 ≤ b → b ≤ 10000000000000 → 0 ≤ i → i ≤ 10000000000000 →
    Calls Tryz.prog F (#[.int .i64 (k : Int), .int .i64 b, .int .i64 i] ++ caps) w' fun e w'' => e = .returned (.int .i64 (f k b i)) ∧ w'' = w'

theorem part0_at (pay : Int) (g : Nat) (k : Nat) (b i : Int) (y0 : 0 ≤ pay) (y1 : pay ≤ 9223372036854775807) (i0 : 0 ≤ i) (i1 : i ≤ 10000000000000) (w : World) (h : w.cell? ⟨g, 0, none⟩ = some (.int .i64 pay)) :
    Calls Tryz.prog 107 #[.int .i64 (k : Int), .int .i64 b, .int .i64 i, .pointer (some ⟨g, 0, none⟩)] w fun e w' => e = .returned (.int .i64 (min (pay - i) b)) ∧ w' = w := by
  go_enter Tryz.func107, Tryz.ntmps107
  go_wp2_with fail
  go_ret
  exact ⟨ret_int (by omega), rfl⟩

theorem part1_at (sh ov : Int) (g g' : Nat) (k : Nat) (b i : Int) (s0 : 0 ≤ sh) (s1 : sh ≤ 10000000000000) (w : World) (h : w.cell? ⟨g, 0, none⟩ = some (.int .i64 ov)) (h' : w.cell? ⟨g', 0, none⟩ = some (.int .i64 sh)) :
    Calls Tryz.prog 108 #[.int .i64 (k : Int), .int .i64 b, .int .i64 i, .pointer (some ⟨g, 0, none⟩), .pointer (some ⟨g', 0, none⟩)] w fun e w' => e = .returned (.int .i64 (if (k : Int) ≤ ov then sh + 1 else sh)) ∧ w' = w := by
  by_cases hk : (k : Int) ≤ ov
  · rw [if_pos hk]
    go_enter Tryz.func108, Tryz.ntmps108
    go_wp2_with fail
    go_ret
    exact ⟨rfl, rfl⟩
  · rw [if_neg hk]
    go_enter Tryz.func108, Tryz.ntmps108
    go_wp2_with fail
    go_ret
    exact ⟨rfl, rfl⟩

theorem part2_at (n : Nat) (g : Nat) (k : Nat) (b i : Int) (w : World) (h : w.cell? ⟨g, 3, none⟩ = some (.int .i64 (n : Int))) :
    Calls Tryz.prog 109 #[.int .i64 (k : Int), .int .i64 b, .int .i64 i, .pointer (some ⟨g, 0, none⟩)] w fun e w' => e = .returned (.int .i64 (if k < n then 0 else b)) ∧ w' = w := by
  by_cases hk : k < n
  · rw [if_pos hk]
    have hk' : (k : Int) < (n : Int) := by omega
    go_enter Tryz.func109, Tryz.ntmps109
    go_wp2_with fail
    go_ret
    exact ⟨rfl, rfl⟩
  · rw [if_neg hk]
    have hk' : ¬ (k : Int) < (n : Int) := by omega
    go_enter Tryz.func109, Tryz.ntmps109
    go_wp2_with fail
    go_ret
    exact ⟨rfl, rfl⟩

/-- What partsOf answers: one of three function values. -/
def PartsAns (kind P : Int) (n : Nat) (pay : Int) (fv : Value) (w : World) : Prop :=
  ∃ F caps, fv = .func (.func F) #[] caps ∧ PartFn F caps (partI kind P n pay) w ∧ ∀ args w, Sem.run Tryz.prog (callFunc F args) w = .ok (.enter F args) w

set_option maxHeartbeats 1000000 in
theorem parts0 (P r start rule pay : Int) (n : Nat) (P0 : 1 ≤ P) (P1 : P ≤ 10000000000000) (r0 : 0 ≤ r) (r1 : r ≤ 100000) (n0 : 1 ≤ n) (n1 : n ≤ 120) (hp : Lv P r n pay) (w : World) :
    Calls Tryz.prog 81 #[termsV 0 P r n start rule] w fun e w' => ∃ fv, e = .returned fv ∧ Up w w' ∧ PartsAns 0 P n pay fv w' := by
  unfold termsV
  have LV : Hid (∀ w, Calls Tryz.prog 106 #[.int .i64 P, .int .i64 r, .int .i64 (n : Int)] w fun e w' => e = .returned (.tuple #[.int .i64 pay, .bool true]) ∧ Up w w') := fun w => (level_at P r pay n P0 (by omega) r0 r1 n0 n1 hp w).mono fun e w' ⟨he, m, hw⟩ => ⟨he, by rw [hw]; exact up_boxed _ _ _ _ _⟩
  have HP : Hid (1 ≤ pay ∧ pay ≤ 9223372036854775807) := ⟨hp.1, hp.2.1⟩
  clear hp
  go_enter Tryz.func81, Tryz.ntmps81
  go_wp2_with fail
  refine (LV.out _).mono ?_
  rintro e w1 ⟨rfl, U1⟩
  go_wp2_with fail
  go_ret
  refine ⟨_, rfl, (((Up.refl w).alloc _).trans U1).alloc _, _, _, rfl, ?_, callFunc_enters Tryz.func107 (by decide +kernel) rfl⟩
  intro w' k b i U k1 b0 b1 i0 i1
  have c : w'.cell? ⟨w1.heap.size, 0, none⟩ = some (.int .i64 pay) := cell_in U 0 _ rfl
  have := part0_at pay w1.heap.size k b i (by have := HP.out; omega) (HP.out.2) i0 i1 w' c
  simpa [partI] using this

set_option maxHeartbeats 1000000 in
theorem parts2 (P r start rule pay : Int) (n : Nat) (w : World) :
    Calls Tryz.prog 81 #[termsV 2 P r n start rule] w fun e w' => ∃ fv, e = .returned fv ∧ Up w w' ∧ PartsAns 2 P n pay fv w' := by
  unfold termsV
  go_enter Tryz.func81, Tryz.ntmps81
  go_wp2_with fail
  go_ret
  refine ⟨_, rfl, (Up.refl w).alloc _, _, _, rfl, ?_, callFunc_enters Tryz.func109 (by decide +kernel) rfl⟩
  intro w' k b i U k1 b0 b1 i0 i1
  have c : w'.cell? ⟨w.heap.size, 3, none⟩ = some (.int .i64 (n : Int)) := cell_in U 3 _ rfl
  have := part2_at n w.heap.size k b i w' c
  simpa [partI] using this
end Go.Proofs.YtgdmkcbbomfmdaaGreatDoor

namespace Go.Proofs.YtgdmkcbbomfmdaaGreatDoor
open Go.RowKit IntM CalM

theorem two_new1 (W : World) (u v : Value) (t t' : TypeId) : (((W.alloc (.cells #[u] t)).alloc (.cells #[v] t')).drew).cell? ⟨W.heap.size, 0, none⟩ = some u := by
  show ((W.alloc (.cells #[u] t)).alloc (.cells #[v] t')).cell? ⟨W.heap.size, 0, none⟩ = some u
  rw [World.cell?_alloc_past _ _ _ (by simp), World.cell?_alloc_at _ _ _ _ rfl]; rfl
theorem two_new2 (W : World) (u v : Value) (t t' : TypeId) : (((W.alloc (.cells #[u] t)).alloc (.cells #[v] t')).drew).cell? ⟨W.heap.size + 1, 0, none⟩ = some v := by
  show ((W.alloc (.cells #[u] t)).alloc (.cells #[v] t')).cell? ⟨W.heap.size + 1, 0, none⟩ = some v
  rw [World.cell?_alloc_at _ _ _ _ (by simp)]; rfl

set_option maxHeartbeats 2000000 in
theorem parts1 (P r start rule pay : Int) (n : Nat) (P0 : 1 ≤ P) (P1 : P ≤ 10000000000000) (n0 : 1 ≤ n) (n1 : n ≤ 120) (w : World) :
    Calls Tryz.prog 81 #[termsV 1 P r n start rule] w fun e w' => ∃ fv, e = .returned fv ∧ Up w w' ∧ PartsAns 1 P n pay fv w' := by
  unfold termsV
  have d0 : 0 ≤ P / (n : Int) := Int.ediv_nonneg (by omega) (by omega)
  have d1 : P / (n : Int) ≤ 10000000000000 := Int.le_trans (Int.ediv_le_self _ (by omega)) P1
  have m0 : 0 ≤ P % (n : Int) := Int.emod_nonneg _ (by omega)
  have m1 : P % (n : Int) < (n : Int) := Int.emod_lt_of_pos _ (by omega)
  have HF : Hid (∀ (g g' : Nat) (W : World), W.cell? ⟨g, 0, none⟩ = some (.int .i64 (P % (n : Int))) → W.cell? ⟨g', 0, none⟩ = some (.int .i64 (P / (n : Int))) → PartFn 108 #[.pointer (some ⟨g, 0, none⟩), .pointer (some ⟨g', 0, none⟩)] (partI 1 P n pay) W) := by
    intro g g' W h1 h2 w' k b i U k1 b0 b1 i0 i1
    have := part1_at (P / (n : Int)) (P % (n : Int)) g g' k b i d0 d1 w' (U.cell h1) (U.cell h2)
    simpa [partI] using this
  have nn : (1 : Int) ≤ (n : Int) := by omega
  have nm : (n : Int) ≤ 120 := by omega
  generalize (n : Int) = c at *
  go_enter Tryz.func81, Tryz.ntmps81
  go_wp2_with fail
  have c1 : (w.alloc (.cells #[.int .i64 1, .int .i64 P, .int .i64 r, .int .i64 c, .int .i64 start, .int .i64 rule] 26)).cell? ⟨w.heap.size, 1, none⟩ = some (.int .i64 P) := cell_new _ _ _ 1 _ _ rfl rfl
  have c3 : (w.alloc (.cells #[.int .i64 1, .int .i64 P, .int .i64 r, .int .i64 c, .int .i64 start, .int .i64 rule] 26)).cell? ⟨w.heap.size, 3, none⟩ = some (.int .i64 c) := cell_new _ _ _ 3 _ _ rfl rfl
  have UW : Hid (Up w (w.alloc (.cells #[.int .i64 1, .int .i64 P, .int .i64 r, .int .i64 c, .int .i64 start, .int .i64 rule] 26))) := (Up.refl w).alloc _
  have hbW : w.heap.size < (w.alloc (.cells #[.int .i64 1, .int .i64 P, .int .i64 r, .int .i64 c, .int .i64 start, .int .i64 rule] 26)).heap.size := by simp
  have hc0 : ¬ c = 0 := by omega
  have tq : P.tdiv c = P / c := Int.tdiv_eq_ediv_of_nonneg (by omega)
  have tm : P.tmod c = P % c := Int.tmod_eq_emod_of_nonneg (by omega)
  generalize hbb : w.heap.size = bb at *
  generalize w.alloc (.cells #[.int .i64 1, .int .i64 P, .int .i64 r, .int .i64 c, .int .i64 start, .int .i64 rule] 26) = W at *
  clear hbb
  go_region
  all_goals
    go_wp2_with fail
    go_ret
    refine ⟨_, rfl, Below.drew ((UW.out.alloc _).alloc _), _, _, rfl, HF.out _ _ _ ?_ ?_, callFunc_enters Tryz.func108 (by decide +kernel) rfl⟩
    · first
        | exact two_new2 W _ _ _ _
        | exact two_new1 W _ _ _ _
    · first
        | exact two_new1 W _ _ _ _
        | exact two_new2 W _ _ _ _
end Go.Proofs.YtgdmkcbbomfmdaaGreatDoor
