/-
  Ours: the reference's disk: its small functions.
-/
import Derived.Test.YtiefnomldfhhnaaDskRf1
import Derived.Laws.ResultCell
namespace Go.Proofs.Ytiefnomldfhhnaa
open Go.RowKit

theorem bodyPost_cell_tmp {P : Program} {fn : Func} {R : Ending → World → Prop} {a : Act} {w : World} {p u : Tmp} {ty : TypeId} (h : fn.results = #[.cell p ty, .tmp u]) (hdf : a.defers = [])
    (g : Nat) (t : TypeId) (cs : Array Value) (fr : Nat × Nat) (d : TypeDesc) (hp : a.tmps.getD p undef = .pointer (some ⟨g, 0, none⟩)) (hg : w.heap[g]? = some (.cells cs t fr))
    (hu : P.underlying ty = some d) (hd : (match d with | .struct _ | .array _ _ => true | _ => false) = true) (hi : (P.info? ty).map (·.size) = some cs.size)
    (hR : R (.returned (.tuple #[.agg cs, a.tmps.getD u undef])) w) : bodyPost P fn R .ret a w := by
  refine bodyPost_ret_by ?_ hdf hR
  rw [results_cell_tmp h]
  have hp' : a.tmps[p]?.getD undef = .pointer (some ⟨g, 0, none⟩) := by simpa using hp
  simp [hp', asAddr, Result.andThen, run_loadVar_row w g t ty cs fr d hg hu hd hi]

/-- A slice's three words. -/
structure Sl where
  a : Option Addr
  n : Nat
  c : Nat
abbrev Sl.v (s : Sl) : Value := .slice s.a s.n s.c
abbrev Sl.z : Sl := ⟨none, 0, 0⟩
abbrev RV (x0 x1 p0 p1 xa : Sl) (cn : Int) (dn : Bool) (wr : Int) : List Value := [.slice x0.a x0.n x0.c, .slice x1.a x1.n x1.c, .slice p0.a p0.n p0.c, .slice p1.a p1.n p1.c, .slice xa.a xa.n xa.c, .int .i64 cn, .bool dn, .int .i64 wr]
abbrev RZ : List Value := [.slice none 0 0, .slice none 0 0, .slice none 0 0, .slice none 0 0, .slice none 0 0, .int .i64 0, .bool false, .int .i64 0]

set_option maxRecDepth 20000 in
set_option maxHeartbeats 1000000 in
theorem rrefused_at (x0 x1 p0 p1 xa : Sl) (cn : Int) (dn : Bool) (wr : Int) (n : Int) (w : World) :
    Calls Try.prog 45 #[.agg (RV x0 x1 p0 p1 xa cn dn wr).toArray, .int .i64 n] w fun e w' => e = .returned (.int .i64 (if n = 0 ∨ n = 1 then (if dn then 51 else 0) else 50)) ∧ Below w.heap.size w w' := by
  have BA : Hid (Below w.heap.size w (w.alloc (.cells (RV x0 x1 p0 p1 xa cn dn wr).toArray 34))) := below_alloc w _
  by_cases h0 : n = 0
  · subst h0
    cases dn
    all_goals
      go_enter Try.func45, Try.ntmps45
      go_wp2_with fail
      go_ret
      exact ⟨rfl, BA.out⟩
  · by_cases h1 : n = 1
    · subst h1
      cases dn
      all_goals
        go_enter Try.func45, Try.ntmps45
        go_wp2_with fail
        go_ret
        exact ⟨rfl, BA.out⟩
    · have g0 : (n != 0) = true := bne_iff_ne.2 h0
      have g1 : (n != 1) = true := bne_iff_ne.2 h1
      rw [if_neg (by omega)]
      clear h0 h1
      go_enter Try.func45, Try.ntmps45
      go_wp2_with fail
      go_ret
      exact ⟨rfl, BA.out⟩

set_option maxRecDepth 20000 in
set_option maxHeartbeats 1000000 in
theorem rdurable_at (x0 x1 p0 p1 xa : Sl) (cn : Int) (dn : Bool) (wr : Int) (n : Int) (w : World) :
    Calls Try.prog 47 #[.agg (RV x0 x1 p0 p1 xa cn dn wr).toArray, .int .i64 n] w fun e w' => e = .returned (if n = 0 then x0 else x1).v ∧ Below w.heap.size w w' := by
  have BA : Hid (Below w.heap.size w (w.alloc (.cells (RV x0 x1 p0 p1 xa cn dn wr).toArray 34))) := below_alloc w _
  by_cases h0 : n = 0
  · subst h0
    rw [if_pos rfl]
    go_enter Try.func47, Try.ntmps47
    go_wp2_with fail
    go_ret
    exact ⟨rfl, BA.out⟩
  · rw [if_neg h0]
    have g0 : (n == 0) = false := beq_eq_false_iff_ne.2 h0
    clear h0
    go_enter Try.func47, Try.ntmps47
    go_wp2_with fail
    go_ret
    exact ⟨rfl, BA.out⟩

set_option maxRecDepth 20000 in
set_option maxHeartbeats 1000000 in
theorem rpending_at (x0 x1 p0 p1 xa : Sl) (cn : Int) (dn : Bool) (wr : Int) (n : Int) (w : World) :
    Calls Try.prog 48 #[.agg (RV x0 x1 p0 p1 xa cn dn wr).toArray, .int .i64 n] w fun e w' => e = .returned (if n = 0 then p0 else p1).v ∧ Below w.heap.size w w' := by
  have BA : Hid (Below w.heap.size w (w.alloc (.cells (RV x0 x1 p0 p1 xa cn dn wr).toArray 34))) := below_alloc w _
  by_cases h0 : n = 0
  · subst h0
    rw [if_pos rfl]
    go_enter Try.func48, Try.ntmps48
    go_wp2_with fail
    go_ret
    exact ⟨rfl, BA.out⟩
  · rw [if_neg h0]
    have g0 : (n == 0) = false := beq_eq_false_iff_ne.2 h0
    clear h0
    go_enter Try.func48, Try.ntmps48
    go_wp2_with fail
    go_ret
    exact ⟨rfl, BA.out⟩

theorem blk2 (w : World) (c1 c2 : List Value) (t1 t2 : TypeId) : Blk (w.heap.size + 1) t2 c2 ((w.alloc (.cells c1.toArray t1)).alloc (.cells c2.toArray t2)) := by
  have := Blk.new t2 c2 (w.alloc (.cells c1.toArray t1))
  rw [show (w.alloc (.cells c1.toArray t1)).heap.size = w.heap.size + 1 by simp] at this
  exact this
theorem blk1 (w : World) (c1 c2 : List Value) (t1 t2 : TypeId) : Blk w.heap.size t1 c1 ((w.alloc (.cells c1.toArray t1)).alloc (.cells c2.toArray t2)) := (Blk.new t1 c1 w).below (below_alloc _ _)
theorem below2 (w : World) (c1 c2 : List Value) (t1 t2 : TypeId) : Below w.heap.size w ((w.alloc (.cells c1.toArray t1)).alloc (.cells c2.toArray t2)) := below_trans (below_alloc _ _) (below_alloc _ _)

set_option maxRecDepth 20000 in
set_option maxHeartbeats 1000000 in
theorem rwith_at (x0 x1 p0 p1 xa : Sl) (cn : Int) (dn : Bool) (wr : Int) (n : Int) (s o : Sl) (w : World) :
    Calls Try.prog 49 #[.agg (RV x0 x1 p0 p1 xa cn dn wr).toArray, .int .i64 n, .slice s.a s.n s.c, .slice o.a o.n o.c] w fun e w' => e = .returned (.agg (RV (if n = 0 then s else x0) (if n = 0 then x1 else s) (if n = 0 then o else p0) (if n = 0 then p1 else o) xa cn dn wr).toArray) ∧ Below w.heap.size w w' := by
  by_cases h0 : n = 0
  · subst h0
    simp only [if_true]
    go_enter Try.func49, Try.ntmps49
    go_wp2_with fail
    exact bodyPost_cell rfl rfl (w.heap.size + 1) _ _ _ _ rfl (blk2 w (RV s x1 o p1 xa cn dn wr) (RV s x1 o p1 xa cn dn wr) _ _) Try.underlying34 rfl (by kernel_rfl) ⟨rfl, below2 w (RV s x1 o p1 xa cn dn wr) (RV s x1 o p1 xa cn dn wr) _ _⟩
  · simp only [if_neg h0]
    have g0 : (n == 0) = false := beq_eq_false_iff_ne.2 h0
    clear h0
    go_enter Try.func49, Try.ntmps49
    go_wp2_with fail
    exact bodyPost_cell rfl rfl (w.heap.size + 1) _ _ _ _ rfl (blk2 w (RV x0 s p0 o xa cn dn wr) (RV x0 s p0 o xa cn dn wr) _ _) Try.underlying34 rfl (by kernel_rfl) ⟨rfl, below2 w (RV x0 s p0 o xa cn dn wr) (RV x0 s p0 o xa cn dn wr) _ _⟩

set_option maxRecDepth 20000 in
set_option maxHeartbeats 1000000 in
theorem rdisarm_at (x0 x1 p0 p1 xa : Sl) (cn : Int) (dn : Bool) (wr : Int) (w : World) :
    Calls Try.prog 35 #[.agg (RV x0 x1 p0 p1 xa cn dn wr).toArray] w fun e w' => e = .returned (.agg (RV x0 x1 p0 p1 Sl.z 0 dn wr).toArray) ∧ Below w.heap.size w w' := by
  go_enter Try.func35, Try.ntmps35
  go_wp2_with fail
  exact bodyPost_cell rfl rfl (w.heap.size + 1) _ _ _ _ rfl (blk2 w (RV x0 x1 p0 p1 Sl.z 0 dn wr) (RV x0 x1 p0 p1 Sl.z 0 dn wr) _ _) Try.underlying34 rfl (by kernel_rfl) ⟨rfl, below2 w (RV x0 x1 p0 p1 Sl.z 0 dn wr) (RV x0 x1 p0 p1 Sl.z 0 dn wr) _ _⟩

set_option maxRecDepth 20000 in
set_option maxHeartbeats 1000000 in
theorem rrestart_at (x0 x1 p0 p1 xa : Sl) (cn : Int) (dn : Bool) (wr : Int) (w : World) :
    Calls Try.prog 37 #[.agg (RV x0 x1 p0 p1 xa cn dn wr).toArray] w fun e w' => e = .returned (.tuple #[.agg (RV x0 x1 p0 p1 xa cn false wr).toArray, .int .i64 (if dn then 0 else 53)]) ∧ Below w.heap.size w w' := by
  cases dn
  all_goals
    go_enter Try.func37, Try.ntmps37
    go_wp2_with fail
    exact bodyPost_cell_tmp rfl rfl (w.heap.size + 1) _ _ _ _ rfl (blk2 w (RV x0 x1 p0 p1 xa cn false wr) (RV x0 x1 p0 p1 xa cn false wr) _ _) Try.underlying34 rfl (by kernel_rfl) ⟨rfl, below2 w (RV x0 x1 p0 p1 xa cn false wr) (RV x0 x1 p0 p1 xa cn false wr) _ _⟩

set_option maxRecDepth 20000 in
set_option maxHeartbeats 1000000 in
theorem rcounted_nil (x0 x1 p0 p1 xa : Sl) (cn : Int) (dn : Bool) (wr : Int) (w : World) (hn : xa.n = 0) (hw : 0 ≤ wr ∧ wr < 4611686018427387904) :
    Calls Try.prog 50 #[.agg (RV x0 x1 p0 p1 xa cn dn wr).toArray] w fun e w' => e = .returned (.tuple #[.agg (RV x0 x1 p0 p1 xa cn dn (wr + 1)).toArray, .bool false]) ∧ Below w.heap.size w w' := by
  obtain ⟨aa, an, ac⟩ := xa
  simp only at hn
  subst hn
  go_enter Try.func50, Try.ntmps50
  go_wp2_with fail
  exact bodyPost_cell_tmp rfl rfl (w.heap.size + 1) _ _ _ _ rfl (blk2 w (RV x0 x1 p0 p1 ⟨aa, 0, ac⟩ cn dn (wr + 1)) (RV x0 x1 p0 p1 ⟨aa, 0, ac⟩ cn dn (wr + 1)) _ _) Try.underlying34 rfl (by kernel_rfl) ⟨rfl, below2 w (RV x0 x1 p0 p1 ⟨aa, 0, ac⟩ cn dn (wr + 1)) (RV x0 x1 p0 p1 ⟨aa, 0, ac⟩ cn dn (wr + 1)) _ _⟩

set_option maxRecDepth 20000 in
set_option maxHeartbeats 1000000 in
theorem rcounted_cons (x0 x1 p0 p1 : Sl) (g n c : Nat) (cn : Int) (dn : Bool) (wr A : Int) (w : World) (hn : 0 < n) (hn2 : n ≤ 64) (hg : w.cell? ⟨g, 0, none⟩ = some (.int .i64 A)) (hw : 0 ≤ wr ∧ wr < 4611686018427387904) (hc : 0 ≤ cn ∧ cn < 1000000000) :
    Calls Try.prog 50 #[.agg (RV x0 x1 p0 p1 ⟨some ⟨g, 0, none⟩, n, c⟩ cn dn wr).toArray] w fun e w' => e = .returned (.tuple #[.agg (RV x0 x1 p0 p1 ⟨some ⟨g, 0, none⟩, n, c⟩ (cn + 1) dn (wr + 1)).toArray, .bool (cn + 1 == A)]) ∧ Below w.heap.size w w' := by
  have lt : g < w.heap.size := World.block_lt_of_cell? w _ hg
  have HC : ∀ (c1 c2 : Obj), ((w.alloc c1).alloc c2).cell? ⟨g, 0, none⟩ = some (.int .i64 A) := fun c1 c2 => by
    rw [(below_trans (below_alloc w c1) (below_alloc _ c2)).cell (p := ⟨g, 0, none⟩) lt]; exact hg
  have nz : ((n : Int) == 0) = false := beq_eq_false_iff_ne.2 (by omega)
  clear hg lt
  go_enter Try.func50, Try.ntmps50
  go_upto_region 5 with fail
  go_region
  all_goals
    go_wp2_with fail
    exact bodyPost_cell_tmp rfl rfl (w.heap.size + 1) _ _ _ _ rfl (blk2 w (RV x0 x1 p0 p1 ⟨some ⟨g, 0, none⟩, n, c⟩ (cn + 1) dn (wr + 1)) (RV x0 x1 p0 p1 ⟨some ⟨g, 0, none⟩, n, c⟩ (cn + 1) dn (wr + 1)) _ _) Try.underlying34 rfl (by kernel_rfl) ⟨rfl, below_drewN (below2 w (RV x0 x1 p0 p1 ⟨some ⟨g, 0, none⟩, n, c⟩ (cn + 1) dn (wr + 1)) (RV x0 x1 p0 p1 ⟨some ⟨g, 0, none⟩, n, c⟩ (cn + 1) dn (wr + 1)) _ _) 1⟩
end Go.Proofs.Ytiefnomldfhhnaa
