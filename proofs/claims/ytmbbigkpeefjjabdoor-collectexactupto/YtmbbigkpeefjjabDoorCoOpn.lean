/-
  Ours: the statements' opens (gen_coopn.py: THE SEAT's OWN NUMBERS).
-/
import Derived.Test.YtmbbigkpeefjjabDoorCoLs
import Derived.Laws.StructEq
import Derived.Deep.RegionHeld3
import Derived.Deep.RegionHeld
namespace Go.Proofs.YtmbbigkpeefjjabDoor
open Go.RowKit LedM PolM CoM
set_option maxRecDepth 20000 in
theorem cs_same (c : Cs) (w : World) : (Op.equalIn 10000 27 (.agg (csL c).toArray) (.agg (csL c).toArray)).run Tryd.prog w = .ok true w := by
  have u3 := Tryd.underlying3
  have u2 := Tryd.underlying2
  have u4 := Tryd.underlying4
  have a3 : ∀ w, (isAgg 3).run Tryd.prog w = .ok false w := fun w => by unfold isAgg; rw [Sem.run_bind, run_underlying u3 w]; rfl
  have a2 : ∀ w, (isAgg 2).run Tryd.prog w = .ok false w := fun w => by unfold isAgg; rw [Sem.run_bind, run_underlying u2 w]; rfl
  have a4 : ∀ w, (isAgg 4).run Tryd.prog w = .ok false w := fun w => by unfold isAgg; rw [Sem.run_bind, run_underlying u4 w]; rfl
  have z3 : (Tryd.prog.info? 3).map (·.size) = some 1 := by kernel_rfl
  have z2 : (Tryd.prog.info? 2).map (·.size) = some 1 := by kernel_rfl
  have z4 : (Tryd.prog.info? 4).map (·.size) = some 1 := by kernel_rfl
  have s3 : ∀ w, (sizeOf 3).run Tryd.prog w = .ok 1 w := fun w => by
    cases hq : Tryd.prog.info? 3 with
    | none => simp [hq] at z3
    | some i => have : i.size = 1 := by simpa [hq] using z3
                simp [sizeOf, typeInfo, hq, this]
  have s2 : ∀ w, (sizeOf 2).run Tryd.prog w = .ok 1 w := fun w => by
    cases hq : Tryd.prog.info? 2 with
    | none => simp [hq] at z2
    | some i => have : i.size = 1 := by simpa [hq] using z2
                simp [sizeOf, typeInfo, hq, this]
  have s4 : ∀ w, (sizeOf 4).run Tryd.prog w = .ok 1 w := fun w => by
    cases hq : Tryd.prog.info? 4 with
    | none => simp [hq] at z4
    | some i => have : i.size = 1 := by simpa [hq] using z4
                simp [sizeOf, typeInfo, hq, this]
  have hS : Tryd.prog.underlying 27 = some (.struct (Tryd.prog.fieldsOf 27)) := by kernel_rfl
  have hp : Tryd.prog.stoodInHeld 27 = false := by kernel_rfl
  simp only [csL]
  rw [show (10000 : Nat) = 9999 + 1 from rfl, run_equalIn_agg w 9999 27 _ _ hS hp]
  simp only [Program.fieldsOf, Tryd.underlying27]
  go_simp
theorem cs_neq (c : Cs) (w : World) : (binOp .neq 27 (.agg (csL c).toArray) (.agg (csL c).toArray)).run Tryd.prog w = .ok (.bool false) w := by
  rw [run_neq_struct, cs_same]; rfl
theorem cs_eql (c : Cs) (w : World) : (binOp .eql 27 (.agg (csL c).toArray) (.agg (csL c).toArray)).run Tryd.prog w = .ok (.bool true) w := by
  rw [run_eql_struct, cs_same]; rfl
end Go.Proofs.YtmbbigkpeefjjabDoor

namespace Go.Proofs.YtmbbigkpeefjjabDoor
open Go.RowKit LedM PolM CoM

theorem wrapC (x : Int) : IntKind.i64.wrap x = wrap64 x := by rw [IntKind.wrap_i64, wrap64]
namespace CoM
theorem open_step {l hs : List Int} (hg : good l hs = true) : ∃ c' r, stepA l hs fresh ⟨1, 5, wrap64 (l.getD 1 0 + 1), 0⟩ = (0, (c', 2 :: r)) ∧ c'.cy = 1 ∧ c'.si = 5 ∧ c'.dl = wrap64 (5 + l.getD 3 0) ∧ opn c' = true ∧ (r = [] ∨ r = [3]) := by
  have P := pol_of hg
  obtain ⟨b1, b2, b3, -, -, -, -, -⟩ := P
  simp only [pn] at b1 b2 b3
  have hw : wrap64 (l.getD 1 0 + 1) = l.getD 1 0 + 1 := wr (by omega) (by omega)
  have hdl : wrap64 (5 + l.getD 3 0) = 5 + l.getD 3 0 := wr (by omega) (by omega)
  have hy : wrap64 (0 + 1) = 1 := by simp [wrap64]
  have E1 : age1 ⟨1, 5, l.getD 1 0 + 1, 0⟩ (fresh, []) = (fresh, []) := if_neg (by simp [fresh])
  have E3 : age3 (l.getD 1 0) (l.getD 3 0) ⟨1, 5, l.getD 1 0 + 1, 0⟩ (fresh, []) = (opC (l.getD 3 0) 5 fresh, [2]) := by
    unfold age3 lok; rw [if_neg (by simp [opn, fresh])]; dsimp only; rw [if_pos (by omega)]; rfl
  have hO : opn (opC (l.getD 3 0) 5 fresh) = true := by simp [opn, opC]
  have EM : ageM l ⟨1, 5, l.getD 1 0 + 1, 0⟩ (fresh, []) = age5 ⟨1, 5, l.getD 1 0 + 1, 0⟩ (age4 (l.getD 2 0) ⟨1, 5, l.getD 1 0 + 1, 0⟩ (opC (l.getD 3 0) 5 fresh, [2])) := by
    unfold ageM; rw [E1, if_neg (by simp [opn, fresh]), E3]
  have ES : stepA l hs fresh ⟨1, 5, wrap64 (l.getD 1 0 + 1), 0⟩ = (0, ageM l ⟨1, 5, l.getD 1 0 + 1, 0⟩ (fresh, [])) := by
    rw [hw]
    have : stepM l hs fresh ⟨1, 5, l.getD 1 0 + 1, 0⟩ = (0, ageM l ⟨1, 5, l.getD 1 0 + 1, 0⟩ (fresh, [])) := by
      unfold stepM ruleR ageR; rw [hg, if_pos rfl, if_pos rfl]; dsimp only; rw [if_neg (fun x => by rcases x with x | x; (simp [isD] at x); omega), if_neg (by simp [ovr, fresh])]
    unfold stepA; rw [this]; rfl
  rw [ES, EM]
  by_cases h4 : l.getD 2 0 ≤ l.getD 1 0 + 1
  · have E4 : age4 (l.getD 2 0) ⟨1, 5, l.getD 1 0 + 1, 0⟩ (opC (l.getD 3 0) 5 fresh, [2]) = (susp (opC (l.getD 3 0) 5 fresh), [2, 3]) := if_pos ⟨hO, rfl, h4⟩
    have E5 : age5 ⟨1, 5, l.getD 1 0 + 1, 0⟩ (susp (opC (l.getD 3 0) 5 fresh), [2, 3]) = (susp (opC (l.getD 3 0) 5 fresh), [2, 3]) := if_neg (fun x => by
      have x2 : wrap64 (5 + l.getD 3 0) ≤ 5 := x.2
      rw [hdl] at x2; omega)
    rw [E4, E5]
    exact ⟨_, _, rfl, hy, rfl, rfl, by simp [opn, susp, opC], .inr rfl⟩
  · have E4 : age4 (l.getD 2 0) ⟨1, 5, l.getD 1 0 + 1, 0⟩ (opC (l.getD 3 0) 5 fresh, [2]) = (opC (l.getD 3 0) 5 fresh, [2]) := if_neg (fun x => h4 x.2.2)
    have E5 : age5 ⟨1, 5, l.getD 1 0 + 1, 0⟩ (opC (l.getD 3 0) 5 fresh, [2]) = (opC (l.getD 3 0) 5 fresh, [2]) := if_neg (fun x => by
      have x2 : wrap64 (5 + l.getD 3 0) ≤ 5 := x.2
      rw [hdl] at x2; omega)
    rw [E4, E5]
    exact ⟨_, _, rfl, hy, rfl, rfl, hO, .inl rfl⟩
end CoM
/-- A policy's box, and all that was there. -/
structure PS (w : World) (l : List Int) (s : Value) (w' : World) : Prop where
  p : Blk w.heap.size 24 (polL l s) w'
  bb : Below w.heap.size w w'
theorem PS.later {w w1 w2 : World} {l : List Int} {s : Value} (h : PS w l s w1) (hb : Below w1.heap.size w1 w2) : PS w l s w2 := ⟨h.p.below hb, below_trans h.bb hb⟩
theorem PS.drew {w w1 : World} {l : List Int} {s : Value} (h : PS w l s w1) : PS w l s w1.drew := ⟨h.p, Below.drew h.bb⟩
theorem PS.grown {w w1 w2 : World} {l : List Int} {s : Value} {G : Nat} (h : PS w l s w1) (g : w1.grownBy w2 (some G)) (hG : w.heap.size < G) : PS w l s w2 := ⟨h.p.grown g (fun e => by injection e with e; omega), below_row h.bb g (by omega)⟩
/-- Behind a step whose case lies in a new block. -/
structure PA (w : World) (l : List Int) (s : Value) (G : Nat) (a : An) (v : Value) (w' : World) : Prop where
  ps : PS w l s w'
  d : Blk G 27 (csL a.2.1) w'
  lt : w.heap.size < G
  r : RowV 3 w.heap.size w' v (bkL a.2.2)
theorem slice_some {e : TypeId} {base n cap : Nat} {w : World} {ao : Option Addr} {vs : List Value} (h : RowV e base w (.slice ao n cap) vs) (h0 : 0 < vs.length) : ∃ g, ao = some ⟨g, 0, none⟩ ∧ n = vs.length ∧ base ≤ g ∧ ∀ k u, vs[k]? = some u → w.cell? ⟨g, k, none⟩ = some u := by
  have hc := fun g hg => World.ownsRow.cells h (g := g) hg
  rcases h.2 with ⟨_, hn⟩ | ⟨g, cap', cur, hv, hb, _⟩
  · omega
  · injection hv with h1 h2 h3
    subst h1
    refine ⟨g, rfl, h2, hb, fun k u hu => ?_⟩
    have := hc g rfl k u hu
    have hadd : (⟨g, 0, none⟩ : Addr).add k = ⟨g, k, none⟩ := by unfold Addr.add; split <;> simp_all
    rw [hadd] at this; exact this

end Go.Proofs.YtmbbigkpeefjjabDoor
