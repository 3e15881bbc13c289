/-
  Ours: what is posted leaves the nets' sum: pure; lists of postings.
-/
import Derived.Test.YtkmmpffkmoaceabDoorLedPure
import Derived.Test.YtkmmpffkmoaceabDoorLedRev
import Derived.Test.YtkmmpffkmoaceabDoorLedTrialM
namespace Go.Proofs.YtkmmpffkmoaceabDoor
open Go.RowKit LedM

namespace LedM
theorem total_ifs (d a : Int) : ∀ n : Nat, total ((List.range n).map fun j : Nat => if d = (j : Int) then a else 0) = if 0 ≤ d ∧ d < (n : Int) then a else 0
  | 0 => by
    rw [if_neg (by omega)]; rfl
  | n + 1 => by
    rw [List.range_succ, List.map_append, total_append, total_ifs d a n]
    simp only [List.map_cons, List.map_nil, total]
    by_cases h : d = (n : Int)
    · rw [if_pos h, if_neg (by omega), if_pos (by omega)]; omega
    · rw [if_neg h]
      by_cases h2 : 0 ≤ d ∧ d < (n : Int)
      · rw [if_pos h2, if_pos (by omega)]; omega
      · rw [if_neg h2, if_neg (by omega)]; omega
theorem total_add {α : Type} (f g : α → Int) : ∀ xs : List α, total (xs.map fun x => f x + g x) = total (xs.map f) + total (xs.map g)
  | [] => rfl
  | x :: r => by simp only [List.map_cons, total, total_add f g r]; omega
theorem total_sub {α : Type} (f g : α → Int) : ∀ xs : List α, total (xs.map fun x => f x - g x) = total (xs.map f) - total (xs.map g)
  | [] => rfl
  | x :: r => by simp only [List.map_cons, total, total_sub f g r]; omega
theorem total_mv1 {e : Ent} (h : entE e = 0) : total ((List.range 12).map fun j : Nat => mv1 e (j : Int)) = 0 := by
  obtain ⟨a1, a2, _, _⟩ := entE_zero h
  have b1 : 0 ≤ e.d ∧ e.d < 12 := by simpa [isA] using a1
  have b2 : 0 ≤ e.c ∧ e.c < 12 := by simpa [isA] using a2
  have := total_sub (fun j : Nat => if e.d = (j : Int) then e.a else 0) (fun j : Nat => if e.c = (j : Int) then e.a else 0) (List.range 12)
  rw [total_ifs, total_ifs, if_pos (by omega), if_pos (by omega)] at this
  unfold mv1
  rw [this]; omega
theorem total_mv : ∀ {es : List Ent}, (∀ e ∈ es, entE e = 0) → total ((List.range 12).map fun j : Nat => mv es (j : Int)) = 0
  | [], _ => by
    have : (fun j : Nat => mv [] (j : Int)) = fun _ => 0 := rfl
    rw [this]; rfl
  | e :: r, h => by
    have := total_add (fun j : Nat => mv1 e (j : Int)) (fun j : Nat => mv r (j : Int)) (List.range 12)
    rw [total_mv1 (h e (by simp)), total_mv (fun x hx => h x (by simp [hx]))] at this
    exact this
theorem list12 {l : List Int} (h : l.length = 12) : (List.range 12).map (fun j => l.getD j 0) = l := ext12 (by simp) h (fun j hj => by simp [List.getD_eq_getElem?_getD, hj])
theorem total_moved {l : List Int} {es : List Ent} (hl : l.length = 12) (h : ∀ e ∈ es, entE e = 0) : total (moved l es) = total l := by
  have := total_add (fun j : Nat => l.getD j 0) (fun j : Nat => mv es (j : Int)) (List.range 12)
  rw [total_mv h, list12 hl] at this
  unfold moved
  rw [this]; omega
theorem total_post {l : List Int} {es : List Ent} (hl : l.length = 12) : total (postB l es) = total l := by
  by_cases h : postE l es = 0
  · rw [postB_zero h]; exact total_moved hl (fault_zero (postE_zero.1 h).1)
  · unfold postB; rw [if_neg h]
theorem sides_post {l : List Int} {es : List Ent} (h : sidesB l = true) : sidesB (postB l es) = true := by
  by_cases hz : postE l es = 0
  · rw [postB_zero hz]; exact (postE_zero.1 hz).2.2.2
  · unfold postB; rw [if_neg hz]; exact h
theorem total_ups : ∀ l : List Int, total (ups l) + total (dns l) = total l
  | [] => rfl
  | x :: r => by
    have := total_ups r
    by_cases h : 0 < x
    · simp only [ups, dns, List.filter_cons, h, decide_true, Bool.not_true, if_true, total] at *
      simp only [Bool.false_eq_true, if_false]
      omega
    · simp only [ups, dns, List.filter_cons, h, decide_false, Bool.not_false, if_true, total] at *
      simp only [Bool.false_eq_true, if_false]
      omega
theorem tr_even {l : List Int} (h : total l = 0) : trD l = trC l := by
  have := total_ups l
  unfold trD trC; omega
end LedM

/-- The slice value v reads as these lists of entries. -/
def RdLL (w : World) (v : Value) (ess : List (List Ent)) : Prop :=
  ∃ ao cap, v = .slice ao ess.length cap ∧ ∀ i, i < ess.length → ∃ g o a c, ao = some ⟨g, o, none⟩ ∧ g < w.heap.size ∧ w.cell? ⟨g, o + i, none⟩ = some (.slice a (ess.getD i []).length c) ∧ RdE w (.slice a (ess.getD i []).length c) (ess.getD i [])
theorem RdLL.later {w w' : World} {v : Value} {ess : List (List Ent)} (h : RdLL w v ess) (hb : Below w.heap.size w w') : RdLL w' v ess := by
  obtain ⟨ao, cap, rfl, h3⟩ := h
  refine ⟨ao, cap, rfl, fun i hi => ?_⟩
  obtain ⟨g, o, a, c, e, lt, r, rd⟩ := h3 i hi
  exact ⟨g, o, a, c, e, Nat.lt_of_lt_of_le lt hb.size, (hb.cell (p := ⟨g, o + i, none⟩) lt).trans r, rd.later hb⟩
end Go.Proofs.YtkmmpffkmoaceabDoor
