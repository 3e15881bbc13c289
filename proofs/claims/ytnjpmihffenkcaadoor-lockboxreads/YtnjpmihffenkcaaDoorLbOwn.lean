/-
  Ours: a row of bytes of one's own: its cells, a write into it (after NwOwn).
-/
import Derived.Test.YtnjpmihffenkcaaDoorWirOwn
namespace Go.Proofs.YtnjpmihffenkcaaDoor
open Go.RowKit
theorem rowV_set {e : TypeId} {base : Nat} {w : World} {g n cap i : Nat} {vs : List Value} {u : Value} (hn : vs.length = n) (h : RowV e base w (.slice (some ⟨g, 0, none⟩) n cap) vs) :
    RowV e base (w.setCell ⟨g, i, none⟩ u) (.slice (some ⟨g, 0, none⟩) n cap) (vs.set i u) ∧ w.grownBy (w.setCell ⟨g, i, none⟩ u) (some g) := by
  subst hn
  obtain ⟨h1, h2⟩ := World.ownsRow.stored h i u
  refine ⟨?_, h2⟩
  rw [RowV, List.length_set]
  exact h1
theorem RowV.own {e : TypeId} {base : Nat} {w : World} {v : Value} {vs : List Value} (h : RowV e base w v vs) (h0 : 0 < vs.length) : ∃ g cap, v = .slice (some ⟨g, 0, none⟩) vs.length cap ∧ vs.length ≤ cap ∧
    (∀ i (hi : i < vs.length), w.cell? ⟨g, i, none⟩ = some vs[i]) ∧ ∀ i, w.frozen? ⟨g, i, none⟩ = false := by
  have hc := fun (g : Nat) (hg : v.ownBlock = some g) => World.ownsRow.cells h hg
  rcases h.2 with ⟨_, h0'⟩ | ⟨g, cap, cur, rfl, hb, hg, hn, hm, hs, ht⟩
  · omega
  · refine ⟨g, cap, rfl, hn, fun i hi => ?_, fun i => by simp [World.frozen?, hg]⟩
    have := hc g rfl i _ (List.getElem?_eq_getElem hi)
    rwa [show (⟨g, 0, none⟩ : Addr).add i = ⟨g, i, none⟩ by unfold Addr.add; split <;> simp_all] at this
theorem map_set_bv (bs : List Nat) (i x : Nat) : (bs.map bv).set i (.int .u8 (x : Int)) = (bs.set i x).map bv := by rw [List.map_set]; rfl
/-- The cells of bytes of one's own. -/
theorem RowB.own {e : TypeId} {base : Nat} {w : World} {v : Value} {bs : List Nat} (h : RowB e base w v bs) (h0 : 0 < bs.length) : ∃ g cap, v = .slice (some ⟨g, 0, none⟩) bs.length cap ∧ bs.length ≤ cap ∧ base ≤ g ∧ g < w.heap.size ∧
    (∀ i, i < bs.length → w.cell? ⟨g, i, none⟩ = some (.int .u8 ((bs.getD i 0 : Nat) : Int))) ∧ ∀ i, w.frozen? ⟨g, i, none⟩ = false := by
  obtain ⟨g, cap, e, h1, h2, h3⟩ := RowV.own h (by rw [List.length_map]; exact h0)
  subst e
  rw [List.length_map] at h1
  refine ⟨g, cap, by rw [List.length_map], h1, h.block_ge rfl, h.block_lt rfl, fun i hi => ?_, h3⟩
  rw [h2 i (by rw [List.length_map]; exact hi), List.getElem_map, List.getD_eq_getElem?_getD, List.getElem?_eq_getElem hi]
  rfl
theorem RowB.put {e : TypeId} {base : Nat} {w : World} {g n cap : Nat} {bs : List Nat} (h : RowB e base w (.slice (some ⟨g, 0, none⟩) n cap) bs) (i x : Nat) (hn : bs.length = n) :
    RowB e base (w.setCell ⟨g, i, none⟩ (.int .u8 ((x : Nat) : Int))) (.slice (some ⟨g, 0, none⟩) n cap) (bs.set i x) ∧ w.grownBy (w.setCell ⟨g, i, none⟩ (.int .u8 ((x : Nat) : Int))) (some g) := by
  have := rowV_set (i := i) (u := .int .u8 ((x : Nat) : Int)) (by rw [List.length_map]; exact hn) h
  rw [map_set_bv] at this
  exact this
theorem below_own {w w1 : World} {g i : Nat} {u : Value} (h : Below w.heap.size w w1) (hg : w.heap.size ≤ g) : Below w.heap.size w (w1.setCell ⟨g, i, none⟩ u) := by
  refine h.trans ?_
  exact ⟨rfl, rfl, rfl, Nat.le_of_eq (by simp), fun k hk => Below.heap_setCell _ _ _ _ (fun e => by subst e; omega)⟩
end Go.Proofs.YtnjpmihffenkcaaDoor
