/-
  Ours: rows that are written; a row of bytes grown by one.
-/
import Derived.Test.YtcmfehabcklbpaaDoorDskOwn
import Derived.Test.YtcmfehabcklbpaaDoorFrmStep
namespace Go.Proofs.YtcmfehabcklbpaaDoor
open Go.RowKit

theorem rowV_set {e : TypeId} {base : Nat} {w : World} {g n cap i : Nat} {vs : List Value} {u : Value} (hn : vs.length = n) (h : RowV e base w (.slice (some ⟨g, 0, none⟩) n cap) vs) :
    RowV e base (w.setCell ⟨g, i, none⟩ u) (.slice (some ⟨g, 0, none⟩) n cap) (vs.set i u) ∧ w.grownBy (w.setCell ⟨g, i, none⟩ u) (some g) := by
  subst hn
  obtain ⟨h1, h2⟩ := World.ownsRow.stored h i u
  refine ⟨?_, h2⟩
  rw [RowV, List.length_set]
  exact h1
theorem RowV.own {e : TypeId} {base : Nat} {w : World} {v : Value} {vs : List Value} (h : RowV e base w v vs) (h0 : 0 < vs.length) : ∃ g cap, v = .slice (some ⟨g, 0, none⟩) vs.length cap ∧ vs.length ≤ cap ∧
    (∀ i (hi : i < vs.length), w.cell? ⟨g, i, none⟩ = some vs[i]) ∧ ∀ i, w.frozen? ⟨g, i, none⟩ = false := by
  have hc := fun (g : Nat) (hg : v.ownBlock = some g) => World.ownsRow.cells h hg
  rcases h.2 with ⟨_, h0'⟩ | ⟨g, cap, cur, rfl, hb, hg, hn, hm, hs, ht⟩
  · omega
  · refine ⟨g, cap, rfl, hn, fun i hi => ?_, fun i => by simp [World.frozen?, hg]⟩
    have := hc g rfl i _ (List.getElem?_eq_getElem hi)
    rwa [show (⟨g, 0, none⟩ : Addr).add i = ⟨g, i, none⟩ by unfold Addr.add; split <;> simp_all] at this
theorem rowB_push {e : TypeId} {base : Nat} {w : World} {v : Value} {bs : List Nat} {c : Int} {d : Nat} (h : RowV e base w v (bs.map bv ++ [.int .u8 c])) (hc : c = (d : Int)) : RowB e base w v (bs ++ [d]) := by
  subst hc
  simpa [RowB, bv] using h
theorem map_set_bv (bs : List Nat) (i x : Nat) : (bs.map bv).set i (.int .u8 (x : Int)) = (bs.set i x).map bv := by rw [List.map_set]; rfl
theorem getD_bv {bs : List Nat} {i : Nat} (h : i < (bs.map bv).length) : (bs.map bv)[i] = .int .u8 ((bs.getD i 0 : Nat) : Int) := by
  rw [List.getElem_map, List.getD_eq_getElem?_getD, List.getElem?_eq_getElem (by simpa using h)]; rfl
theorem TabS.kp {w w' : World} {M : Nat → Prop} (h : TabS w) (k : Kp M w w') (hm : ¬ M 0) : TabS w' := fun m hm' => by
  have hb := k.block _ h.lt hm
  rw [← h m hm']
  simp only [World.cell?, hb]
end Go.Proofs.YtcmfehabcklbpaaDoor
