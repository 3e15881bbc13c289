/-
  Ours: laws of rows of one's own that the network's statements want.
-/
import Derived.Test.YtcnhcdlbippjoaaNwRfB
import Derived.Test.YtcnhcdlbippjoaaNwLaw
namespace Go.Proofs.Ytcnhcdlbippjoaa
open Go.RowKit NwM
theorem Rd.cut {w : World} {a : Option Addr} {n c : Nat} {vs : List Value} (h : Rd w (.slice a n c) vs) {k : Nat} (hk : k ≤ n) : Rd w (.slice a k c) (vs.take k) := by
  obtain ⟨ao, cp, e, h1, h2, h3⟩ := h
  injection e with e1 e2 e3
  subst e1 e2 e3
  have hm : (vs.take k).length = k := by rw [List.length_take]; omega
  refine ⟨a, c, by rw [hm], by omega, h2, fun i hi => ?_⟩
  obtain ⟨b, off, e1, e2, e3⟩ := h3 i (by omega)
  refine ⟨b, off, e1, e2, ?_⟩
  rw [e3]
  simp
theorem rowV_set {e : TypeId} {base : Nat} {w : World} {g n cap i : Nat} {vs : List Value} {u : Value} (hn : vs.length = n) (h : RowV e base w (.slice (some ⟨g, 0, none⟩) n cap) vs) :
    RowV e base (w.setCell ⟨g, i, none⟩ u) (.slice (some ⟨g, 0, none⟩) n cap) (vs.set i u) ∧ w.grownBy (w.setCell ⟨g, i, none⟩ u) (some g) := by
  subst hn
  obtain ⟨h1, h2⟩ := World.ownsRow.stored h i u
  refine ⟨?_, h2⟩
  rw [RowV, List.length_set]
  exact h1
theorem RowV.own {e : TypeId} {base : Nat} {w : World} {v : Value} {vs : List Value} (h : RowV e base w v vs) (h0 : 0 < vs.length) : ∃ g cap, v = .slice (some ⟨g, 0, none⟩) vs.length cap ∧ vs.length ≤ cap ∧
    (∀ i (hi : i < vs.length), w.cell? ⟨g, i, none⟩ = some vs[i]) ∧ ∀ i, w.frozen? ⟨g, i, none⟩ = false := by
  have hc := fun (g : Nat) (hg : v.ownBlock = some g) => World.ownsRow.cells h hg
  rcases h.2 with ⟨_, h0'⟩ | ⟨g, cap, cur, rfl, hb, hg, hn, hm, hs, ht⟩
  · omega
  · refine ⟨g, cap, rfl, hn, fun i hi => ?_, fun i => by simp [World.frozen?, hg]⟩
    have := hc g rfl i _ (List.getElem?_eq_getElem hi)
    rwa [show (⟨g, 0, none⟩ : Addr).add i = ⟨g, i, none⟩ by unfold Addr.add; split <;> simp_all] at this
theorem rowB_push {e : TypeId} {base : Nat} {w : World} {v : Value} {bs : List Nat} {c : Int} {d : Nat} (h : RowV e base w v (bs.map bv ++ [.int .u8 c])) (hc : c = (d : Int)) : RowB e base w v (bs ++ [d]) := by
  subst hc
  simpa [RowB, bv] using h
theorem map_set_bv (bs : List Nat) (i x : Nat) : (bs.map bv).set i (.int .u8 (x : Int)) = (bs.set i x).map bv := by rw [List.map_set]; rfl
theorem Rd.tailN {w : World} {g L cap : Nat} {xs us : List Value} (h : Rd w (.slice (some ⟨g, 0, none⟩) (L + us.length) cap) (xs ++ us)) (hx : xs.length = L) : Rd w (.slice (some ⟨g, L, none⟩) us.length (cap - L)) us := by
  obtain ⟨ao, cp, e, h1, h2, h3⟩ := h
  injection e with e1 e2 e3
  subst e1 e3
  refine ⟨_, _, rfl, by rw [List.length_append] at h1; omega, (fun h => by cases h), fun i hi => ?_⟩
  obtain ⟨g', o', e, lt, hc⟩ := h3 (L + i) (by rw [List.length_append]; omega)
  cases e
  refine ⟨g, L, rfl, lt, ?_⟩
  rw [Nat.zero_add] at hc
  rw [hc, List.getElem_append_right (by omega)]
  simp [hx]
def tail3 : List Nat := [90, 91, 92]
theorem rd3N (w : World) : RdB (w.alloc (.cells #[.int .u8 90, .int .u8 91, .int .u8 92] 5)) (.slice (some ⟨w.heap.size, 0, none⟩) 3 3) tail3 := by
  refine ⟨_, _, rfl, Nat.le_refl _, (fun h => by cases h), fun i hi => ⟨w.heap.size, 0, rfl, by simp, ?_⟩⟩
  rw [Nat.zero_add]
  exact (Blk.new 5 (tail3.map bv) w).cell i _ (List.getElem?_eq_getElem hi)
theorem sizePa : (Try.prog.info? 37).map (·.size) = some 5 := by kernel_rfl
theorem sizeOp : (Try.prog.info? 45).map (·.size) = some 6 := by kernel_rfl
end Go.Proofs.Ytcnhcdlbippjoaa
