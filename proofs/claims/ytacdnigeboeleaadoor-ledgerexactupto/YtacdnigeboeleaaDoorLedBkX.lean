/-
  Ours: rows of books: cuts, single books, one number changed.
-/
import Derived.Test.YtacdnigeboeleaaDoorLedBkR
import Derived.Test.YtacdnigeboeleaaDoorWatKB
namespace Go.Proofs.YtacdnigeboeleaaDoor
open Go.RowKit LedM

theorem RdBk.take {w : World} {a : Option Addr} {n c : Nat} {bs : List (List Int)} (h : RdBk w (.slice a n c) bs) {k : Nat} (hk : k ≤ n) : RdBk w (.slice a k c) (bs.take k) := by
  obtain ⟨ao, cap, e, h1, h2, h3⟩ := h
  injection e with e1 e2 e3
  subst e1 e2 e3
  refine ⟨_, _, by rw [List.length_take, Nat.min_eq_left hk], by rw [List.length_take]; omega, h2, fun i hi => ?_⟩
  rw [List.length_take] at hi
  obtain ⟨g, o, e, lt, r⟩ := h3 i (by omega)
  refine ⟨g, o, e, lt, ?_⟩
  rw [show bN (bs.take k) i = bN bs i from by simp only [bN, List.getD_eq_getElem?_getD, List.getElem?_take]; rw [if_pos (by omega)]]
  exact r
theorem RdBk.one (w : World) (b : List Int) : RdBk (w.alloc (.cells (bkL b).toArray 25)) (.slice (some ⟨w.heap.size, 0, none⟩) 1 1) [b] := by
  refine ⟨_, _, rfl, Nat.le_refl _, (fun h => by cases h), fun i hi => ?_⟩
  obtain rfl : i = 0 := by simpa using hi
  exact ⟨_, _, rfl, by simp, (Blk.new 25 (bkL b) w).all⟩
theorem RowBk.kept {base : Nat} {w w' : World} {v : Value} {row : Option Nat} {bs : List (List Int)} (h : RowBk base w v bs) (hb : w.grownBy w' row) (hn : ∀ g, v.ownBlock = some g → row ≠ some g) : RowBk base w' v bs := by
  refine World.ownsRow.kept h hb ?_
  cases hv : v.ownBlock with
  | none => exact .inl rfl
  | some g => exact .inr fun e => hn g hv e.symm
theorem RowBk.form {base : Nat} {w : World} {v : Value} {bs : List (List Int)} (h : RowBk base w v bs) (hp : 0 < bs.length) : ∃ g cap, v = .slice (some ⟨g, 0, none⟩) bs.length cap ∧ base ≤ g ∧ g < w.heap.size ∧ bs.length ≤ cap ∧ ∀ j, w.frozen? ⟨g, j, none⟩ = false := by
  have hlt := fun g (hg : v.ownBlock = some g) => h.lt hg
  rcases h.2 with ⟨hv, h0⟩ | ⟨g, cap, cur, rfl, hb, hg, hn, hm, hcs, htk⟩
  · omega
  · exact ⟨g, cap, rfl, hb, hlt g rfl, hn, fun j => by simp [World.frozen?, hg]⟩
namespace LedM
theorem bksL_set : ∀ {bs : List (List Int)}, Tw bs → ∀ (k j : Nat) (x : Int), k < bs.length → j < 12 → (bksL bs).set (k * 12 + j) (.int .i64 x) = bksL (bs.set k ((bN bs k).set j x))
  | b :: r, h, 0, j, x, _, hj => by
    have hb := h b (List.mem_cons_self ..)
    rw [Nat.zero_mul, Nat.zero_add]
    show (bkL b ++ bksL r).set j _ = bkL (b.set j x) ++ bksL r
    rw [List.set_append_left _ _ (by rw [bkL_len, hb]; exact hj)]
    unfold bkL; rw [List.map_set]
  | b :: r, h, k + 1, j, x, hk, hj => by
    have hb := h b (List.mem_cons_self ..)
    have ih := bksL_set h.tail k j x (by simpa using hk) hj
    show (bkL b ++ bksL r).set ((k + 1) * 12 + j) _ = bkL b ++ bksL (r.set k ((bN r k).set j x))
    rw [List.set_append_right _ _ (by rw [bkL_len, hb]; omega), show (k + 1) * 12 + j - (bkL b).length = k * 12 + j from by rw [bkL_len, hb]; omega, ih]
end LedM
theorem RowBk.set {base g cap n : Nat} {w : World} {bs : List (List Int)} (ht : Tw bs) {k j : Nat} (x : Int) (h : RowBk base w (.slice (some ⟨g, 0, none⟩) n cap) bs) (hk : k < bs.length) (hj : j < 12) :
    RowBk base (w.setCell ⟨g, k * 12 + j, none⟩ (.int .i64 x)) (.slice (some ⟨g, 0, none⟩) n cap) (bs.set k ((bN bs k).set j x)) := by
  have tw2 : Tw (bs.set k ((bN bs k).set j x)) := fun b hb => by
    rcases List.mem_or_eq_of_mem_set hb with hb | hb
    · exact ht b hb
    · rw [hb, List.length_set]; exact bN_len ht k hk
  refine ⟨bksL_len tw2, ?_⟩
  rcases h.2 with ⟨hv, h0⟩ | ⟨g', cap', cur, hv, hb, hg, hn, hm, hcs, htk⟩
  · cases hv
  · injection hv with e1 e2 e3
    injection e1 with e1
    injection e1 with e1 _ _
    subst e1 e2 e3
    have h1 := heap_setCell_same w g (k * 12 + j) cur 25 (.int .i64 x) hg
    refine .inr ⟨g, cap, _, by simp, hb, h1, by simpa using hn, hm, by simpa using hcs, ?_⟩
    rw [← bksL_set ht k j x hk hj, ← htk]
    simp [List.take_set]
end Go.Proofs.YtacdnigeboeleaaDoor
