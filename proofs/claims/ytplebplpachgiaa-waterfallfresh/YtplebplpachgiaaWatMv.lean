/-
  Ours: the moves of a payment: Entries, Undo; the document's.
-/
import Derived.Test.YtplebplpachgiaaWatM
import Derived.Test.YtplebplpachgiaaLedRev
import Derived.BigRegion
namespace Go.Proofs.Ytplebplpachgiaa
open Go.RowKit LedM WatM

namespace WatM
def crV (c : Int × Int) : List Value := [.int .i64 c.1, .int .i64 c.2]
def crL (cs : List (Int × Int)) : List Value := cs.flatMap crV
def cN (cs : List (Int × Int)) (k : Nat) : Int × Int := cs.getD k (0, 0)
theorem crL_range : ∀ (cs : List (Int × Int)) (k : Nat), k < cs.length → ((crL cs).drop (k * 2)).take 2 = crV (cN cs k)
  | c :: r, 0, _ => by simp [crL, crV, cN]
  | c :: r, k + 1, h => by
    have := crL_range r k (by simpa using h)
    rw [show (k + 1) * 2 = k * 2 + 1 + 1 from by omega]
    simpa [crL, crV, cN] using this
/-- The moves: all that is above nothing. -/
def cashE : List (Int × Int) → List Ent
  | [] => []
  | c :: r => if 0 < c.2 then ⟨0, c.1, c.2⟩ :: cashE r else cashE r
theorem cashE_len : ∀ cs, (cashE cs).length ≤ cs.length
  | [] => Nat.le_refl _
  | c :: r => by
    have := cashE_len r
    unfold cashE
    split <;> simp <;> omega
theorem cashE_append : ∀ cs ds, cashE (cs ++ ds) = cashE cs ++ cashE ds
  | [], ds => rfl
  | c :: r, ds => by
    have := cashE_append r ds
    simp only [List.cons_append, cashE]
    split <;> simp [this]
theorem take_cN {cs : List (Int × Int)} {k : Nat} (h : k < cs.length) : cs.take (k + 1) = cs.take k ++ [cN cs k] := by
  rw [List.take_add_one, List.getElem?_eq_getElem h]
  simp [cN, List.getD_eq_getElem?_getD, List.getElem?_eq_getElem h]
theorem cashE_take {cs : List (Int × Int)} {k : Nat} (h : k < cs.length) : cashE (cs.take (k + 1)) = if 0 < (cN cs k).2 then cashE (cs.take k) ++ [⟨0, (cN cs k).1, (cN cs k).2⟩] else cashE (cs.take k) := by
  rw [take_cN h, cashE_append]
  simp only [cashE]
  split <;> simp
abbrev crs (f i p u r : Int) : List (Int × Int) := [(3, f), (2, i), (1, p), (4, u), (10, r)]
/-- Entries; Undo. -/
def entsP (f i p u r : Int) : List Ent := cashE (crs f i p u r)
def undoP (f i p u r : Int) : List Ent := (entsP f i p u r).map swapE
theorem entsP_len (f i p u r : Int) : (entsP f i p u r).length ≤ 5 := cashE_len _
/-- The first k turned. -/
def swK (es : List Ent) (k : Nat) : List Ent := (es.take k).map swapE ++ es.drop k
theorem swK_len (es : List Ent) (k : Nat) (h : k ≤ es.length) : (swK es k).length = es.length := by unfold swK; simp; omega
theorem swK_at {es : List Ent} {k : Nat} (h : k < es.length) : eN (swK es k) k = eN es k := by
  unfold swK eN
  rw [List.getD_eq_getElem?_getD, List.getElem?_append_right (by simp; omega)]
  simp [List.getD_eq_getElem?_getD, show min k es.length = k from by omega]
theorem swK_set {es : List Ent} {k : Nat} (h : k < es.length) : (swK es k).set k (swapE (eN es k)) = swK es (k + 1) := by
  unfold swK
  have hl : ((es.take k).map swapE).length = k := by simp; omega
  rw [List.set_append_right _ _ (by omega), hl, Nat.sub_self, drop_eN h, take_eN h]
  simp
theorem enL_set2 : ∀ (es : List Ent) (k : Nat) (c d : Int), k < es.length → ((enL es).set (k * 3) (.int .i64 c)).set (k * 3 + 1) (.int .i64 d) = enL (es.set k ⟨c, d, (eN es k).a⟩)
  | e :: r, 0, c, d, _ => by simp [enL, entL, eN]
  | e :: r, k + 1, c, d, h => by
    have := enL_set2 r k c d (by simpa using h)
    rw [show (k + 1) * 3 = k * 3 + 1 + 1 + 1 from by omega]
    simpa [enL, entL, eN] using this
/-- The document's: a move more. -/
def withE (es : List Ent) (k a : Int) (b : Bool) : List Ent := if a ≤ 0 then es else es ++ [if b then ⟨k, 0, a⟩ else ⟨0, k, a⟩]
theorem withE_len (es : List Ent) (k a : Int) (b : Bool) : (withE es k a b).length ≤ es.length + 1 := by unfold withE; split <;> simp
theorem withE_false (es : List Ent) (k a : Int) : withE es k a false = es ++ cashE [(k, a)] := by
  by_cases h : a ≤ 0
  · have h' : ¬0 < a := by omega
    simp [withE, cashE, h, h']
  · have h' : 0 < a := by omega
    simp [withE, cashE, h, h']
theorem withE_true (es : List Ent) (k a : Int) : withE es k a true = es ++ (cashE [(k, a)]).map swapE := by
  by_cases h : a ≤ 0
  · have h' : ¬0 < a := by omega
    simp [withE, cashE, h, h']
  · have h' : 0 < a := by omega
    simp [withE, cashE, h, h', swapE]
def movesE (f i p u r : Int) (b : Bool) : List Ent := withE (withE (withE (withE (withE [] 3 f b) 2 i b) 1 p b) 4 u b) 10 r b
theorem movesE_false (f i p u r : Int) : movesE f i p u r false = entsP f i p u r := by
  unfold movesE entsP
  simp only [withE_false]
  rw [show crs f i p u r = [(3, f)] ++ [(2, i)] ++ [(1, p)] ++ [(4, u)] ++ [(10, r)] from rfl]
  simp only [cashE_append, List.nil_append]
theorem movesE_true (f i p u r : Int) : movesE f i p u r true = undoP f i p u r := by
  unfold movesE undoP entsP
  simp only [withE_true]
  rw [show crs f i p u r = [(3, f)] ++ [(2, i)] ++ [(1, p)] ++ [(4, u)] ++ [(10, r)] from rfl]
  simp only [cashE_append, List.nil_append, List.map_append]
end WatM

/-- A row of entries at an entry: where it lies. -/
theorem RowE.at {base : Nat} {w : World} {v : Value} {es : List Ent} (h : RowE base w v es) {k : Nat} (hk : k < es.length) : ∃ g cap, v = .slice (some ⟨g, 0, none⟩) es.length cap ∧ base ≤ g ∧ g < w.heap.size ∧ w.rangeAt g (k * 3) (entL (eN es k)) ∧ ∀ j, w.frozen? ⟨g, j, none⟩ = false := by
  have hr := h.rd
  have hlt := fun g (hg : v.ownBlock = some g) => h.lt hg
  rcases h.2 with ⟨hv, h0⟩ | ⟨g, cap, cur, rfl, hb, hg, hn, hm, hcs, htk⟩
  · omega
  · obtain ⟨ao, cp, e, _, _, H⟩ := hr
    injection e with e1 e2 e3
    subst e1 e3
    obtain ⟨g', o', e, _, r⟩ := H k hk
    cases e
    rw [Nat.zero_add] at r
    exact ⟨g, cap, rfl, hb, hlt g rfl, r, fun j => by simp [World.frozen?, hg]⟩
theorem RowE.swap {base g cap n : Nat} {w : World} {es : List Ent} {k : Nat} (c d : Int) (h : RowE base w (.slice (some ⟨g, 0, none⟩) n cap) es) (hk : k < es.length) :
    RowE base ((w.setCell ⟨g, k * 3, none⟩ (.int .i64 c)).setCell ⟨g, k * 3 + 1, none⟩ (.int .i64 d)) (.slice (some ⟨g, 0, none⟩) n cap) (es.set k ⟨c, d, (eN es k).a⟩) := by
  refine ⟨by rw [enL_len], ?_⟩
  rcases h.2 with ⟨hv, h0⟩ | ⟨g', cap', cur, hv, hb, hg, hn, hm, hcs, htk⟩
  · cases hv
  · injection hv with e1 e2 e3
    injection e1 with e1
    injection e1 with e1 _ _
    subst e1 e2 e3
    have h1 := heap_setCell_same w g (k * 3) cur 35 (.int .i64 c) hg
    have h2 := heap_setCell_same _ g (k * 3 + 1) _ 35 (.int .i64 d) h1
    refine .inr ⟨g, cap, _, by simp, hb, h2, by simpa using hn, hm, by simpa using hcs, ?_⟩
    rw [← enL_set2 es k c d hk, ← htk]
    simp [List.take_set]
    try (rw [List.length_set])

end Go.Proofs.Ytplebplpachgiaa
