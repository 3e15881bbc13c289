/-
  Ours: the book with one more answer of Accepted (pure).
-/
import Derived.Test.YtcnhcdlbippjoaaNwAc0
namespace Go.Proofs.Ytcnhcdlbippjoaa
open Go.RowKit NwM
theorem at_app2 {α : Type} {l r : List α} {y : α} {i : Nat} (h : (l ++ r)[i]? = some y) : (i < l.length ∧ l[i]? = some y) ∨ (l.length ≤ i ∧ r[i - l.length]? = some y) := by
  rcases Nat.lt_or_ge i l.length with q | q
  · rw [List.getElem?_append_left q] at h; exact .inl ⟨q, h⟩
  · rw [List.getElem?_append_right q] at h; exact .inr ⟨q, h⟩
def mks (NB n : Nat) : List Value := (List.range n).map (fun j => bv (mkN NB j))
theorem mks_succ (NB n : Nat) : mks NB (n + 1) = mks NB n ++ [bv (mkN NB n)] := by unfold mks; rw [List.range_succ, List.map_append]; rfl
theorem mks_len (NB n : Nat) : (mks NB n).length = n := by unfold mks; rw [List.length_map, List.length_range]
theorem mks_at {NB n i : Nat} (h : i < n) : (mks NB n)[i]? = some (bv (mkN NB i)) := by unfold mks; rw [List.getElem?_map, List.getElem?_range h]; rfl
theorem BkC.acc {M M' : Nat → Prop} {V V' : Nat → List Value} {w : World} {ys : List Ac} {L2 : List Value} {lv : Value} {NB n : Nat} (h : BkC M V w) (hn : ys.length = n) (h2 : L2.length = n) (e0 : V' 0 = V 0) (e1 : V' 1 = V 1) (e2 : V' 2 = V 2 ++ [lv]) (e3 : V' 3 = V 3 ++ (ys.map sv ++ L2)) (e4 : V' 4 = V 4 ++ (mks NB n ++ mks NB n))
    (kl : ∃ m, RowA 0 w lv (List.replicate m (zA (V 2).length))) (kd : ∀ (j : Nat) y, ys[j]? = some y → KV w (bv (mkN NB j)) (sv y)) (k2 : ∀ (j : Nat) u, L2[j]? = some u → KV w (bv (mkN NB j)) u)
    (hm : ∀ g, M g → M' g) (ml : ∀ g, lv.ownBlock = some g → M' g) (md : ∀ (j : Nat) y, ys[j]? = some y → ∀ g, (sv y).ownBlock = some g → M' g) (m2 : ∀ (j : Nat) u, L2[j]? = some u → ∀ g, u.ownBlock = some g → M' g) (lt : ∀ g, M' g → g < w.heap.size) : BkC M' V' w := by
  refine ⟨by rw [e0, e1]; exact h.la, by rw [e3, e4, List.length_append, List.length_append, List.length_append, List.length_append, List.length_map, mks_len, hn, h2, h.lb], fun i v hv => ?_, fun i v hv => ?_, fun i v hv => ?_, fun i v m hv hmm => ?_, lt⟩
  · rw [e0] at hv; exact ⟨(h.ka i v hv).1, fun g e => hm g ((h.ka i v hv).2 g e)⟩
  · rw [e1] at hv; exact ⟨(h.kl i v hv).1, fun g e => hm g ((h.kl i v hv).2 g e)⟩
  · rw [e2] at hv
    rcases at_app hv with hv | ⟨rfl, rfl⟩
    · exact ⟨(h.ks i v hv).1, fun g e => hm g ((h.ks i v hv).2 g e)⟩
    · exact ⟨kl, ml⟩
  · rw [e3] at hv; rw [e4] at hmm
    rcases at_app2 hv with ⟨hi, hv⟩ | ⟨hi, hv⟩
    · rw [List.getElem?_append_left (by rw [h.lb]; exact hi)] at hmm
      exact ⟨(h.kb i v m hv hmm).1, (h.kb i v m hv hmm).2.1, fun g e => hm g ((h.kb i v m hv hmm).2.2 g e)⟩
    · rw [List.getElem?_append_right (by rw [h.lb]; exact hi), h.lb] at hmm
      generalize i - (V 3).length = j at hv hmm
      rcases at_app2 hv with ⟨hj, hv⟩ | ⟨hj, hv⟩
      · rw [List.length_map, hn] at hj
        rw [List.getElem?_append_left (by rw [mks_len]; exact hj), mks_at hj] at hmm
        injection hmm with hmm
        subst hmm
        rw [List.getElem?_map] at hv
        cases hy : ys[j]? with
        | none => rw [hy] at hv; simp at hv
        | some y =>
          rw [hy] at hv
          injection hv with hv
          subst hv
          exact ⟨kd j y hy, ⟨_, rfl⟩, md j y hy⟩
      · rw [List.length_map, hn] at hj hv
        rw [List.getElem?_append_right (by rw [mks_len]; exact hj), mks_len] at hmm
        have hjl : j - n < n := by have := (List.getElem?_eq_some_iff.1 hv).1; omega
        rw [mks_at hjl] at hmm
        injection hmm with hmm
        subst hmm
        exact ⟨k2 (j - n) v hv, ⟨_, rfl⟩, m2 (j - n) v hv⟩
theorem rep_item (NS : Nat) (ys : List Ac) {i : Nat} (h : i < ys.length) : (List.replicate i (zA NS) ++ ys.drop i).set i (zA NS) = List.replicate (i + 1) (zA NS) ++ ys.drop (i + 1) := by
  rw [List.set_append_right _ _ (by simp), List.length_replicate, Nat.sub_self, List.drop_eq_getElem_cons h, List.set_cons_zero, List.replicate_succ', List.append_assoc]
  rfl
theorem rep_at (NS : Nat) {ys : List Ac} {i : Nat} {y : Ac} (h : ys[i]? = some y) : (List.replicate i (zA NS) ++ ys.drop i)[i]? = some y := by
  rw [List.getElem?_append_right (by simp), List.length_replicate, Nat.sub_self, List.getElem?_drop, Nat.add_zero]; exact h
end Go.Proofs.Ytcnhcdlbippjoaa
