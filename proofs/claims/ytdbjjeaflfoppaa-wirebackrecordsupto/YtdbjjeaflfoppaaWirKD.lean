/-
  Ours: blocks of one's own, apart from each other, each of which may be written.
-/
import Derived.Test.YtdbjjeaflfoppaaWirBlk
namespace Go.Proofs.Ytdbjjeaflfoppaa
open Go.RowKit

structure KD (w : World) (bs : List (Nat × TypeId × List Value)) (w' : World) : Prop where
  bb : Below w.heap.size w w'
  bk : ∀ (k : Nat) (q : Nat × TypeId × List Value), bs[k]? = some q → w.heap.size ≤ q.1 ∧ Blk q.1 q.2.1 q.2.2 w'
  nd : ∀ (j k : Nat) (q q' : Nat × TypeId × List Value), bs[j]? = some q → bs[k]? = some q' → q.1 = q'.1 → j = k
section
variable {w w1 w2 : World} {bs : List (Nat × TypeId × List Value)} {q : Nat × TypeId × List Value}
theorem KD.at (h : KD w bs w1) (k : Nat) (hq : bs[k]? = some q) : Blk q.1 q.2.1 q.2.2 w1 := (h.bk k q hq).2
theorem KD.cell (h : KD w bs w1) (k i : Nat) (hq : bs[k]? = some q) (u : Value) (hu : q.2.2[i]? = some u) : w1.cell? ⟨q.1, i, none⟩ = some u := (h.at k hq).cell i u hu
theorem KD.fz (h : KD w bs w1) (k i : Nat) (hq : bs[k]? = some q) : w1.frozen? ⟨q.1, i, none⟩ = false := (h.at k hq).fz i
theorem KD.lt (h : KD w bs w1) (k : Nat) (hq : bs[k]? = some q) : q.1 < w1.heap.size := (h.at k hq).lt
theorem KD.call (h : KD w bs w1) (b : Below w1.heap.size w1 w2) : KD w bs w2 := ⟨below_trans h.bb b, fun k q hq => ⟨(h.bk k q hq).1, (h.bk k q hq).2.below b⟩, h.nd⟩
theorem KD.drewN (h : KD w bs w1) (n : Nat) : KD w bs (w1.drewN n) := ⟨below_drewN h.bb n, fun k q hq => ⟨(h.bk k q hq).1, (h.bk k q hq).2.drewN n⟩, h.nd⟩
theorem KD.drew (h : KD w bs w1) : KD w bs w1.drew := h.drewN 1
theorem KD.start (w : World) : KD w [] w := ⟨Below.refl _ _, fun k q hq => by simp at hq, fun j k q q' hq => by simp at hq⟩
theorem KD.new (h : KD w bs w1) (T : TypeId) (cs : List Value) : KD w (bs ++ [(w1.heap.size, T, cs)]) (w1.alloc (.cells cs.toArray T)) := by
  have h1 := h.call (below_alloc w1 (.cells cs.toArray T))
  refine ⟨h1.bb, fun k q hq => ?_, fun j k q q' hq hq' e => ?_⟩
  · by_cases hk : k < bs.length
    · rw [List.getElem?_append_left hk] at hq
      exact h1.bk k q hq
    · rw [List.getElem?_append_right (by omega)] at hq
      obtain ⟨hh, rfl⟩ : k - bs.length = 0 ∧ (w1.heap.size, T, cs) = q := by
        cases hd : k - bs.length with
        | zero => rw [hd] at hq; simpa using hq
        | succ m => rw [hd] at hq; simp at hq
      exact ⟨h.bb.size, Blk.new T cs w1⟩
  · have key : ∀ j q, (bs ++ [(w1.heap.size, T, cs)])[j]? = some q → (j < bs.length ∧ q.1 < w1.heap.size ∧ bs[j]? = some q) ∨ (j = bs.length ∧ q.1 = w1.heap.size) := fun j q hq => by
      by_cases hk : j < bs.length
      · rw [List.getElem?_append_left hk] at hq
        exact .inl ⟨hk, (h.bk j q hq).2.lt, hq⟩
      · rw [List.getElem?_append_right (by omega)] at hq
        cases hd : j - bs.length with
        | zero => rw [hd] at hq; simp at hq; exact .inr ⟨by omega, by rw [← hq]⟩
        | succ m => rw [hd] at hq; simp at hq
    rcases key j q hq with ⟨_, lt1, b1⟩ | ⟨e1, s1⟩
    · rcases key k q' hq' with ⟨_, lt2, b2⟩ | ⟨e2, s2⟩
      · exact h.nd j k q q' b1 b2 e
      · omega
    · rcases key k q' hq' with ⟨_, lt2, b2⟩ | ⟨e2, s2⟩
      · omega
      · omega
theorem KD.store (h : KD w bs w1) (k : Nat) (hq : bs[k]? = some q) {cs : List Value} (nb : Blk q.1 q.2.1 cs w2) (g : w1.grownBy w2 (some q.1)) : KD w (bs.set k (q.1, q.2.1, cs)) w2 := by
  have hk : k < bs.length := (List.getElem?_eq_some_iff.1 hq).1
  have ge := (h.bk k q hq).1
  refine ⟨h.bb.grown g h.bb.size (fun x e => by injection e with e; omega), fun j p hp => ?_, fun j m p p' hp hp' e => ?_⟩
  · rw [List.getElem?_set] at hp
    by_cases hj : k = j
    · rw [if_pos hj, if_pos hk] at hp
      injection hp with hp
      subst hp
      exact ⟨ge, nb⟩
    · rw [if_neg hj] at hp
      refine ⟨(h.bk j p hp).1, (h.bk j p hp).2.grown g (fun e => ?_)⟩
      exact hj (h.nd k j q p hq hp e)
  · have key : ∀ (j : Nat) (p : Nat × TypeId × List Value), (bs.set k (q.1, q.2.1, cs))[j]? = some p → ∃ r : Nat × TypeId × List Value, bs[j]? = some r ∧ r.1 = p.1 := fun j p hp => by
      rw [List.getElem?_set] at hp
      by_cases hj : k = j
      · rw [if_pos hj, if_pos hk] at hp
        injection hp with hp
        subst hp
        exact ⟨q, by rw [← hj]; exact hq, rfl⟩
      · rw [if_neg hj] at hp
        exact ⟨p, hp, rfl⟩
    obtain ⟨r, hr, e1⟩ := key j p hp
    obtain ⟨r', hr', e2⟩ := key m p' hp'
    exact h.nd j m r r' hr hr' (by omega)
theorem KD.set (h : KD w bs w1) (k i : Nat) (hq : bs[k]? = some q) (u : Value) : KD w (bs.set k (q.1, q.2.1, q.2.2.set i u)) (w1.setCell ⟨q.1, i, none⟩ u) :=
  h.store k hq ((h.at k hq).set u) (setCell_grown _ _ _ _)
end
theorem KD.one (w : World) (T : TypeId) (cs : List Value) : KD w [(w.heap.size, T, cs)] (w.alloc (.cells cs.toArray T)) := (KD.start w).new T cs
theorem size_al (w : World) (o : Obj) : (w.alloc o).heap.size = w.heap.size + 1 := by simp
theorem KD.two (w : World) (T T2 : TypeId) (cs cs2 : List Value) : KD w [(w.heap.size, T, cs), (w.heap.size + 1, T2, cs2)] ((w.alloc (.cells cs.toArray T)).alloc (.cells cs2.toArray T2)) := by
  have := (KD.one w T cs).new T2 cs2
  rwa [size_al] at this
theorem KD.three (w : World) (T T2 T3 : TypeId) (cs cs2 cs3 : List Value) : KD w [(w.heap.size, T, cs), (w.heap.size + 1, T2, cs2), (w.heap.size + 1 + 1, T3, cs3)] (((w.alloc (.cells cs.toArray T)).alloc (.cells cs2.toArray T2)).alloc (.cells cs3.toArray T3)) := by
  have := (KD.two w T T2 cs cs2).new T3 cs3
  rwa [size_al, size_al] at this
theorem KD.four (w : World) (T T2 T3 T4 : TypeId) (cs cs2 cs3 cs4 : List Value) : KD w [(w.heap.size, T, cs), (w.heap.size + 1, T2, cs2), (w.heap.size + 1 + 1, T3, cs3), (w.heap.size + 1 + 1 + 1, T4, cs4)] ((((w.alloc (.cells cs.toArray T)).alloc (.cells cs2.toArray T2)).alloc (.cells cs3.toArray T3)).alloc (.cells cs4.toArray T4)) := by
  have := (KD.three w T T2 T3 cs cs2 cs3).new T4 cs4
  rwa [size_al, size_al, size_al] at this
end Go.Proofs.Ytdbjjeaflfoppaa
