/-
  Ours: blocks of cases and rows of actions, as many as there are (gen_colaw.py: THE SEAT's OWN NUMBERS).
-/
import Derived.Test.YtmhjghaipfijdabCoRun
import Derived.Test.YtmhjghaipfijdabCoCnt
namespace Go.Proofs.Ytmhjghaipfijdab
open Go.RowKit LedM PolM CoM

/-- A policy's box, the cases bs in blocks, the rows rs, and all that was there. -/
structure ZZ (w : World) (l : List Int) (s : Value) (bs : List (Nat × Cs)) (rs : List (Value × List Int)) (w' : World) : Prop where
  p : Blk w.heap.size 24 (polL l s) w'
  bb : Below w.heap.size w w'
  b : ∀ x ∈ bs, Blk x.1 29 (csL x.2) w'
  r : ∀ y ∈ rs, RowV 3 w.heap.size w' y.1 (bkL y.2)
  gt : ∀ x ∈ bs, w.heap.size < x.1
section
variable {w w1 w2 : World} {l : List Int} {s : Value} {bs : List (Nat × Cs)} {rs : List (Value × List Int)} {G : Nat} {c c' d : Cs} {zs : List Value}
theorem ZZ.later (h : ZZ w l s bs rs w1) (hb : Below w1.heap.size w1 w2) : ZZ w l s bs rs w2 := ⟨h.p.below hb, below_trans h.bb hb, fun x hx => (h.b x hx).below hb, fun y hy => (h.r y hy).later hb, h.gt⟩
theorem ZZ.drew (h : ZZ w l s bs rs w1) : ZZ w l s bs rs w1.drew := ⟨h.p, Below.drew h.bb, h.b, h.r, h.gt⟩
theorem ZZ.lts (h : ZZ w l s bs rs w1) : ∀ x ∈ bs, x.1 < w1.heap.size := fun x hx => (h.b x hx).lt
theorem ZZ.grown (h : ZZ w l s bs rs w1) (hN : Blk G 29 zs w1) (g : w1.grownBy w2 (some G)) (hG : ∀ x ∈ bs, x.1 < G) (hp : w.heap.size < G) : ZZ w l s bs rs w2 :=
  ⟨h.p.grown g (fun e => by injection e with e; omega), below_row h.bb g (by omega), fun x hx => (h.b x hx).grown g (fun e => by injection e with e; have := hG x hx; omega), fun y hy => rowV_blk (h.r y hy) hN g (by decide), h.gt⟩
theorem ZZ.addB (h : ZZ w l s bs rs w1) (nb : Blk G 29 (csL d) w1) (hp : w.heap.size < G) : ZZ w l s ((G, d) :: bs) rs w1 :=
  ⟨h.p, h.bb, fun x hx => by rcases List.mem_cons.1 hx with rfl | hx; (exact nb); exact h.b x hx, h.r, fun x hx => by rcases List.mem_cons.1 hx with rfl | hx; (exact hp); exact h.gt x hx⟩
theorem ZZ.addR {v : Value} {a : List Int} (h : ZZ w l s bs rs w1) (r : RowV 3 w.heap.size w1 v (bkL a)) : ZZ w l s bs ((v, a) :: rs) w1 :=
  ⟨h.p, h.bb, h.b, fun x hx => by rcases List.mem_cons.1 hx with rfl | hx; (exact r); exact h.r x hx, h.gt⟩
theorem ZZ.put (h : ZZ w l s ((G, c) :: bs) rs w1) (nb : Blk G 29 (csL c') w2) (g : w1.grownBy w2 (some G)) (hn : ∀ x ∈ bs, x.1 ≠ G) : ZZ w l s ((G, c') :: bs) rs w2 := by
  have hp := h.gt (G, c) (by simp)
  have hN := h.b (G, c) (by simp)
  refine ⟨h.p.grown g (fun e => by injection e with e; have : w.heap.size < G := hp; omega), below_row h.bb g (Nat.le_of_lt hp), fun x hx => ?_, fun y hy => rowV_blk (h.r y hy) hN g (by decide), fun x hx => ?_⟩
  · rcases List.mem_cons.1 hx with rfl | hx
    · exact nb
    · exact (h.b x (List.mem_cons_of_mem _ hx)).grown g (fun e => by injection e with e; exact hn x hx e.symm)
  · rcases List.mem_cons.1 hx with rfl | hx
    · exact hp
    · exact h.gt x (List.mem_cons_of_mem _ hx)
theorem ZZ.row {v v' : Value} {a a' : List Int} (h : ZZ w l s bs rs w1) (hv : (v, a) ∈ rs) (g : w1.grownBy w2 v.ownBlock) (n : RowV 3 w.heap.size w2 v' (bkL a')) : ZZ w l s bs [(v', a')] w2 := by
  have hr := h.r (v, a) hv
  exact ⟨h.p.grown g (row_ne_blkC hr h.p (by decide)), below_grown h.bb hr (Nat.le_refl _) h.bb.size g, fun x hx => (h.b x hx).grown g (row_ne_blkC hr (h.b x hx) (by decide)), fun y hy => by obtain rfl := List.mem_singleton.1 hy; exact n, h.gt⟩
theorem ZZ.sub {bs' : List (Nat × Cs)} {rs' : List (Value × List Int)} (h : ZZ w l s bs rs w1) (hb : ∀ x ∈ bs', x ∈ bs) (hr : ∀ y ∈ rs', y ∈ rs) : ZZ w l s bs' rs' w1 := ⟨h.p, h.bb, fun x hx => h.b x (hb x hx), fun y hy => h.r y (hr y hy), fun x hx => h.gt x (hb x hx)⟩
end
namespace CoM
theorem eN_take {es : List Ev} {a i : Nat} (h : i < a) : eN (es.take a) i = eN es i := by simp only [eN, List.getD_eq_getElem?_getD, List.getElem?_take]; rw [if_pos h]
theorem eN_drop {es : List Ev} {a i : Nat} : eN (es.drop a) i = eN es (a + i) := by simp only [eN, List.getD_eq_getElem?_getD, List.getElem?_drop]
theorem rk_take (l hs : List Int) (c : Cs) (es : List Ev) (a : Nat) : ∀ k, k ≤ a → rk l hs c (es.take a) k = rk l hs c es k
  | 0, _ => rfl
  | k + 1, h => by
    have ih := rk_take l hs c es a k (by omega)
    simp only [rk]; rw [ih, eN_take (by omega)]
theorem rk_drop (l hs : List Int) (c : Cs) (es : List Ev) (a : Nat) : ∀ k, rk l hs c es (a + k) = ((rk l hs (rk l hs c es a).1 (es.drop a) k).1, (rk l hs c es a).2 ++ (rk l hs (rk l hs c es a).1 (es.drop a) k).2)
  | 0 => by simp [rk]
  | k + 1 => by
    have ih := rk_drop l hs c es a k
    rw [show a + (k + 1) = (a + k) + 1 from by omega]
    simp only [rk]; rw [ih, eN_drop]
    simp only [List.append_assoc]
end CoM
theorem RdV.take {w : World} {a : Option Addr} {n c : Nat} {es : List Ev} (h : RdV w (.slice a n c) es) {k : Nat} (hk : k ≤ n) : RdV w (.slice a k c) (es.take k) := by
  obtain ⟨ao, cap, e, h1, h2, h3⟩ := h
  injection e with e1 e2 e3
  subst e1 e2 e3
  refine ⟨_, _, by rw [List.length_take, Nat.min_eq_left hk], by rw [List.length_take]; omega, h2, fun i hi => ?_⟩
  rw [List.length_take] at hi
  obtain ⟨g, o, e, lt, r⟩ := h3 i (by omega)
  refine ⟨g, o, e, lt, ?_⟩
  rw [eN_take (by omega)]
  exact r
theorem RdV.drop {w : World} {g o n c : Nat} {es : List Ev} (h : RdV w (.slice (some ⟨g, o, none⟩) n c) es) {k : Nat} (hk : k ≤ n) : RdV w (.slice (some ⟨g, o + k * 4, none⟩) (n - k) (c - k)) (es.drop k) := by
  obtain ⟨ao, cap, e, h1, h2, h3⟩ := h
  injection e with e1 e2 e3
  subst e1 e2 e3
  refine ⟨_, _, by rw [List.length_drop], by rw [List.length_drop]; omega, (fun h => by cases h), fun i hi => ?_⟩
  rw [List.length_drop] at hi
  obtain ⟨g', o', e, lt, r⟩ := h3 (k + i) (by omega)
  cases e
  refine ⟨g, o + k * 4, rfl, lt, ?_⟩
  rw [eN_drop, show o + k * 4 + i * 4 = o + (k + i) * 4 from by omega]
  exact r
theorem RdV.dropS {w : World} {ao : Option Addr} {n c : Nat} {es : List Ev} (h : RdV w (.slice ao n c) es) {k : Nat} (hk : k ≤ n) : RdV w (sliced ao k n c 4) (es.drop k) := by
  have h' := h
  obtain ⟨ao', cap, e, h1, h2, h3⟩ := h'
  injection e with e1 e2 e3
  subst e1 e2 e3
  unfold sliced
  by_cases hc : c = k
  · rw [if_pos hc]
    exact ⟨ao, c - k, by rw [List.length_drop], by rw [List.length_drop]; omega, fun _ => by omega, fun i hi => by rw [List.length_drop] at hi; omega⟩
  · rw [if_neg hc]
    cases ao with
    | none => exact absurd (h2 rfl) (by omega)
    | some ad =>
      by_cases h0 : k = 0
      · subst h0
        show RdV w (.slice (some (ad.add (0 * 4))) _ _) _
        rw [show ad.add (0 * 4) = ad from by unfold Addr.add; rw [if_pos (by omega)], List.drop_zero, Nat.sub_zero, Nat.sub_zero]
        exact h
      · obtain ⟨g, o, e, -, -⟩ := h3 0 (by omega)
        injection e with e
        subst e
        show RdV w (.slice (some (Addr.add ⟨g, o, none⟩ (k * 4))) _ _) _
        rw [show Addr.add ⟨g, o, none⟩ (k * 4) = ⟨g, o + k * 4, none⟩ from by unfold Addr.add; rw [if_neg (by omega)]]
        exact h.drop hk
end Go.Proofs.Ytmhjghaipfijdab
