/-
  Ours: OutboxWindow (gen_ob8.py).
-/
import Derived.Test.YtjbmiihbgelpeaaObWiM
import Derived.OwnWalk
namespace Go.Proofs.Ytjbmiihbgelpeaa
open Go.RowKit ObM LedM PolM
set_option linter.unusedSimpArgs false

theorem zerosI (n : Nat) : (madeCells (Value.int .i64 0).cells (n * 1)).toList = (List.replicate n (0 : Int)).map iv := by
  apply List.ext_getElem?
  intro i
  rw [List.getElem?_map, List.getElem?_replicate]
  by_cases h : i < n
  · rw [if_pos h]
    simp [madeCells, h, Value.cells, Nat.mod_one]
    rfl
  · rw [if_neg h, List.getElem?_eq_none (by simp [madeCells]; omega)]
    rfl
theorem rowI_mark {base : Nat} {w : World} {g n cap : Nat} {xs : List Int} (h : RowV 3 base w (.slice (some ⟨g, 0, none⟩) n cap) (xs.map iv)) (i : Nat) (u : Int) : RowV 3 base (w.setCell ⟨g, i, none⟩ (.int .i64 u)) (.slice (some ⟨g, 0, none⟩) n cap) ((xs.set i u).map iv) := by
  have hn : n = (xs.map iv).length := by
    rcases h.2 with ⟨e, _⟩ | ⟨g', cap', cur, e, _⟩
    · cases e
    · injection e with e1 e2
  subst hn
  obtain ⟨r, _⟩ := World.ownsRow.stored h i (.int .i64 u)
  unfold RowV
  rw [List.map_set]
  simp only [List.length_set]
  exact r
/-- What the window's loops hold: the box, the counts; all else stays as it was in w3. -/
structure WS (R bm : Nat) (B : Nat → Prop) (l : List Int) (L : List En) (w3 : World) (n : Nat) (sn : List Int) (wr : World) : Prop where
  box : BoxV R bm B l L wr
  k : Kp (fun g => g = bm ∨ w3.heap.size ≤ g) w3 wr
  row : RowV 3 w3.heap.size wr (.slice (some ⟨w3.heap.size, 0, none⟩) n n) (sn.map iv)
section
variable {R bm : Nat} {B : Nat → Prop} {l : List Int} {L L' : List En} {w3 wr w4 : World} {n : Nat} {sn : List Int}
theorem WS.below (h : WS R bm B l L w3 n sn wr) (b : Below wr.heap.size wr w4) : WS R bm B l L w3 n sn w4 := ⟨h.box.below b, h.k.trans (Kp.of_below b (fun _ => False)) (fun _ _ q => q.elim), RowV.later h.row b⟩
theorem WS.post (h : WS R bm B l L w3 n sn wr) (p : OPost R bm B l wr L' B w4) : WS R bm B l L' w3 n sn w4 := by
  obtain ⟨es, c, hb, _⟩ := h.box.mp
  refine ⟨p.box, h.k.trans p.k (fun _ _ q => .inl q), RowV.kp h.row p.k (fun g hg q => ?_)⟩
  obtain ⟨_, cur, hc⟩ := own_heap h.row hg
  exact ne_map hc hb q
theorem WS.mark (h : WS R bm B l L w3 n sn wr) (hR : R < w3.heap.size) (hbm : bm < w3.heap.size) (hB : ∀ g, B g → g < w3.heap.size) (i : Nat) (u : Int) : WS R bm B l L w3 n (sn.set i u) (wr.setCell ⟨w3.heap.size, i, none⟩ (.int .i64 u)) := by
  have g := setCell_grown wr w3.heap.size i (.int .i64 u)
  have k : Kp (fun x => some w3.heap.size = some x) wr _ := Kp.of_grown g
  refine ⟨h.box.kp k (fun q => by injection q with q; omega) (fun q => by injection q with q; omega) (fun x hx q => by injection q with q; have := hB x hx; omega), h.k.trans k (fun x _ q => .inr (by injection q with q; omega)), rowI_mark h.row i u⟩
end
/-- What stands still in the window. -/
structure FX (R bm : Nat) (B : Nat → Prop) (L : List En) (w w3 : World) (Q : Nat) (pol : List Value) (hv : Value) (qs : List En) : Prop where
  r : R < w3.heap.size
  m : bm < w3.heap.size
  b : ∀ g, B g → g < w3.heap.size
  q : Blk Q 24 pol w3
  held : RdL 4 enL En.bv En.bs w3 hv qs
  mp : MapAt bm L w3
  bel : Below w.heap.size w w3
  ge : w.heap.size ≤ bm
section
variable {R bm : Nat} {B : Nat → Prop} {L : List En} {w w3 wr : World} {Q : Nat} {pol : List Value} {hv : Value} {qs : List En}
theorem cell_kz {bm : Nat} {L : List En} (m : MapAt bm L w3) (k : Kp (fun g => g = bm ∨ w3.heap.size ≤ g) w3 wr) {g o : Nat} {u : Value} (h : w3.cell? ⟨g, o, none⟩ = some u) : wr.cell? ⟨g, o, none⟩ = some u := by
  obtain ⟨es, c, hb, _⟩ := m
  have hl := World.block_lt_of_cell? _ _ h
  refine cell_kp k (fun q => ?_) h
  rcases q with q | q
  · have q' : g = bm := q
    subst q'
    simp [World.cell?, hb] at h
  · have : w3.heap.size ≤ g := q
    have : g < w3.heap.size := hl
    omega
theorem rd_kz {v : Value} {vs : List Value} {bm : Nat} {L : List En} (m : MapAt bm L w3) (k : Kp (fun g => g = bm ∨ w3.heap.size ≤ g) w3 wr) (h : Rd w3 v vs) : Rd wr v vs := by
  obtain ⟨ao, cap, e, h1, h2, h3⟩ := h
  refine ⟨ao, cap, e, h1, h2, fun i hi => ?_⟩
  obtain ⟨g, o, e1, lt, e2⟩ := h3 i hi
  exact ⟨g, o, e1, Nat.lt_of_lt_of_le lt k.size, cell_kz m k e2⟩
theorem FX.heldk (f : FX R bm B L w w3 Q pol hv qs) (k : Kp (fun g => g = bm ∨ w3.heap.size ≤ g) w3 wr) : RdL 4 enL En.bv En.bs wr hv qs := by
  obtain ⟨a, c, e, hc, H⟩ := f.held
  refine ⟨a, c, e, hc, fun i x hx => ?_⟩
  obtain ⟨g, o, e1, lt, h1, h2, h3⟩ := H i x hx
  exact ⟨g, o, e1, Nat.lt_of_lt_of_le lt k.size, fun j u hu => cell_kz f.mp k (h1 j u hu), rd_kz f.mp k h2, h3⟩
theorem FX.polk (f : FX R bm B L w w3 Q pol hv qs) (k : Kp (fun g => g = bm ∨ w3.heap.size ≤ g) w3 wr) : Blk Q 24 pol wr := by
  obtain ⟨es, c, hb, _⟩ := f.mp
  refine f.q.kp k (fun q => ?_)
  rcases q with q | q
  · exact ne_map f.q hb q
  · have := f.q.lt; omega
theorem FX.below (f : FX R bm B L w w3 Q pol hv qs) (k : Kp (fun g => g = bm ∨ w3.heap.size ≤ g) w3 wr) : Below w.heap.size w wr := by
  have g : Kp (fun g => w.heap.size ≤ g) w wr := (Kp.of_below f.bel _).trans k (fun x hx q => by
    rcases q with q | q
    · have := f.ge; omega
    · have := f.bel.size; omega)
  exact g.below (fun g q => q)
end
end Go.Proofs.Ytjbmiihbgelpeaa
