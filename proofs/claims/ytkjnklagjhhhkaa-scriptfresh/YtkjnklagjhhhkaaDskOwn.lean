/-
  Ours: blocks, rows that are cut, and what a call may change.
-/
import Derived.Test.YtkjnklagjhhhkaaProg
import Derived.Test.YtkjnklagjhhhkaaWirOwn
import Derived.Laws.CopyOwn
import Derived.Lib.AppendZerosOnto
import Derived.Deep.Cut
namespace Go.Proofs.Ytkjnklagjhhhkaa
open Go.RowKit

theorem infoB : (Try.prog.info? 5).map (fun i => (i.zero, i.size, i.bytes)) = some (some (.int .u8 0), 1, 1) := by kernel_rfl
theorem underB : Try.prog.underlying 22 = some (.slice 5) := by kernel_rfl
theorem sizeB : (Try.prog.info? 5).map (·.size) = some 1 := by kernel_rfl

def Blk (G : Nat) (ty : TypeId) (cs : List Value) (w : World) : Prop := w.heap[G]? = some (.cells cs.toArray ty (0, 0))
theorem Blk.lt {G : Nat} {ty : TypeId} {cs : List Value} {w : World} (h : Blk G ty cs w) : G < w.heap.size := (Array.getElem?_eq_some_iff.1 h).1
theorem Blk.cell {G : Nat} {ty : TypeId} {cs : List Value} {w : World} (h : Blk G ty cs w) (i : Nat) (u : Value) (hi : cs[i]? = some u) : w.cell? ⟨G, i, none⟩ = some u := by
  simp [World.cell?, show w.heap[G]? = _ from h, hi]
theorem Blk.fz {G : Nat} {ty : TypeId} {cs : List Value} {w : World} (h : Blk G ty cs w) (i : Nat) : w.frozen? ⟨G, i, none⟩ = false := by simp [World.frozen?, show w.heap[G]? = _ from h]
theorem Blk.grown {G g : Nat} {ty : TypeId} {cs : List Value} {w w' : World} (h : Blk G ty cs w) (hb : w.grownBy w' (some g)) (hg : g ≠ G) : Blk G ty cs w' :=
  (hb.block G h.lt (fun e => hg (by injection e with e; exact e.symm))).trans h
theorem Blk.below {G : Nat} {ty : TypeId} {cs : List Value} {w w' : World} (h : Blk G ty cs w) (hb : Below w.heap.size w w') : Blk G ty cs w' := (hb.block G h.lt).trans h
theorem Blk.set {G i : Nat} {ty : TypeId} {cs : List Value} {w : World} (h : Blk G ty cs w) (u : Value) : Blk G ty (cs.set i u) (w.setCell ⟨G, i, none⟩ u) := by
  have := heap_setCell_same w G i cs.toArray ty u h
  unfold Blk
  rw [this]
  simp
theorem Blk.new (ty : TypeId) (cs : List Value) (w : World) : Blk w.heap.size ty cs (w.alloc (.cells cs.toArray ty)) := (MapKept.heap_alloc w _).1
theorem setCell_grown (w : World) (R i : Nat) (u : Value) : w.grownBy (w.setCell ⟨R, i, none⟩ u) (some R) := ⟨rfl, rfl, rfl, Nat.le_of_eq (by simp), fun k _ hk => Below.heap_setCell _ _ _ _ (fun e => hk (by rw [e]))⟩

theorem RowV.cut {e : TypeId} {base : Nat} {w : World} {a : Option Addr} {n c : Nat} {xs : List Value} (h : RowV e base w (.slice a n c) xs) {k : Nat} (hk : k ≤ n) : RowV e base w (.slice a k c) (xs.take k) := by
  obtain ⟨h0, h⟩ := h
  rcases h with ⟨e1, e2⟩ | ⟨g, cap, cur, e1, hb, hg, h1, h2, h3, h4⟩
  · cases e1
    obtain rfl : k = 0 := by omega
    exact ⟨by simp, .inl ⟨rfl, by simp⟩⟩
  · injection e1 with e1 e2 e3
    subst e1 e2 e3
    have hl : (xs.take k).length = k := by rw [List.length_take]; omega
    refine ⟨by simp, .inr ⟨g, c, cur, by rw [hl], hb, hg, by omega, h2, h3, ?_⟩⟩
    rw [hl, ← h4, List.take_take]
    congr 1
    omega

/-- What a call leaves: all blocks but those of M. -/
structure Kp (M : Nat → Prop) (w w' : World) : Prop where
  os : w'.os = w.os
  tape : w'.tape = w.tape
  output : w'.output = w.output
  size : w.heap.size ≤ w'.heap.size
  block : ∀ k, k < w.heap.size → ¬ M k → w'.heap[k]? = w.heap[k]?
theorem Kp.refl (M : Nat → Prop) (w : World) : Kp M w w := ⟨rfl, rfl, rfl, Nat.le_refl _, fun _ _ _ => rfl⟩
theorem Kp.trans {M N : Nat → Prop} {a b c : World} (h : Kp M a b) (k : Kp N b c) (hN : ∀ g, g < a.heap.size → N g → M g) : Kp M a c :=
  ⟨k.os.trans h.os, k.tape.trans h.tape, k.output.trans h.output, Nat.le_trans h.size k.size, fun i hi hm => (k.block i (Nat.lt_of_lt_of_le hi h.size) (fun hn => hm (hN i hi hn))).trans (h.block i hi hm)⟩
theorem Kp.mono {M N : Nat → Prop} {a b : World} (h : Kp M a b) (hN : ∀ g, g < a.heap.size → M g → N g) : Kp N a b := ⟨h.os, h.tape, h.output, h.size, fun i hi hm => h.block i hi (fun hn => hm (hN i hi hn))⟩
theorem Kp.of_grown {a b : World} {row : Option Nat} (h : a.grownBy b row) : Kp (fun g => row = some g) a b := ⟨h.os, h.tape, h.output, h.size, fun i hi hm => h.block i hi (fun e => hm e.symm)⟩
theorem Kp.of_below {a b : World} (h : Below a.heap.size a b) (M : Nat → Prop) : Kp M a b := ⟨h.os, h.tape, h.output, h.size, fun i hi _ => h.block i hi⟩
theorem Kp.below {a b : World} {M : Nat → Prop} (h : Kp M a b) (hM : ∀ g, M g → a.heap.size ≤ g) : Below a.heap.size a b := ⟨h.os, h.tape, h.output, h.size, fun i hi => h.block i hi (fun hm => by have := hM i hm; omega)⟩
theorem Kp.drewN {M : Nat → Prop} {w w' : World} (h : Kp M w w') (n : Nat) : Kp M w (w'.drewN n) := ⟨h.os, h.tape, h.output, h.size, h.block⟩
theorem Blk.kp {G : Nat} {ty : TypeId} {cs : List Value} {w w' : World} {M : Nat → Prop} (h : Blk G ty cs w) (k : Kp M w w') (hm : ¬ M G) : Blk G ty cs w' := (k.block G h.lt hm).trans h
theorem RowV.kp {e : TypeId} {base : Nat} {w w' : World} {v : Value} {xs : List Value} {M : Nat → Prop} (h : RowV e base w v xs) (k : Kp M w w') (hm : ∀ g, v.ownBlock = some g → ¬ M g) : RowV e base w' v xs := by
  refine ⟨h.1, ?_⟩
  rcases h.2 with hn | ⟨g, cap, cur, hv, hg, hh, rest⟩
  · exact .inl hn
  · have lt : g < w.heap.size := (Array.getElem?_eq_some_iff.1 hh).1
    exact .inr ⟨g, cap, cur, hv, hg, (k.block g lt (hm g (by rw [hv]; rfl))).trans hh, rest⟩
theorem Rd.kp {w w' : World} {v : Value} {vs : List Value} {M : Nat → Prop} (h : Rd w v vs) (k : Kp M w w') (hm : ∀ g, v.ownBlock = some g → ¬ M g) : Rd w' v vs := by
  obtain ⟨ao, cap, e, h1, h2, h3⟩ := h
  refine ⟨ao, cap, e, h1, h2, fun i hi => ?_⟩
  obtain ⟨g, o, e1, lt, e2⟩ := h3 i hi
  refine ⟨g, o, e1, Nat.lt_of_lt_of_le lt k.size, ?_⟩
  rw [← e2]
  have hb := k.block g lt (hm g (by rw [e, e1]; rfl))
  simp only [World.cell?, hb]
theorem Rd.cut {w : World} {a : Option Addr} {n c : Nat} {vs : List Value} (h : Rd w (.slice a n c) vs) {k : Nat} (hk : k ≤ n) : Rd w (.slice a k c) (vs.take k) := by
  obtain ⟨ao, cp, e, h1, h2, h3⟩ := h
  injection e with e1 e2 e3
  subst e1 e2 e3
  have hm : (vs.take k).length = k := by rw [List.length_take]; omega
  refine ⟨a, c, by rw [hm], by omega, h2, fun i hi => ?_⟩
  obtain ⟨b, off, e1, e2, e3⟩ := h3 i (by omega)
  refine ⟨b, off, e1, e2, ?_⟩
  rw [e3]
  simp
theorem Rd.block {w : World} {v : Value} {vs : List Value} (h : Rd w v vs) (h0 : 0 < vs.length) {g : Nat} (hg : v.ownBlock = some g) : g < w.heap.size := by
  obtain ⟨ao, cap, rfl, _, _, H⟩ := h
  obtain ⟨g', o, rfl, lt, _⟩ := H 0 h0
  simp [Value.ownBlock] at hg
  omega
theorem one_bv (bs : List Nat) : ∀ u ∈ bs.map bv, u.oneCell' = true := fun u hu => by obtain ⟨x, _, rfl⟩ := List.mem_map.1 hu; rfl
def NewB (w : World) (bs : List Nat) (e : Ending) (w' : World) : Prop := ∃ v, e = .returned v ∧ RowB 5 w.heap.size w' v bs ∧ Below w.heap.size w w'

end Go.Proofs.Ytkjnklagjhhhkaa
