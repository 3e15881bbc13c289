/-
  Ours: the program's opFields.
-/
import Derived.Test.YtdbjjeaflfoppaaWirTakesB
namespace Go.Proofs.Ytdbjjeaflfoppaa
open Go.RowKit

/-- The fields of an operation of mask m, taken behind its kind. -/
def tkIf (b : Bool) (bs : List Nat) (st : Option Nat) : Int × Option Nat := if b then tkI bs st else (0, st)
def tkTf (b : Bool) (bs : List Nat) (st : Option Nat) : ByteArray × Option Nat := if b then tkT bs st else (⟨#[]⟩, st)
def opR (bs : List Nat) (st : Option Nat) : OpV × Option Nat :=
  let k := tkI bs st
  match fmask k.1 with
  | none => (⟨k.1, 0, 0, 0, 0, 0, ⟨#[]⟩⟩, none)
  | some m =>
    let a := tkIf (m % 2 == 1) bs k.2
    let b := tkIf (m / 2 % 2 == 1) bs a.2
    let c := tkIf (m / 4 % 2 == 1) bs b.2
    let d := tkIf (m / 8 % 2 == 1) bs c.2
    let e := tkIf (m / 16 % 2 == 1) bs d.2
    let f := tkTf (m / 32 % 2 == 1) bs e.2
    (⟨k.1, a.1, b.1, c.1, d.1, e.1, f.1⟩, f.2)

theorem RS.below {bs : List Nat} {R : Nat} {v : Value} {st : Option Nat} {w w' : World} (h : RS bs R v st w) (hb : Below w.heap.size w w') : RS bs R v st w' := by
  obtain ⟨p, hp, hq⟩ := h.c1
  have fr : ∀ i, w'.frozen? ⟨R, i, none⟩ = false := fun i => by
    rw [World.frozen?_of_block (hb.block R h.lt)]; exact h.fz i
  exact ⟨(hb.cell (p := ⟨R, 0, none⟩) h.lt).trans h.c0, ⟨p, (hb.cell (p := ⟨R, 1, none⟩) h.lt).trans hp, hq⟩, (hb.cell (p := ⟨R, 2, none⟩) h.lt).trans h.c2, fr, Nat.lt_of_lt_of_le h.lt hb.size, Rd.later h.rd hb, h.ap, h.le⟩
theorem RS.other {bs : List Nat} {R g : Nat} {v : Value} {st : Option Nat} {w w' : World} (h : RS bs R v st w) (hb : w.grownBy w' (some g)) (hR : g ≠ R) (hv : 0 < bs.length → v.ownBlock ≠ some g) : RS bs R v st w' := by
  have blk : w'.heap[R]? = w.heap[R]? := hb.block R h.lt (fun e => hR (by injection e with e; exact e.symm))
  obtain ⟨p, hp, hq⟩ := h.c1
  refine ⟨(World.cell?_of_block (a := ⟨R, 0, none⟩) blk).trans h.c0, ⟨p, (World.cell?_of_block (a := ⟨R, 1, none⟩) blk).trans hp, hq⟩, (World.cell?_of_block (a := ⟨R, 2, none⟩) blk).trans h.c2, fun i => ?_, Nat.lt_of_lt_of_le h.lt hb.size, Rd.grownN h.rd hb (by rw [List.length_map]; exact hv), h.ap, h.le⟩
  rw [World.frozen?_of_block blk]; exact h.fz i

/-- A block of cells. -/
def Blk (G : Nat) (ty : TypeId) (cs : List Value) (w : World) : Prop := w.heap[G]? = some (.cells cs.toArray ty (0, 0))
theorem Blk.lt {G : Nat} {ty : TypeId} {cs : List Value} {w : World} (h : Blk G ty cs w) : G < w.heap.size := (Array.getElem?_eq_some_iff.1 h).1
theorem Blk.cell {G : Nat} {ty : TypeId} {cs : List Value} {w : World} (h : Blk G ty cs w) (i : Nat) (u : Value) (hi : cs[i]? = some u) : w.cell? ⟨G, i, none⟩ = some u := by
  rw [cell_of_row w G _ cs.toArray ty (0, 0) h]; simpa using hi
theorem Blk.fz {G : Nat} {ty : TypeId} {cs : List Value} {w : World} (h : Blk G ty cs w) (i : Nat) : w.frozen? ⟨G, i, none⟩ = false := by simp [World.frozen?, show w.heap[G]? = _ from h]
theorem Blk.grown {G g : Nat} {ty : TypeId} {cs : List Value} {w w' : World} (h : Blk G ty cs w) (hb : w.grownBy w' (some g)) (hg : g ≠ G) : Blk G ty cs w' :=
  (hb.block G h.lt (fun e => hg (by injection e with e; exact e.symm))).trans h
theorem Blk.below {G : Nat} {ty : TypeId} {cs : List Value} {w w' : World} (h : Blk G ty cs w) (hb : Below w.heap.size w w') : Blk G ty cs w' := (hb.block G h.lt).trans h
theorem Blk.set {G i : Nat} {ty : TypeId} {cs : List Value} {w : World} (h : Blk G ty cs w) (u : Value) : Blk G ty (cs.set i u) (w.setCell ⟨G, i, none⟩ u) := by
  have := heap_setCell_same w G i cs.toArray ty u h
  unfold Blk
  rw [this]
  simp
theorem Blk.new (ty : TypeId) (cs : List Value) (w : World) : Blk w.heap.size ty cs (w.alloc (.cells cs.toArray ty)) := (MapKept.heap_alloc w _).1
end Go.Proofs.Ytdbjjeaflfoppaa
