/-
  Ours: frame.All: the iterator's word.
-/
import Derived.Test.YtcmfehabcklbpaaDoorFrmDec
import Derived.Test.YtcmfehabcklbpaaDoorFrmRange
import Derived.Shelf.RegionOpen
namespace Go.Proofs.YtcmfehabcklbpaaDoor
open Go.RowKit Go.Shelf
attribute [local go_sem] Oper.semAt_some

/-- Payloads with the places of their frames. -/
def places : Nat → List (List Nat) → List (Nat × List Nat)
  | _, [] => []
  | a, p :: ps => (a, p) :: places (a + p.length + 8) ps
def allL (bs : List Nat) : List (Nat × List Nat) := places 0 (CrcM.scan bs).1

/-- What is handed to yield: a place, and a payload where it lies. -/
structure Item where
  pl : Nat
  a : Option Addr
  c : Nat
  p : List Nat
def Item.v (x : Item) : Value := .slice x.a x.p.length x.c
def Item.d (x : Item) : Nat × List Nat := (x.pl, x.p)
def Item.enc (x : Item) : Array Value := #[.int .i64 (x.pl : Int), .slice x.a x.p.length x.c]
structure ItemOk (bs : List Nat) (base : Nat) (pre : List Item) (x : Item) (W : World) : Prop where
  row : RowB 5 base W x.v x.p
  apart : ∀ y ∈ pre, ∀ g, y.v.ownBlock = some g → x.v.ownBlock ≠ some g
  room : x.pl + x.p.length + 8 ≤ bs.length
  next : (pre.map Item.d ++ [x.d]) <+: allL bs

/-- What the iterator reads. -/
structure Env (bs : List Nat) (ov : Value) (Bo : Nat) (W : World) : Prop where
  rd : RdB W ov bs
  box : W.cell? ⟨Bo, 0, none⟩ = some ov
  tab : TabS W
theorem Env.below {bs : List Nat} {ov : Value} {Bo : Nat} {W W' : World} (h : Env bs ov Bo W) (hb : Below W.heap.size W W') : Env bs ov Bo W' :=
  ⟨Rd.later h.rd hb, (hb.cell (p := ⟨Bo, 0, none⟩) (World.block_lt_of_cell? W _ h.box)).trans h.box, h.tab.below hb⟩
theorem Env.still {bs : List Nat} {ov : Value} {Bo : Nat} {W W' : World} {K : Nat → Prop} (h : Env bs ov Bo W) (hs : Still K W W') (k0 : K 0) (k1 : K Bo) (k2 : ∀ g, ov.ownBlock = some g → K g) : Env bs ov Bo W' := by
  refine ⟨?_, (World.cell?_of_block (hs.same _ k1)).trans h.box, fun m hm => (World.cell?_of_block (hs.same _ k0)).trans (h.tab m hm)⟩
  obtain ⟨ao, cap, e, h1, h2, h3⟩ := h.rd
  refine ⟨ao, cap, e, h1, h2, fun i hi => ?_⟩
  obtain ⟨g, o, e1, lt, hc⟩ := h3 i hi
  refine ⟨g, o, e1, Nat.lt_of_lt_of_le lt hs.size, ?_⟩
  rw [World.cell?_of_block (hs.same g (k2 g (by rw [e, e1]; rfl))), hc]

theorem scan_step {bs : List Nat} {A : Nat} {pre : List Item} (hinv : pre.map Item.d ++ places A (CrcM.scan (bs.drop A)).1 = allL bs) (h : (CrcM.whole (bs.drop A)).1 ≠ 0) {x : Item} (hx : x.pl = A) (hp : x.p = CrcM.pay (bs.drop A)) :
    (pre ++ [x]).map Item.d ++ places (A + (CrcM.whole (bs.drop A)).1) (CrcM.scan (bs.drop (A + (CrcM.whole (bs.drop A)).1))).1 = allL bs ∧ (pre.map Item.d ++ [x.d]) <+: allL bs := by
  have pl := CrcM.pay_len h
  rw [CrcM.scan_some h] at hinv
  simp only [places] at hinv
  rw [List.drop_drop, show A + (CrcM.pay (bs.drop A)).length + 8 = A + (CrcM.whole (bs.drop A)).1 by omega] at hinv
  have e : x.d = (A, CrcM.pay (bs.drop A)) := by unfold Item.d; rw [hx, hp]
  refine ⟨?_, ?_⟩
  · rw [List.map_append, List.map_cons, List.map_nil, e, List.append_assoc]
    exact hinv
  · rw [e, ← hinv]
    exact ⟨_, by rw [List.append_assoc]; rfl⟩

end Go.Proofs.YtcmfehabcklbpaaDoor
