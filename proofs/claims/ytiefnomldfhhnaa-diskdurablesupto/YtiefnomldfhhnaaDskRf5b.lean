/-
  Ours: a file of the reference's disk laid anew.
-/
import Derived.Test.YtiefnomldfhhnaaDskRf5
namespace Go.Proofs.Ytiefnomldfhhnaa
open Go.RowKit

theorem rf_put {T : Nat → Prop} {t : Dk} {x0 x1 p0 p1 xa s X0 X1 P0 P1 : Sl} {cn : Int} {w w' : World} {n : Int} {B : Nat} {b : List Nat} {d : Nat} (hn : n = 0 ∨ n = 1) (h : RfV T t x0 x1 p0 p1 xa cn w) (hb : Below w.heap.size w w') (hB : w.heap.size ≤ B) (hs : RowB 5 B w' s.v (b.take d)) (hd : b.drop d = [])
    (e : (if n = 0 then s else x0) = X0 ∧ (if n = 0 then x1 else s) = X1 ∧ (if n = 0 then Sl.z else p0) = P0 ∧ (if n = 0 then p1 else Sl.z) = P1) : RfNew T w (t.put n b d) X0 X1 P0 P1 xa cn w' := by
  have k := h.below hb
  rcases hn with rfl | rfl
  · simp only [if_true] at e
    obtain ⟨rfl, rfl, rfl, rfl⟩ := e
    refine RfNew.mk (t := t.put 0 b d) h.s hb (hs.mono (Nat.zero_le _)) k.d1 ?_ k.q1 k.ar (new_block hs hB) (fun g hg => .inl (h.t1 g hg)) nil_block (fun g hg => .inl (h.t3 g hg)) (fun g hg => .inl (h.t4 g hg))
    show RowB _ 0 w' Sl.z.v (b.drop d)
    rw [hd]; exact RowV.nil _ _ _
  · simp only [show ¬ ((1 : Int) = 0) by decide, if_false] at e
    obtain ⟨rfl, rfl, rfl, rfl⟩ := e
    refine RfNew.mk (t := t.put 1 b d) h.s hb k.d0 (hs.mono (Nat.zero_le _)) k.q0 ?_ k.ar (fun g hg => .inl (h.t0 g hg)) (new_block hs hB) (fun g hg => .inl (h.t2 g hg)) nil_block (fun g hg => .inl (h.t4 g hg))
    show RowB _ 0 w' Sl.z.v (b.drop d)
    rw [hd]; exact RowV.nil _ _ _
end Go.Proofs.Ytiefnomldfhhnaa
