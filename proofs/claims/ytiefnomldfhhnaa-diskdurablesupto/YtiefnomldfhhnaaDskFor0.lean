/-
  Ours: DiskForgets' walk.
-/
import Derived.Test.YtiefnomldfhhnaaDskSame
namespace Go.Proofs.Ytiefnomldfhhnaa
open Go.RowKit

/-- A script that came in. -/
def RdO (w : World) (v : Value) (os : List OpD) : Prop :=
  ∃ ao cap, v = .slice ao os.length cap ∧ ∀ i o, os[i]? = some o → ∃ g off x c, ao = some ⟨g, off, none⟩ ∧ g < w.heap.size ∧
    w.cell? ⟨g, off + i * 6, none⟩ = some (.int .i64 o.kind) ∧ w.cell? ⟨g, off + i * 6 + 1, none⟩ = some (.bool o.other) ∧ w.cell? ⟨g, off + i * 6 + 2, none⟩ = some (.int .i64 o.file) ∧ w.cell? ⟨g, off + i * 6 + 3, none⟩ = some (.int .i64 o.a) ∧ w.cell? ⟨g, off + i * 6 + 4, none⟩ = some (.int .i64 o.b) ∧ w.cell? ⟨g, off + i * 6 + 5, none⟩ = some (.slice x o.data.length c) ∧ RdB w (.slice x o.data.length c) o.data
/-- An operation of a script, whatever was made since. -/
theorem RdO.op {w : World} {ao : Option Addr} {n cap : Nat} {os : List OpD} (h : RdO w (.slice ao n cap) os) (hl : ∀ o ∈ os, o.data.length ≤ 1048576) (i : Nat) (hi : i < n) : ∃ (o : OpD) (g off : Nat) (x : Option Addr) (c : Nat), ao = some ⟨g, off, none⟩ ∧ o.data.length ≤ 1048576 ∧ ∀ w', Below w.heap.size w w' →
    w'.cell? ⟨g, off + i * 6, none⟩ = some (.int .i64 o.kind) ∧ w'.cell? ⟨g, off + i * 6 + 1, none⟩ = some (.bool o.other) ∧ w'.cell? ⟨g, off + i * 6 + 2, none⟩ = some (.int .i64 o.file) ∧ w'.cell? ⟨g, off + i * 6 + 3, none⟩ = some (.int .i64 o.a) ∧ w'.cell? ⟨g, off + i * 6 + 4, none⟩ = some (.int .i64 o.b) ∧ w'.cell? ⟨g, off + i * 6 + 5, none⟩ = some (.slice x o.data.length c) ∧ RdB w' (.slice x o.data.length c) o.data := by
  obtain ⟨ao', cap', e, H⟩ := h
  injection e with e1 e2 e3
  subst e1 e2
  have ho : os[i]? = some os[i] := List.getElem?_eq_getElem hi
  obtain ⟨g, off, x, c, e1, lt, c0, c1, c2, c3, c4, c5, r⟩ := H i _ ho
  refine ⟨os[i], g, off, x, c, e1, hl _ (List.getElem_mem _), fun w' hb => ?_⟩
  have cc : ∀ j, w'.cell? ⟨g, j, none⟩ = w.cell? ⟨g, j, none⟩ := fun j => hb.cell (p := ⟨g, j, none⟩) lt
  exact ⟨(cc _).trans c0, (cc _).trans c1, (cc _).trans c2, (cc _).trans c3, (cc _).trans c4, (cc _).trans c5, Rd.later r hb⟩

/-- A row of so many cells. -/
def HasRow (w : World) (v : Value) (n : Nat) : Prop := ∃ ys : List Value, ys.length = n ∧ RowV 5 0 w v ys
theorem HasRow.set {w : World} {v : Value} {n : Nat} (h : HasRow w v n) (g i : Nat) (u : Value) : HasRow (w.setCell ⟨g, i, none⟩ u) v n := by
  obtain ⟨ys, h1, h2⟩ := h
  rcases h2.2 with ⟨e, e0⟩ | ⟨g', cap, cur, e, hb, hg, rest⟩
  · exact ⟨ys, h1, h2.1, .inl ⟨e, e0⟩⟩
  · by_cases hgg : g' = g
    · subst hgg
      subst e
      obtain ⟨r, _⟩ := World.ownsRow.stored h2 i u
      exact ⟨ys.set i u, by rw [List.length_set, h1], by unfold RowV; rw [List.length_set]; exact r⟩
    · refine ⟨ys, h1, h2.kp (setCell_kp w g i u) (fun x hx e2 => ?_)⟩
      rw [e] at hx
      simp [Value.ownBlock] at hx
      omega
theorem HasRow.at {w : World} {a : Option Addr} {n m c : Nat} (h : HasRow w (.slice a n c) m) {i : Nat} (hi : i < m) : ∃ g u, a = some ⟨g, 0, none⟩ ∧ w.cell? ⟨g, i, none⟩ = some u ∧ w.frozen? ⟨g, i, none⟩ = false := by
  obtain ⟨ys, h1, h2⟩ := h
  rcases h2.2 with ⟨e, e0⟩ | ⟨g', cap, cur, e, hb, hg, h3, h4, h5, h6⟩
  · omega
  · injection e with e1 e2 e3
    subst e1
    have hlt : i < cur.size := by omega
    exact ⟨g', cur[i], rfl, by simp [World.cell?, hg, hlt], by simp [World.frozen?, hg]⟩
end Go.Proofs.Ytiefnomldfhhnaa
