/-
  Ours: a portfolio as data, and its telling (no program).
-/
import Derived.Test.YtdbjjeaflfoppaaWirPutL
namespace Go.Proofs.Ytdbjjeaflfoppaa
open Go.RowKit

namespace WsM
/-- A plan's row; a loan; a notice (its five numbers); a portfolio. -/
structure Ins where
  due : Int
  it : Int
  pr : Int
  mr : Bool
structure Ln where
  id : Int
  tm : List Int
  pl : List Ins
  bk : List Int
  st : Int
  su : Bool
  cs : List Int
  d3 : List Int
  la : List Int
  hl : Bool
  c2 : List Int
structure Nt where
  f : List Int
  ak : Bool
structure Po where
  td : Int
  ls : List Ln
  ns : List Nt
structure Ins.Ok (i : Ins) : Prop where
  f : I64s [i.due, i.it, i.pr]
structure Ln.Ok (l : Ln) : Prop where
  id : I64s [l.id]
  tmL : l.tm.length = 6
  tm : I64s l.tm
  pl : ∀ i ∈ l.pl, i.Ok
  bkL : l.bk.length = 12
  bk : I64s l.bk
  st : I64s [l.st]
  csL : l.cs.length = 13
  cs : I64s l.cs
  d3L : l.d3.length = 3
  d3 : I64s l.d3
  laL : l.la.length = 5
  la : I64s l.la
  c2L : l.c2.length = 2
  c2 : I64s l.c2
structure Nt.Ok (n : Nt) : Prop where
  fL : n.f.length = 5
  f : I64s n.f
structure Po.Ok (p : Po) : Prop where
  td : I64s [p.td]
  ls : ∀ l ∈ p.ls, l.Ok
  ns : ∀ n ∈ p.ns, n.Ok

def insB (i : Ins) : List Nat := putFs [i.due, i.it, i.pr] ++ putB i.mr
def plB (l : List Ins) : List Nat := put l.length ++ l.flatMap insB
def csB (l : Ln) : List Nat := putI l.st ++ (putB l.su ++ putFs l.cs)
def lnB (l : Ln) : List Nat := putI l.id ++ (putFs l.tm ++ (plB l.pl ++ (putFs l.bk ++ (csB l ++ (putFs l.d3 ++ (putFs l.la ++ (putB l.hl ++ putFs l.c2)))))))
def ntB (n : Nt) : List Nat := putFs n.f
def owB (n : Nt) : List Nat := ntB n ++ putB n.ak
def poB (p : Po) : List Nat := putI p.td ++ ((put p.ls.length ++ p.ls.flatMap lnB) ++ (put p.ns.length ++ p.ns.flatMap owB))

theorem putI_pin {x y : Int} {r s : List Nat} (h : putI x ++ r = putI y ++ s) : x = y ∧ r = s := by
  obtain ⟨e, e2⟩ := put_inj _ _ _ _ h
  exact ⟨by rw [← unzz_zz x, e, unzz_zz], e2⟩
theorem putFs_pin : ∀ {xs ys : List Int} {r s : List Nat}, xs.length = ys.length → putFs xs ++ r = putFs ys ++ s → xs = ys ∧ r = s
  | [], [], r, s, _, h => ⟨rfl, by simpa [putFs] using h⟩
  | x :: xs, y :: ys, r, s, hl, h => by
    simp only [putFs, List.flatMap_cons, List.append_assoc] at h
    obtain ⟨e1, h1⟩ := putI_pin h
    obtain ⟨e2, h2⟩ := putFs_pin (xs := xs) (ys := ys) (by simpa using hl) h1
    exact ⟨by rw [e1, e2], h2⟩
  | [], _ :: _, _, _, hl, _ => by simp at hl
  | _ :: _, [], _, _, hl, _ => by simp at hl
theorem putB_pin {a b : Bool} {r s : List Nat} (h : putB a ++ r = putB b ++ s) : a = b ∧ r = s := by
  cases a <;> cases b <;> simp [putB] at h <;> exact ⟨rfl, h⟩
/-- A telling whose end can be seen. -/
def Pin {α : Type} (Ok : α → Prop) (f : α → List Nat) : Prop := ∀ x y r s, Ok x → Ok y → f x ++ r = f y ++ s → x = y ∧ r = s
theorem flat_pin {α : Type} {Ok : α → Prop} {f : α → List Nat} (hf : Pin Ok f) : ∀ (xs ys : List α) (r s : List Nat), xs.length = ys.length → (∀ x ∈ xs, Ok x) → (∀ y ∈ ys, Ok y) → xs.flatMap f ++ r = ys.flatMap f ++ s → xs = ys ∧ r = s
  | [], [], r, s, _, _, _, h => ⟨rfl, by simpa using h⟩
  | x :: xs, y :: ys, r, s, hl, hx, hy, h => by
    simp only [List.flatMap_cons, List.append_assoc] at h
    obtain ⟨e1, h1⟩ := hf x y _ _ (hx x (by simp)) (hy y (by simp)) h
    obtain ⟨e2, h2⟩ := flat_pin hf xs ys r s (by simpa using hl) (fun z hz => hx z (by simp [hz])) (fun z hz => hy z (by simp [hz])) h1
    exact ⟨by rw [e1, e2], h2⟩
  | [], _ :: _, _, _, hl, _, _, _ => by simp at hl
  | _ :: _, [], _, _, hl, _, _, _ => by simp at hl
theorem list_pin {α : Type} {Ok : α → Prop} {f : α → List Nat} (hf : Pin Ok f) : Pin (fun xs : List α => ∀ x ∈ xs, Ok x) (fun xs => put xs.length ++ xs.flatMap f) := fun xs ys r s hx hy h => by
  simp only [List.append_assoc] at h
  obtain ⟨e1, h1⟩ := put_inj _ _ _ _ h
  exact flat_pin hf xs ys r s e1 hx hy h1
theorem ins_pin : Pin Ins.Ok insB := fun x y r s _ _ h => by
  unfold insB at h
  simp only [List.append_assoc] at h
  obtain ⟨e1, h1⟩ := putFs_pin (by simp) h
  obtain ⟨e2, h2⟩ := putB_pin h1
  simp at e1
  refine ⟨?_, h2⟩
  cases x; cases y; simp_all
theorem ln_pin : Pin Ln.Ok lnB := fun x y r s ox oy h => by
  unfold lnB csB at h
  simp only [List.append_assoc] at h
  obtain ⟨e1, h⟩ := putI_pin h
  obtain ⟨e2, h⟩ := putFs_pin (ox.tmL.trans oy.tmL.symm) h
  obtain ⟨e3, h⟩ := list_pin ins_pin x.pl y.pl _ _ ox.pl oy.pl (by simpa only [plB, List.append_assoc] using h)
  obtain ⟨e4, h⟩ := putFs_pin (ox.bkL.trans oy.bkL.symm) h
  obtain ⟨e5, h⟩ := putI_pin h
  obtain ⟨e6, h⟩ := putB_pin h
  obtain ⟨e7, h⟩ := putFs_pin (ox.csL.trans oy.csL.symm) h
  obtain ⟨e8, h⟩ := putFs_pin (ox.d3L.trans oy.d3L.symm) h
  obtain ⟨e9, h⟩ := putFs_pin (ox.laL.trans oy.laL.symm) h
  obtain ⟨e10, h⟩ := putB_pin h
  obtain ⟨e11, h⟩ := putFs_pin (ox.c2L.trans oy.c2L.symm) h
  refine ⟨?_, h⟩
  cases x; cases y; simp_all
theorem nt_pin : Pin Nt.Ok owB := fun x y r s ox oy h => by
  unfold owB ntB at h
  simp only [List.append_assoc] at h
  obtain ⟨e1, h⟩ := putFs_pin (ox.fL.trans oy.fL.symm) h
  obtain ⟨e2, h⟩ := putB_pin h
  refine ⟨?_, h⟩
  cases x; cases y; simp_all
theorem po_pin : Pin Po.Ok poB := fun x y r s ox oy h => by
  unfold poB at h
  simp only [List.append_assoc] at h
  obtain ⟨e1, h⟩ := putI_pin h
  obtain ⟨e2, h⟩ := list_pin ln_pin x.ls y.ls _ _ ox.ls oy.ls (by simpa only [List.append_assoc] using h)
  obtain ⟨e3, h⟩ := list_pin nt_pin x.ns y.ns _ _ ox.ns oy.ns (by simpa only [List.append_assoc] using h)
  refine ⟨?_, h⟩
  cases x; cases y; simp_all
/-- Two portfolios that may be are told alike just where they are equal. -/
theorem poB_inj {x y : Po} (ox : x.Ok) (oy : y.Ok) : poB x = poB y ↔ x = y := ⟨fun h => (po_pin x y [] [] ox oy (by rw [h])).1, fun h => by rw [h]⟩
theorem ntB_inj {x y : Nt} (ox : x.Ok) (oy : y.Ok) : ntB x = ntB y ↔ x.f = y.f := ⟨fun h => (putFs_pin (r := []) (s := []) (ox.fL.trans oy.fL.symm) (by unfold ntB at h; rw [h])).1, fun h => by unfold ntB; rw [h]⟩
end WsM
end Go.Proofs.Ytdbjjeaflfoppaa
