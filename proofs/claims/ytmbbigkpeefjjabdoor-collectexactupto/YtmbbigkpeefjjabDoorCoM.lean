/-
  Ours: a case and an event as data, the seven rules and Step: pure, with the wraps that the machine's numbers have.
-/
import Derived.Test.YtmbbigkpeefjjabDoorPolM
namespace Go.Proofs.YtmbbigkpeefjjabDoor
namespace CoM
open LedM PolM Go.RowKit

structure Cs where
  st : Int
  su : Bool
  cy : Int
  si : Int
  dl : Int
  pr : Int
  pd : Int
  pa : Int
  pg : Int
  ke : Int
  br : Int
  cu : Int
  re : Int
  cf : Int
  lf : Int
structure Ev where
  k : Int
  t : Int
  d : Int
  a : Int

def fresh : Cs := ⟨1, false, 0, 0, 0, 0, 0, 0, 0, 0, 0, 0, 0, 0, 0⟩
def opn (c : Cs) : Bool := decide (c.st = 3 ∨ c.st = 4 ∨ c.st = 5)
def ovr (c : Cs) : Bool := decide (c.st = 8 ∨ c.st = 9)
def isD (t : Int) : Bool := decide (1 ≤ t ∧ t ≤ 3652059)
def clr (c : Cs) : Cs := { c with pd := 0, pa := 0, pg := 0 }
def endC (st : Int) (c : Cs) : Cs := { c with pd := 0, pa := 0, pg := 0, su := false, si := 0, dl := 0, pr := 0, cf := 0, st := st }
def curd (c : Cs) : Cs := endC 6 { c with cu := wrap64 (c.cu + 1) }
def endP (c : Cs) : Cs := { c with pd := 0, pa := 0, pg := 0, st := if c.su then 5 else 3 }
def brk (c : Cs) : Cs := endP { c with br := wrap64 (c.br + 1) }
def kept (c : Cs) : Cs := endP { c with ke := wrap64 (c.ke + 1) }
def opC (co t : Int) (c : Cs) : Cs := { c with cy := wrap64 (c.cy + 1), si := t, dl := wrap64 (t + co), pr := 0, cf := 0, st := 3 }
def susp (c : Cs) : Cs := { c with su := true, st := if c.st = 3 then 5 else c.st }

/-- A case and the actions so far. -/
abbrev Mc : Type := Cs × List Int
def lok (gr co : Int) (e : Ev) (x : Mc) : Mc :=
  if gr < e.d then (opC co e.t x.1, x.2 ++ [2]) else if 0 < e.d then ({ x.1 with st := 2 }, x.2) else if x.1.st = 2 then ({ x.1 with st := 1 }, x.2) else x
def age1 (e : Ev) (x : Mc) : Mc := if x.1.st = 4 ∧ x.1.pd < e.t then (brk x.1, x.2 ++ [1]) else x
def age3 (gr co : Int) (e : Ev) (x : Mc) : Mc := if opn x.1 then x else lok gr co e x
def age4 (na : Int) (e : Ev) (x : Mc) : Mc := if opn x.1 = true ∧ x.1.su = false ∧ na ≤ e.d then (susp x.1, x.2 ++ [3]) else x
def age5 (e : Ev) (x : Mc) : Mc := if opn x.1 = true ∧ x.1.dl ≤ e.t then (endC 8 x.1, x.2 ++ [4]) else x
def ageM (l : List Int) (e : Ev) (x : Mc) : Mc :=
  if opn (age1 e x).1 = true ∧ e.d = 0 then (curd (age1 e x).1, (age1 e x).2 ++ [6])
  else age5 e (age4 (l.getD 2 0) e (age3 (l.getD 1 0) (l.getD 3 0) e (age1 e x)))
def pay1 (a : Int) (x : Mc) : Mc :=
  if x.1.st = 4 then (if a < wrap64 (x.1.pa - x.1.pg) then ({ x.1 with pg := wrap64 (x.1.pg + a) }, x.2) else (kept x.1, x.2 ++ [5])) else x
def paidM (e : Ev) (x : Mc) : Mc :=
  if opn (pay1 e.a x).1 = true ∧ e.d = 0 then (curd (pay1 e.a x).1, (pay1 e.a x).2 ++ [6])
  else if (pay1 e.a x).1.st = 2 ∧ e.d = 0 then ({ (pay1 e.a x).1 with st := 1 }, (pay1 e.a x).2) else pay1 e.a x
def retM (e : Ev) (x : Mc) : Mc := if x.1.st = 4 then ({ x.1 with pg := wrap64 (x.1.pg - (if x.1.pg < e.a then x.1.pg else e.a)) }, x.2) else x
def proM (e : Ev) (x : Mc) : Mc := ({ x.1 with pr := wrap64 (x.1.pr + 1), pd := wrap64 (e.t + e.d), pa := e.a, pg := 0, dl := wrap64 (x.1.dl + e.d), st := 4 }, x.2)
def resM (x : Mc) : Mc := (endC 7 { x.1 with re := wrap64 (x.1.re + 1) }, x.2 ++ [7])
def feeM (e : Ev) (x : Mc) : Mc := ({ x.1 with cf := wrap64 (x.1.cf + e.a), lf := wrap64 (x.1.lf + e.a) }, x.2)
def shut1 (x : Mc) : Mc := if opn x.1 then (curd x.1, x.2 ++ [6]) else x
def shutM (x : Mc) : Mc := ({ (shut1 x).1 with st := 9 }, (shut1 x).2 ++ [8])

/-- What a rule answers: the error, and where it is 0 the case and the actions. -/
abbrev An : Type := Int × Mc
def ageR (l : List Int) (e : Ev) (x : Mc) : An := if isD e.t = false ∨ e.d < 0 then (2, x) else if ovr x.1 then (130, x) else (0, ageM l e x)
def paidR (e : Ev) (x : Mc) : An := if e.a < 1 then (4, x) else if e.d < 0 then (2, x) else if ovr x.1 then (130, x) else (0, paidM e x)
def retR (e : Ev) (x : Mc) : An := if e.a < 1 then (4, x) else if ovr x.1 then (130, x) else (0, retM e x)
def proR (l : List Int) (e : Ev) (x : Mc) : An :=
  if isD e.t = false ∨ e.d < 1 ∨ l.getD 10 0 < e.d then (2, x) else if e.a < 1 then (4, x) else if ovr x.1 then (130, x) else if opn x.1 = false then (131, x)
  else if x.1.st = 4 then (132, x) else if l.getD 9 0 ≤ x.1.pr then (133, x) else (0, proM e x)
def resR (l : List Int) (x : Mc) : An := if ovr x.1 then (130, x) else if opn x.1 = false then (131, x) else if l.getD 11 0 ≤ x.1.re then (133, x) else (0, resM x)
def feeR (l : List Int) (e : Ev) (x : Mc) : An :=
  if e.a < 1 then (4, x) else if ovr x.1 then (130, x) else if opn x.1 = false then (131, x) else if x.1.st = 4 then (132, x)
  else if wrap64 (l.getD 7 0 - x.1.cf) < e.a ∨ wrap64 (l.getD 8 0 - x.1.lf) < e.a then (133, x) else (0, feeM e x)
def shutR (x : Mc) : An := if ovr x.1 then (130, x) else (0, shutM x)
def ruleR (l : List Int) (e : Ev) (x : Mc) : An :=
  if e.k = 1 then ageR l e x else if e.k = 2 then paidR e x else if e.k = 3 then retR e x else if e.k = 4 then proR l e x
  else if e.k = 5 then resR l x else if e.k = 6 then feeR l e x else if e.k = 7 then shutR x else (2, x)
def stepM (l hs : List Int) (c : Cs) (e : Ev) : An := if good l hs then ruleR l e (c, []) else (120, (c, []))
/-- What Step answers: with an error the case as it was, and no actions. -/
def stepA (l hs : List Int) (c : Cs) (e : Ev) : An := if (stepM l hs c e).1 = 0 then stepM l hs c e else ((stepM l hs c e).1, (c, []))
end CoM

open CoM
def csL (c : Cs) : List Value := [.int .i64 c.st, .bool c.su, .int .i64 c.cy, .int .i64 c.si, .int .i64 c.dl, .int .i64 c.pr, .int .i64 c.pd, .int .i64 c.pa, .int .i64 c.pg, .int .i64 c.ke, .int .i64 c.br, .int .i64 c.cu, .int .i64 c.re, .int .i64 c.cf, .int .i64 c.lf]
abbrev csV (c : Cs) : Value := .agg (csL c).toArray
def evL (e : Ev) : List Value := [.int .i64 e.k, .int .i64 e.t, .int .i64 e.d, .int .i64 e.a]
abbrev evV (e : Ev) : Value := .agg (evL e).toArray
theorem csL_len (c : Cs) : (csL c).length = 15 := rfl
theorem csL_one (c : Cs) : ∀ v ∈ csL c, v.oneCell' = true := fun v hv => by
  simp only [csL, List.mem_cons, List.not_mem_nil, or_false] at hv
  rcases hv with rfl | rfl | rfl | rfl | rfl | rfl | rfl | rfl | rfl | rfl | rfl | rfl | rfl | rfl | rfl <;> rfl
theorem evL_one (e : Ev) : ∀ v ∈ evL e, v.oneCell' = true := fun v hv => by
  simp only [evL, List.mem_cons, List.not_mem_nil, or_false] at hv
  rcases hv with rfl | rfl | rfl | rfl <;> rfl
end Go.Proofs.YtmbbigkpeefjjabDoor
