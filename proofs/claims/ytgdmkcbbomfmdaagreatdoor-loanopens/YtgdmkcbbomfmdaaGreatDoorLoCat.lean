/-
  Ours: the deferred closure of attempt, in a frame that panics and in one that returns (gen_locat.py: THE SEAT's OWN NUMBERS).
-/
import Derived.Test.YtgdmkcbbomfmdaaGreatDoorPolM
import Derived.Test.YtgdmkcbbomfmdaaGreatDoorLedOwn
import Derived.Test.YtgdmkcbbomfmdaaGreatDoorLoBas
import Derived.LoopTactic
import Derived.Deep.RegionHeld3
namespace Go.Proofs.YtgdmkcbbomfmdaaGreatDoor
namespace CoM
open LedM PolM Go.RowKit

structure Cs where
  st : Int
  su : Bool
  cy : Int
  si : Int
  dl : Int
  pr : Int
  pd : Int
  pa : Int
  pg : Int
  ke : Int
  br : Int
  cu : Int
  re : Int
  cf : Int
  lf : Int
structure Ev where
  k : Int
  t : Int
  d : Int
  a : Int

def fresh : Cs := ⟨1, false, 0, 0, 0, 0, 0, 0, 0, 0, 0, 0, 0, 0, 0⟩
def opn (c : Cs) : Bool := decide (c.st = 3 ∨ c.st = 4 ∨ c.st = 5)
def ovr (c : Cs) : Bool := decide (c.st = 8 ∨ c.st = 9)
def isD (t : Int) : Bool := decide (1 ≤ t ∧ t ≤ 3652059)
def clr (c : Cs) : Cs := { c with pd := 0, pa := 0, pg := 0 }
def endC (st : Int) (c : Cs) : Cs := { c with pd := 0, pa := 0, pg := 0, su := false, si := 0, dl := 0, pr := 0, cf := 0, st := st }
def curd (c : Cs) : Cs := endC 6 { c with cu := wrap64 (c.cu + 1) }
def endP (c : Cs) : Cs := { c with pd := 0, pa := 0, pg := 0, st := if c.su then 5 else 3 }
def brk (c : Cs) : Cs := endP { c with br := wrap64 (c.br + 1) }
def kept (c : Cs) : Cs := endP { c with ke := wrap64 (c.ke + 1) }
def opC (co t : Int) (c : Cs) : Cs := { c with cy := wrap64 (c.cy + 1), si := t, dl := wrap64 (t + co), pr := 0, cf := 0, st := 3 }
def susp (c : Cs) : Cs := { c with su := true, st := if c.st = 3 then 5 else c.st }

/-- A case and the actions so far. -/
abbrev Mc : Type := Cs × List Int
def lok (gr co : Int) (e : Ev) (x : Mc) : Mc :=
  if gr < e.d then (opC co e.t x.1, x.2 ++ [2]) else if 0 < e.d then ({ x.1 with st := 2 }, x.2) else if x.1.st = 2 then ({ x.1 with st := 1 }, x.2) else x
def age1 (e : Ev) (x : Mc) : Mc := if x.1.st = 4 ∧ x.1.pd < e.t then (brk x.1, x.2 ++ [1]) else x
def age3 (gr co : Int) (e : Ev) (x : Mc) : Mc := if opn x.1 then x else lok gr co e x
def age4 (na : Int) (e : Ev) (x : Mc) : Mc := if opn x.1 = true ∧ x.1.su = false ∧ na ≤ e.d then (susp x.1, x.2 ++ [3]) else x
def age5 (e : Ev) (x : Mc) : Mc := if opn x.1 = true ∧ x.1.dl ≤ e.t then (endC 8 x.1, x.2 ++ [4]) else x
def ageM (l : List Int) (e : Ev) (x : Mc) : Mc :=
  if opn (age1 e x).1 = true ∧ e.d = 0 then (curd (age1 e x).1, (age1 e x).2 ++ [6])
  else age5 e (age4 (l.getD 2 0) e (age3 (l.getD 1 0) (l.getD 3 0) e (age1 e x)))
def pay1 (a : Int) (x : Mc) : Mc :=
  if x.1.st = 4 then (if a < wrap64 (x.1.pa - x.1.pg) then ({ x.1 with pg := wrap64 (x.1.pg + a) }, x.2) else (kept x.1, x.2 ++ [5])) else x
def paidM (e : Ev) (x : Mc) : Mc :=
  if opn (pay1 e.a x).1 = true ∧ e.d = 0 then (curd (pay1 e.a x).1, (pay1 e.a x).2 ++ [6])
  else if (pay1 e.a x).1.st = 2 ∧ e.d = 0 then ({ (pay1 e.a x).1 with st := 1 }, (pay1 e.a x).2) else pay1 e.a x
def retM (e : Ev) (x : Mc) : Mc := if x.1.st = 4 then ({ x.1 with pg := wrap64 (x.1.pg - (if x.1.pg < e.a then x.1.pg else e.a)) }, x.2) else x
def proM (e : Ev) (x : Mc) : Mc := ({ x.1 with pr := wrap64 (x.1.pr + 1), pd := wrap64 (e.t + e.d), pa := e.a, pg := 0, dl := wrap64 (x.1.dl + e.d), st := 4 }, x.2)
def resM (x : Mc) : Mc := (endC 7 { x.1 with re := wrap64 (x.1.re + 1) }, x.2 ++ [7])
def feeM (e : Ev) (x : Mc) : Mc := ({ x.1 with cf := wrap64 (x.1.cf + e.a), lf := wrap64 (x.1.lf + e.a) }, x.2)
def shut1 (x : Mc) : Mc := if opn x.1 then (curd x.1, x.2 ++ [6]) else x
def shutM (x : Mc) : Mc := ({ (shut1 x).1 with st := 9 }, (shut1 x).2 ++ [8])

/-- What a rule answers: the error, and where it is 0 the case and the actions. -/
abbrev An : Type := Int × Mc
def ageR (l : List Int) (e : Ev) (x : Mc) : An := if isD e.t = false ∨ e.d < 0 then (2, x) else if ovr x.1 then (130, x) else (0, ageM l e x)
def paidR (e : Ev) (x : Mc) : An := if e.a < 1 then (4, x) else if e.d < 0 then (2, x) else if ovr x.1 then (130, x) else (0, paidM e x)
def retR (e : Ev) (x : Mc) : An := if e.a < 1 then (4, x) else if ovr x.1 then (130, x) else (0, retM e x)
def proR (l : List Int) (e : Ev) (x : Mc) : An :=
  if isD e.t = false ∨ e.d < 1 ∨ l.getD 10 0 < e.d then (2, x) else if e.a < 1 then (4, x) else if ovr x.1 then (130, x) else if opn x.1 = false then (131, x)
  else if x.1.st = 4 then (132, x) else if l.getD 9 0 ≤ x.1.pr then (133, x) else (0, proM e x)
def resR (l : List Int) (x : Mc) : An := if ovr x.1 then (130, x) else if opn x.1 = false then (131, x) else if l.getD 11 0 ≤ x.1.re then (133, x) else (0, resM x)
def feeR (l : List Int) (e : Ev) (x : Mc) : An :=
  if e.a < 1 then (4, x) else if ovr x.1 then (130, x) else if opn x.1 = false then (131, x) else if x.1.st = 4 then (132, x)
  else if wrap64 (l.getD 7 0 - x.1.cf) < e.a ∨ wrap64 (l.getD 8 0 - x.1.lf) < e.a then (133, x) else (0, feeM e x)
def shutR (x : Mc) : An := if ovr x.1 then (130, x) else (0, shutM x)
def ruleR (l : List Int) (e : Ev) (x : Mc) : An :=
  if e.k = 1 then ageR l e x else if e.k = 2 then paidR e x else if e.k = 3 then retR e x else if e.k = 4 then proR l e x
  else if e.k = 5 then resR l x else if e.k = 6 then feeR l e x else if e.k = 7 then shutR x else (2, x)
def stepM (l hs : List Int) (c : Cs) (e : Ev) : An := if good l hs then ruleR l e (c, []) else (120, (c, []))
/-- What Step answers: with an error the case as it was, and no actions. -/
def stepA (l hs : List Int) (c : Cs) (e : Ev) : An := if (stepM l hs c e).1 = 0 then stepM l hs c e else ((stepM l hs c e).1, (c, []))
end CoM

open CoM
def csL (c : Cs) : List Value := [.int .i64 c.st, .bool c.su, .int .i64 c.cy, .int .i64 c.si, .int .i64 c.dl, .int .i64 c.pr, .int .i64 c.pd, .int .i64 c.pa, .int .i64 c.pg, .int .i64 c.ke, .int .i64 c.br, .int .i64 c.cu, .int .i64 c.re, .int .i64 c.cf, .int .i64 c.lf]
abbrev csV (c : Cs) : Value := .agg (csL c).toArray
def evL (e : Ev) : List Value := [.int .i64 e.k, .int .i64 e.t, .int .i64 e.d, .int .i64 e.a]
abbrev evV (e : Ev) : Value := .agg (evL e).toArray
theorem csL_len (c : Cs) : (csL c).length = 15 := rfl
theorem csL_one (c : Cs) : ∀ v ∈ csL c, v.oneCell' = true := fun v hv => by
  simp only [csL, List.mem_cons, List.not_mem_nil, or_false] at hv
  rcases hv with rfl | rfl | rfl | rfl | rfl | rfl | rfl | rfl | rfl | rfl | rfl | rfl | rfl | rfl | rfl <;> rfl
theorem evL_one (e : Ev) : ∀ v ∈ evL e, v.oneCell' = true := fun v hv => by
  simp only [evL, List.mem_cons, List.not_mem_nil, or_false] at hv
  rcases hv with rfl | rfl | rfl | rfl <;> rfl
end Go.Proofs.YtgdmkcbbomfmdaaGreatDoor

namespace Go.Proofs.YtgdmkcbbomfmdaaGreatDoor
open Go.RowKit

structure KD (w : World) (bs : List (Nat × TypeId × List Value)) (w' : World) : Prop where
  bb : Below w.heap.size w w'
  bk : ∀ (k : Nat) (q : Nat × TypeId × List Value), bs[k]? = some q → w.heap.size ≤ q.1 ∧ Blk q.1 q.2.1 q.2.2 w'
  nd : ∀ (j k : Nat) (q q' : Nat × TypeId × List Value), bs[j]? = some q → bs[k]? = some q' → q.1 = q'.1 → j = k
section
variable {w w1 w2 : World} {bs : List (Nat × TypeId × List Value)} {q : Nat × TypeId × List Value}
theorem KD.at (h : KD w bs w1) (k : Nat) (hq : bs[k]? = some q) : Blk q.1 q.2.1 q.2.2 w1 := (h.bk k q hq).2
theorem KD.cell (h : KD w bs w1) (k i : Nat) (hq : bs[k]? = some q) (u : Value) (hu : q.2.2[i]? = some u) : w1.cell? ⟨q.1, i, none⟩ = some u := (h.at k hq).cell i u hu
theorem KD.fz (h : KD w bs w1) (k i : Nat) (hq : bs[k]? = some q) : w1.frozen? ⟨q.1, i, none⟩ = false := (h.at k hq).fz i
theorem KD.lt (h : KD w bs w1) (k : Nat) (hq : bs[k]? = some q) : q.1 < w1.heap.size := (h.at k hq).lt
theorem KD.call (h : KD w bs w1) (b : Below w1.heap.size w1 w2) : KD w bs w2 := ⟨below_trans h.bb b, fun k q hq => ⟨(h.bk k q hq).1, (h.bk k q hq).2.below b⟩, h.nd⟩
theorem KD.drewN (h : KD w bs w1) (n : Nat) : KD w bs (w1.drewN n) := ⟨below_drewN h.bb n, fun k q hq => ⟨(h.bk k q hq).1, (h.bk k q hq).2.drewN n⟩, h.nd⟩
theorem KD.drew (h : KD w bs w1) : KD w bs w1.drew := h.drewN 1
theorem KD.start (w : World) : KD w [] w := ⟨Below.refl _ _, fun k q hq => by simp at hq, fun j k q q' hq => by simp at hq⟩
theorem KD.new (h : KD w bs w1) (T : TypeId) (cs : List Value) : KD w (bs ++ [(w1.heap.size, T, cs)]) (w1.alloc (.cells cs.toArray T)) := by
  have h1 := h.call (below_alloc w1 (.cells cs.toArray T))
  refine ⟨h1.bb, fun k q hq => ?_, fun j k q q' hq hq' e => ?_⟩
  · by_cases hk : k < bs.length
    · rw [List.getElem?_append_left hk] at hq
      exact h1.bk k q hq
    · rw [List.getElem?_append_right (by omega)] at hq
      obtain ⟨hh, rfl⟩ : k - bs.length = 0 ∧ (w1.heap.size, T, cs) = q := by
        cases hd : k - bs.length with
        | zero => rw [hd] at hq; simpa using hq
        | succ m => rw [hd] at hq; simp at hq
      exact ⟨h.bb.size, Blk.new T cs w1⟩
  · have key : ∀ j q, (bs ++ [(w1.heap.size, T, cs)])[j]? = some q → (j < bs.length ∧ q.1 < w1.heap.size ∧ bs[j]? = some q) ∨ (j = bs.length ∧ q.1 = w1.heap.size) := fun j q hq => by
      by_cases hk : j < bs.length
      · rw [List.getElem?_append_left hk] at hq
        exact .inl ⟨hk, (h.bk j q hq).2.lt, hq⟩
      · rw [List.getElem?_append_right (by omega)] at hq
        cases hd : j - bs.length with
        | zero => rw [hd] at hq; simp at hq; exact .inr ⟨by omega, by rw [← hq]⟩
        | succ m => rw [hd] at hq; simp at hq
    rcases key j q hq with ⟨_, lt1, b1⟩ | ⟨e1, s1⟩
    · rcases key k q' hq' with ⟨_, lt2, b2⟩ | ⟨e2, s2⟩
      · exact h.nd j k q q' b1 b2 e
      · omega
    · rcases key k q' hq' with ⟨_, lt2, b2⟩ | ⟨e2, s2⟩
      · omega
      · omega
theorem KD.store (h : KD w bs w1) (k : Nat) (hq : bs[k]? = some q) {cs : List Value} (nb : Blk q.1 q.2.1 cs w2) (g : w1.grownBy w2 (some q.1)) : KD w (bs.set k (q.1, q.2.1, cs)) w2 := by
  have hk : k < bs.length := (List.getElem?_eq_some_iff.1 hq).1
  have ge := (h.bk k q hq).1
  refine ⟨h.bb.grown g h.bb.size (fun x e => by injection e with e; omega), fun j p hp => ?_, fun j m p p' hp hp' e => ?_⟩
  · rw [List.getElem?_set] at hp
    by_cases hj : k = j
    · rw [if_pos hj, if_pos hk] at hp
      injection hp with hp
      subst hp
      exact ⟨ge, nb⟩
    · rw [if_neg hj] at hp
      refine ⟨(h.bk j p hp).1, (h.bk j p hp).2.grown g (fun e => ?_)⟩
      injection e with e
      exact hj (h.nd k j q p hq hp e)
  · have key : ∀ (j : Nat) (p : Nat × TypeId × List Value), (bs.set k (q.1, q.2.1, cs))[j]? = some p → ∃ r : Nat × TypeId × List Value, bs[j]? = some r ∧ r.1 = p.1 := fun j p hp => by
      rw [List.getElem?_set] at hp
      by_cases hj : k = j
      · rw [if_pos hj, if_pos hk] at hp
        injection hp with hp
        subst hp
        exact ⟨q, by rw [← hj]; exact hq, rfl⟩
      · rw [if_neg hj] at hp
        exact ⟨p, hp, rfl⟩
    obtain ⟨r, hr, e1⟩ := key j p hp
    obtain ⟨r', hr', e2⟩ := key m p' hp'
    exact h.nd j m r r' hr hr' (by omega)
theorem KD.set (h : KD w bs w1) (k i : Nat) (hq : bs[k]? = some q) (u : Value) : KD w (bs.set k (q.1, q.2.1, q.2.2.set i u)) (w1.setCell ⟨q.1, i, none⟩ u) :=
  h.store k hq ((h.at k hq).set u) (setCell_grown _ _ _ _)
end
theorem KD.one (w : World) (T : TypeId) (cs : List Value) : KD w [(w.heap.size, T, cs)] (w.alloc (.cells cs.toArray T)) := (KD.start w).new T cs
theorem kd_size_al (w : World) (o : Obj) : (w.alloc o).heap.size = w.heap.size + 1 := by simp
theorem KD.two (w : World) (T T2 : TypeId) (cs cs2 : List Value) : KD w [(w.heap.size, T, cs), (w.heap.size + 1, T2, cs2)] ((w.alloc (.cells cs.toArray T)).alloc (.cells cs2.toArray T2)) := by
  have := (KD.one w T cs).new T2 cs2
  rwa [kd_size_al] at this
theorem KD.three (w : World) (T T2 T3 : TypeId) (cs cs2 cs3 : List Value) : KD w [(w.heap.size, T, cs), (w.heap.size + 1, T2, cs2), (w.heap.size + 1 + 1, T3, cs3)] (((w.alloc (.cells cs.toArray T)).alloc (.cells cs2.toArray T2)).alloc (.cells cs3.toArray T3)) := by
  have := (KD.two w T T2 cs cs2).new T3 cs3
  rwa [kd_size_al, kd_size_al] at this
theorem KD.four (w : World) (T T2 T3 T4 : TypeId) (cs cs2 cs3 cs4 : List Value) : KD w [(w.heap.size, T, cs), (w.heap.size + 1, T2, cs2), (w.heap.size + 1 + 1, T3, cs3), (w.heap.size + 1 + 1 + 1, T4, cs4)] ((((w.alloc (.cells cs.toArray T)).alloc (.cells cs2.toArray T2)).alloc (.cells cs3.toArray T3)).alloc (.cells cs4.toArray T4)) := by
  have := (KD.three w T T2 T3 cs cs2 cs3).new T4 cs4
  rwa [kd_size_al, kd_size_al, kd_size_al] at this
end Go.Proofs.YtgdmkcbbomfmdaaGreatDoor

namespace Go.Proofs.YtgdmkcbbomfmdaaGreatDoor
open Go.RowKit LedM CoM
namespace LoM
structure Lo where
  id : Int
  tm : List Int
  pl : Value
  bk : List Int
  cs : Cs
  dy : Int
  ca : Int
  ap : Int
  la : List Int
  hl : Bool
  co : Int
  tr : Int
end LoM
open LoM
def i5 (l : List Int) : List Value := [.int .i64 (l.getD 0 0), .int .i64 (l.getD 1 0), .int .i64 (l.getD 2 0), .int .i64 (l.getD 3 0), .int .i64 (l.getD 4 0)]
def i6 (l : List Int) : List Value := [.int .i64 (l.getD 0 0), .int .i64 (l.getD 1 0), .int .i64 (l.getD 2 0), .int .i64 (l.getD 3 0), .int .i64 (l.getD 4 0), .int .i64 (l.getD 5 0)]
def i12 (l : List Int) : List Value := [.int .i64 (l.getD 0 0), .int .i64 (l.getD 1 0), .int .i64 (l.getD 2 0), .int .i64 (l.getD 3 0), .int .i64 (l.getD 4 0), .int .i64 (l.getD 5 0), .int .i64 (l.getD 6 0), .int .i64 (l.getD 7 0), .int .i64 (l.getD 8 0), .int .i64 (l.getD 9 0), .int .i64 (l.getD 10 0), .int .i64 (l.getD 11 0)]
/-- A loan's 46 cells. -/
def lnL (L : Lo) : List Value := .int .i64 L.id :: (i6 L.tm ++ (L.pl :: (i12 L.bk ++ (csL L.cs ++ (.int .i64 L.dy :: .int .i64 L.ca :: .int .i64 L.ap :: (i5 L.la ++ [.bool L.hl, .int .i64 L.co, .int .i64 L.tr]))))))
/-- An outcome's 53. -/
def ouL (L : Lo) (pa : List Int) (nt : Value) (k : Int) : List Value := lnL L ++ (i5 pa ++ [nt, .int .i64 k])
theorem lnL_len (L : Lo) : (lnL L).length = 46 := rfl
theorem ouL_len (L : Lo) (pa : List Int) (nt : Value) (k : Int) : (ouL L pa nt k).length = 53 := rfl
theorem sizeLn (L : Lo) : (Tryz.prog.info? 37).map (·.size) = some (lnL L).length := by show _ = some 46; kernel_rfl
theorem sizeOu (L : Lo) (pa : List Int) (nt : Value) (k : Int) : (Tryz.prog.info? 41).map (·.size) = some (ouL L pa nt k).length := by show _ = some 53; kernel_rfl
theorem ints_one {l : List Value} {n : Nat} {f : Nat → Int} (h : l = (List.range n).map fun i => .int .i64 (f i)) : ∀ v ∈ l, v.oneCell' = true := fun v hv => by
  rw [h] at hv
  obtain ⟨i, _, rfl⟩ := List.mem_map.1 hv
  rfl
theorem lnL_one {L : Lo} (hp : L.pl.oneCell' = true) : ∀ v ∈ lnL L, v.oneCell' = true := fun v hv => by
  have h5 : ∀ l : List Int, ∀ v ∈ i5 l, v.oneCell' = true := fun l => ints_one (n := 5) (f := fun i => l.getD i 0) rfl
  have h6 : ∀ l : List Int, ∀ v ∈ i6 l, v.oneCell' = true := fun l => ints_one (n := 6) (f := fun i => l.getD i 0) rfl
  have h12 : ∀ l : List Int, ∀ v ∈ i12 l, v.oneCell' = true := fun l => ints_one (n := 12) (f := fun i => l.getD i 0) rfl
  unfold lnL at hv
  simp only [List.mem_cons, List.mem_append] at hv
  rcases hv with rfl | h | rfl | h | h | rfl | rfl | rfl | h | h
  · rfl
  · exact h6 _ v h
  · exact hp
  · exact h12 _ v h
  · unfold csL at h; simp at h; rcases h with rfl | rfl | rfl | rfl | rfl | rfl | rfl | rfl | rfl | rfl | rfl | rfl | rfl | rfl | rfl <;> rfl
  · rfl
  · rfl
  · rfl
  · exact h5 _ v h
  · simp at h; rcases h with rfl | rfl | rfl <;> rfl
theorem ouL_one {L : Lo} {pa : List Int} {nt : Value} {k : Int} (hp : L.pl.oneCell' = true) (hn : nt.oneCell' = true) : ∀ v ∈ ouL L pa nt k, v.oneCell' = true := fun v hv => by
  rcases List.mem_append.1 hv with h | h
  · exact lnL_one hp v h
  · rcases List.mem_append.1 h with h | h
    · exact ints_one (n := 5) (f := fun i => pa.getD i 0) rfl v h
    · simp at h; rcases h with rfl | rfl
      · exact hn
      · rfl
namespace LoK
section
variable {P : Program}
theorem at_loadT {ops : Array Oper} {rest : List Oper} {a : Act} {w : World} {Q : Exit → Act → World → Prop} {dst : Option Tmp} (ty : TypeId) {t : TypeId} {x : Operand} {pos : String} {af : Array Edge}
    (h : wpList P ops Q ({ dst := dst, op := .load ty x, type := t, pos := pos, after := af, guard := none } :: rest) a w) : wpList P ops Q ({ dst := dst, op := .load ty x, type := t, pos := pos, after := af, guard := none } :: rest) a w := h
theorem at_store {ops : Array Oper} {rest : List Oper} {a : Act} {w : World} {Q : Exit → Act → World → Prop} {dst : Option Tmp} {ty t : TypeId} {x y : Operand} {pos : String} {af : Array Edge}
    (h : wpList P ops Q ({ dst := dst, op := .store ty x y, type := t, pos := pos, after := af, guard := none } :: rest) a w) : wpList P ops Q ({ dst := dst, op := .store ty x y, type := t, pos := pos, after := af, guard := none } :: rest) a w := h
theorem at_build {ops : Array Oper} {rest : List Oper} {a : Act} {w : World} {Q : Exit → Act → World → Prop} {dst : Option Tmp} (ty : TypeId) {t : TypeId} {ps : Array (Nat × Operand)} {pos : String} {af : Array Edge}
    (h : wpList P ops Q ({ dst := dst, op := .build ty ps, type := t, pos := pos, after := af, guard := none } :: rest) a w) : wpList P ops Q ({ dst := dst, op := .build ty ps, type := t, pos := pos, after := af, guard := none } :: rest) a w := h
theorem step_build2 {ops : Array Oper} {rest : List Oper} {op : Oper} {a : Act} {w : World} {Q : Exit → Act → World → Prop} (hgd : op.guard = none) (ty : TypeId) (i j : Nat) (x y : Operand) (ho : op.op = .build ty #[(i, x), (j, y)]) (u z : Value) (hx : a.eval x = u) (hy : a.eval y = z) (v : Value)
    (hr : (Instr.build ty #[(i, u), (j, z)]).run P w = .ok v w) (h : wpList P ops Q rest (a.put op.dst v) w) : wpList P ops Q (op :: rest) a w :=
  wpList_plain hgd fun _ hK => by
    unfold Oper.wp execOp
    simp only [ho, hx, hy, List.map_toArray, List.map_cons, List.map_nil, Sem.run_bind, Sem.run_pure, Result.andThen_ok, hr]
    exact hK _ _ h
end
theorem op_putC {ops : Array Oper} {op : Oper} {a : Act} {wr : World} {K : Act → World → Prop} {Q : Exit → Act → World → Prop} {E : Prop} {T : TypeId} {zs : List Value} (vs : List Value) (hl : vs.length = zs.length) (hi : (Tryz.prog.info? T).map (·.size) = some vs.length) (h1 : ∀ v ∈ vs, v.oneCell' = true) (hgd : op.guard = Option.none) (x y : Operand) (ho : op.op = .store T x y)
    (G : Nat) (hx : a.eval x = .pointer (some ⟨G, 0, Option.none⟩)) (hy : a.eval y = .agg vs.toArray) (hb : Blk G T zs wr)
    (h : ∀ w', Blk G T vs w' → wr.grownBy w' (some G) → K (a.put op.dst undef) w') : if Region.wanted op (yielded ops a.tmps) = true then Oper.wp Tryz.prog op a wr K Q else E := by
  have hwd : Region.wanted op (yielded ops a.tmps) = true := by simp [Region.wanted, hgd]
  rw [if_pos hwd]
  unfold Oper.wp execOp
  simp only [ho, hx, hy, Instr.storeAt, Instr.sureAddr, Sem.run_bind, Sem.run_pure, Result.andThen_ok, run_storeVar_blk wr G 0 T T zs vs hb (by omega) hi h1]
  have nb := setRow_heap wr G _ (zs.take 0 ++ vs ++ zs.drop (0 + vs.length)).toArray T _ hb
  have g := setRow_grown wr G (zs.take 0 ++ vs ++ zs.drop (0 + vs.length)).toArray
  have e : zs.take 0 ++ vs ++ zs.drop (0 + vs.length) = vs := by rw [Nat.zero_add, hl, List.drop_length]; simp
  rw [e] at nb g ⊢
  exact h _ nb g
theorem yieldsIf_build2 {P : Program} {ops : Array Oper} {S : World → Prop} {op : Oper} {a : Act} (hw : Region.wanted op (yielded ops a.tmps) = true) (ty : TypeId) (i j : Nat) (x y : Operand) (ho : op.op = .build ty #[(i, x), (j, y)]) (u z v : Value) (hx : a.eval x = u) (hy : a.eval y = z)
    (hr : ∀ w, (Instr.build ty #[(i, u), (j, z)]).run P w = .ok v w) : YieldsIf P ops S op v a := .inl ⟨hw, fun w _ => by
  unfold execOp
  simp only [ho, hx, hy, List.map_toArray, List.map_cons, List.map_nil, Sem.run_bind, Sem.run_pure, Result.andThen_ok, hr]⟩
end LoK
theorem built_ou (L : Lo) (k : Int) : Tryz.prog.built 41 [(0, .agg (lnL L).toArray), (3, .int .i64 k)] = some (ouL L [] (.slice none 0 0) k).toArray := by kernel_rfl
theorem build_ou (L : Lo) (k : Int) (w : World) : (Instr.build 41 #[(0, .agg (lnL L).toArray), (3, .int .i64 k)]).run Tryz.prog w = .ok (.agg (ouL L [] (.slice none 0 0) k).toArray) w := run_build w _ _ _ (built_ou L k)
/-- A store over a whole block leaves just what was stored. -/
theorem blk_over {G n : Nat} {ty : TypeId} {cs vs : List Value} {w : World} (h1 : cs.length = n) (h2 : vs.length = n) (h : Blk G ty (cs.take 0 ++ vs ++ cs.drop (0 + vs.length)) w) : Blk G ty vs w := by
  rw [List.take_zero, List.nil_append, List.drop_of_length_le (by omega), List.append_nil] at h
  exact h
end Go.Proofs.YtgdmkcbbomfmdaaGreatDoor

namespace Go.Proofs.YtgdmkcbbomfmdaaGreatDoor
open Go.RowKit LedM CoM LoM
theorem set_same {α : Type} {l : List α} {j : Nat} {x : α} (h : l[j]? = some x) : l.set j x = l := by
  apply List.ext_getElem?
  intro i
  rw [List.getElem?_set]
  by_cases e : j = i
  · subst e
    rw [if_pos rfl, if_pos (List.getElem?_eq_some_iff.1 h).1, h]
  · rw [if_neg e]
theorem set_new {α : Type} {l : List α} {j : Nat} {x y : α} (h : l[j]? = some x) : (l.set j y)[j]? = some y := by
  rw [List.getElem?_set, if_pos rfl, if_pos (List.getElem?_eq_some_iff.1 h).1]
theorem set_at {α : Type} {l : List α} {i j : Nat} {x y z : α} (h : l[i]? = some x) (_ : l[j]? = some y) (ne : j ≠ i) : (l.set j z)[i]? = some x := by
  rw [List.getElem?_set, if_neg ne, h]
theorem catch_idle (LB AB : Nat) (w : World) :
    CallsD Tryz.prog 22 #[.pointer (some ⟨LB, 0, none⟩), .pointer (some ⟨AB, 0, none⟩)] .returning w fun e u' w' => e = .returned (.tuple #[]) ∧ u' = .returning ∧ w' = w := by
  refine callsD_of_wpS Tryz.func22 rfl fun c₀ cs hu => ?_
  apply wpS_seq
  apply wpS_region
  simp [wpOpsS, go_sem, recoverD, hu, Tryz.ntmps22, Exit.thenS]
  refine wpS_of_wp ?_
  show Code.wp _ _ _ { tmps := #[.pointer (some ⟨LB, 0, none⟩), .pointer (some ⟨AB, 0, none⟩), .nilIface, .nilIface, undef, undef, undef, undef, undef, undef], defers := [] } _
  go_wp2_with fail
  cases c₀
  simp_all [bodyPostS, results, Tryz.results22]
set_option maxRecDepth 20000 in
set_option maxHeartbeats 4000000 in
theorem catch_up (L : Lo) (k : Int) (LB AB i j : Nat) (bs : List (Nat × TypeId × List Value)) (w0 w : World) (old : List Value) (older : List PanicEntry) (hp : L.pl.oneCell' = true) (h : KD w0 bs w)
    (hi : bs[i]? = some (LB, 37, lnL L)) (hj : bs[j]? = some (AB, 41, old)) (ho : old.length = 53) :
    CallsD Tryz.prog 22 #[.pointer (some ⟨LB, 0, none⟩), .pointer (some ⟨AB, 0, none⟩)] (.panicking ({ v := .iface 39 (.int .i64 k), recovered := false } :: older)) w fun e u' w' =>
      e = .returned (.tuple #[]) ∧ u' = .panicking ({ v := .iface 39 (.int .i64 k), recovered := true } :: older) ∧ KD w0 (bs.set j (AB, 41, ouL L [] (.slice none 0 0) k)) w' := by
  have hne : j ≠ i := fun e => by
    subst e
    rw [hi] at hj
    injection hj with hj
    injection hj with _ hj
    injection hj with hj _
    revert hj
    decide
  have BO := build_ou L k
  have hi2 := sizeLn L
  have SY := sizeOu L [] (.slice none 0 0) k
  have OY := ouL_one (L := L) (pa := []) (nt := .slice none 0 0) (k := k) hp rfl
  have LY : (ouL L [] (.slice none 0 0) k).length = 53 := rfl
  generalize lnL L = X at *
  generalize ouL L [] (.slice none 0 0) k = Y at *
  refine callsD_of_wpS Tryz.func22 rfl fun c₀ cs hu => ?_
  apply wpS_seq
  apply wpS_region
  simp [wpOpsS, go_sem, recoverD, hu, Tryz.ntmps22, Exit.thenS]
  refine wpS_of_wp ?_
  show Code.wp _ _ _ { tmps := #[.pointer (some ⟨LB, 0, none⟩), .pointer (some ⟨AB, 0, none⟩), (.iface 39 (.int .i64 k)), (.iface 39 (.int .i64 k)), undef, undef, undef, undef, undef, undef], defers := [] } _
  go_wp2_with fail
  have hu2 := Tryz.underlying37
  refine wp_region_held_drew (S := fun w' => ∃ old, old.length = 53 ∧ KD w0 (bs.set j (AB, 41, old)) w') (by kernel_rfl) ⟨old, ho, KD.drew (by rw [set_same hj]; exact h)⟩ (fun hH => ?_)
  refine wpAnyH_take (i := 0) (oi := { dst := some 6, op := Op.load 37 (Operand.tmp 0), type := 37, pos := "draft.go:28", after := #[], guard := none }) (v := .agg (X).toArray) rfl (by kernel_rfl) (by kernel_rfl) (by kernel_rfl) (fun _ _ _ h => h) (yieldsIf_load_mid (by rfl) _ _ rfl LB 0 rfl (X) _ (fun w' h => (by obtain ⟨o', _, h⟩ := h; exact Blk.all (h.at i (set_at hi hj hne)))) hu2 rfl hi2) hH ?_
  try simp only [Act.put, List.setIfInBounds_toArray, List.set_cons_zero, List.set_cons_succ]
  refine wpAnyH_take (i := 1) (oi := { dst := some 7, op := Op.move (Operand.tmp 2), type := 20, pos := "draft.go:28", after := #[], guard := none }) (v := .iface 39 (.int .i64 k)) rfl (by kernel_rfl) (by kernel_rfl) (by kernel_rfl) (fun _ _ _ h => h) (Or.inl ⟨by rfl, fun w' h => by go_simp⟩) hH ?_
  try simp only [Act.put, List.setIfInBounds_toArray, List.set_cons_zero, List.set_cons_succ]
  refine wpAnyH_ready (rs := [2]) (by kernel_rfl) (by simp) ?_
  refine AllReadyH.cons (o := { dst := some 8, op := Op.call { callee := Callee.value (Operand.func 23), args := #[Operand.tmp 7], argTypes := #[20] }, type := 39, pos := "draft.go:28", after := #[{ on := 1, ground := Ground.data }], guard := none }) rfl (fun K hK => ?_) AllReadyH.nil
  go_simp
  refine (reason_at k _).mono ?_
  rintro e x1 ⟨rfl, rfl⟩
  refine hK.out _ _ hH (fun hH => ?_)
  refine wpAnyH_take (i := 3) (oi := { dst := some 9, op := Op.build 41 #[(0, Operand.tmp 6), (3, Operand.tmp 8)], type := 41, pos := "draft.go:28", after := #[{ on := 0, ground := Ground.data }, { on := 2, ground := Ground.data }], guard := none }) (v := .agg Y.toArray) rfl (by kernel_rfl) (by kernel_rfl) (by kernel_rfl) (fun _ _ _ h => h) (LoK.yieldsIf_build2 (by rfl) _ 0 3 _ _ rfl _ _ _ rfl rfl BO) hH ?_
  try simp only [Act.put, List.setIfInBounds_toArray, List.set_cons_zero, List.set_cons_succ]
  refine wpAnyH_ready (rs := [4]) (by kernel_rfl) (by simp) ?_
  refine AllReadyH.cons (o := { dst := none, op := Op.store 41 (Operand.tmp 1) (Operand.tmp 9), type := 0, pos := "draft.go:28", after := #[{ on := 3, ground := Ground.data }, { on := 2, ground := Ground.chain }, { on := 0, ground := Ground.phase }, { on := 1, ground := Ground.phase }, { on := 2, ground := Ground.phase }, { on := 3, ground := Ground.phase }], guard := none }) rfl (fun K hK => ?_) AllReadyH.nil
  obtain ⟨o', ho', hC⟩ := hH
  have hBo : Blk AB 41 o' _ := hC.at (q := (AB, 41, o')) j (set_new hj)
  refine LoK.op_putC (zs := o') Y (by rw [ho', LY]) SY OY rfl _ _ rfl AB rfl rfl hBo ?_
  intro w9 b9 g9
  have hZ : KD w0 (bs.set j (AB, 41, Y)) w9 := by
    have := hC.store (q := (AB, 41, o')) j (set_new hj) b9 g9
    rw [List.set_set] at this
    exact this
  refine hK.out _ _ ⟨_, LY, hZ⟩ (fun hH => ?_)
  simp only [Act.put]
  refine wpAnyH_done (by kernel_rfl) ?_ _
  exact ⟨rfl, _, rfl, _, results_none rfl _ _ _, rfl, rfl, hZ⟩
end Go.Proofs.YtgdmkcbbomfmdaaGreatDoor
