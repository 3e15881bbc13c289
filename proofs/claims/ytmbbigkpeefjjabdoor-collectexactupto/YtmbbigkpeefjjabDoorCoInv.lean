/-
  Ours: what holds of every case that comes about, step by step: pure (gen_coinv.py).
-/
import Derived.Test.YtmbbigkpeefjjabDoorCoM
namespace Go.Proofs.YtmbbigkpeefjjabDoor
namespace CoM
open LedM PolM Go.RowKit

theorem wr {x : Int} (h : -9223372036854775808 ≤ x) (h' : x ≤ 9223372036854775807) : wrap64 x = x := by unfold wrap64; omega
/-- How often an action is among others. -/
def cnt (a : Int) : List Int → Int
  | [] => 0
  | x :: r => (if x = a then 1 else 0) + cnt a r
def sI (b : Bool) : Int := if b then 1 else 0
theorem sI_r (b : Bool) : 0 ≤ sI b ∧ sI b ≤ 1 := by cases b <;> simp [sI]
/-- The policy's numbers that count here. -/
structure Pn where
  gr : Int
  na : Int
  co : Int
  cc : Int
  lc : Int
  p : Int
  d : Int
  r : Int
def pn (l : List Int) : Pn := ⟨l.getD 1 0, l.getD 2 0, l.getD 3 0, l.getD 7 0, l.getD 8 0, l.getD 9 0, l.getD 10 0, l.getD 11 0⟩
structure Pol (q : Pn) : Prop where
  gr : 0 ≤ q.gr ∧ q.gr ≤ 30
  na : q.gr < q.na ∧ q.na ≤ 365
  co : 1 ≤ q.co ∧ q.co ≤ 365
  cc : 0 ≤ q.cc ∧ q.cc ≤ 1000000000
  lc : 0 ≤ q.lc ∧ q.lc ≤ 1000000000
  p : 0 ≤ q.p ∧ q.p ≤ 8
  d : 1 ≤ q.d ∧ q.d ≤ 60
  r : 0 ≤ q.r ∧ q.r ≤ 4
theorem pol_of {l hs : List Int} (h : good l hs = true) : Pol (pn l) := by
  have f := fun k hk => good_fld h k hk
  have f1 := f 1 (by omega); have f2 := f 2 (by omega); have f3 := f 3 (by omega); have f7 := f 7 (by omega); have f8 := f 8 (by omega)
  have f9 := f 9 (by omega); have f10 := f 10 (by omega); have f11 := f 11 (by omega)
  simp only [frm, tov] at f1 f2 f3 f7 f8 f9 f10 f11
  refine ⟨?_, ?_, ?_, ?_, ?_, ?_, ?_, ?_⟩ <;> simp only [pn]
  · exact f1
  · have e := f2; exact ⟨by omega, e.2⟩
  · exact f3
  · exact f7
  · exact f8
  · exact f9
  · exact f10
  · exact f11

/-- Of a case that came about in n steps. -/
structure Inv (q : Pn) (n : Int) (c : Cs) : Prop where
  st : 1 ≤ c.st ∧ c.st ≤ 9
  cy : 0 ≤ c.cy ∧ c.cy ≤ n
  ke : 0 ≤ c.ke ∧ c.ke ≤ n
  br : 0 ≤ c.br ∧ c.br ≤ n
  cu : 0 ≤ c.cu ∧ c.cu ≤ n
  re : 0 ≤ c.re ∧ c.re ≤ q.r
  pr : 0 ≤ c.pr ∧ c.pr ≤ q.p ∧ 0 ≤ c.pr * q.d ∧ c.pr * q.d ≤ 480
  op : (c.st = 3 ∨ c.st = 4 ∨ c.st = 5) → 1 ≤ c.si ∧ c.si ≤ 3652059 ∧ c.si + q.co ≤ c.dl ∧ c.dl ≤ c.si + q.co + c.pr * q.d
  cl : ¬ (c.st = 3 ∨ c.st = 4 ∨ c.st = 5) → c.si = 0 ∧ c.dl = 0 ∧ c.pr = 0 ∧ c.cf = 0 ∧ sI c.su = 0
  on : c.st = 4 → 1 ≤ c.pd ∧ c.pd ≤ 4000000 ∧ 1 ≤ c.pa ∧ c.pa ≤ 9223372036854775807 ∧ 0 ≤ c.pg ∧ c.pg < c.pa ∧ 1 ≤ c.pr
  off : c.st ≠ 4 → c.pd = 0 ∧ c.pa = 0 ∧ c.pg = 0
  su : (c.st = 5 → sI c.su = 1) ∧ (c.st = 3 → sI c.su = 0)
  fe : 0 ≤ c.cf ∧ c.cf ≤ q.cc ∧ c.cf ≤ c.lf ∧ c.lf ≤ q.lc
theorem inv_fresh {q : Pn} (P : Pol q) : Inv q 0 fresh := by
  have h1 := P.cc; have h2 := P.lc; have h3 := P.p; have h4 := P.r
  refine ⟨?_, ?_, ?_, ?_, ?_, ?_, ?_, ?_, ?_, ?_, ?_, ?_, ?_⟩ <;> simp only [fresh, sI] <;> (try simp) <;> omega
theorem Inv.mono {q : Pn} {n m : Int} {c : Cs} (h : Inv q n c) (hm : n ≤ m) : Inv q m c := by
  obtain ⟨a1, a2, a3, a4, a5, a6, a7, a8, a9, a10, a11, a12, a13⟩ := h
  exact ⟨a1, by omega, by omega, by omega, by omega, a6, a7, a8, a9, a10, a11, a12, a13⟩

/-- What a step that is taken makes of a case. -/
structure Fact (q : Pn) (n : Int) (c : Cs) (e : Ev) (c' : Cs) (a : List Int) : Prop where
  inv : Inv q (n + 1) c'
  t1 : c'.br - c.br = cnt 1 a
  t5 : c'.ke - c.ke = cnt 5 a
  t6 : c'.cu - c.cu = cnt 6 a
  t2 : c'.cy - c.cy = cnt 2 a
  t7 : c'.re - c.re = cnt 7 a
  t4 : (c'.st = 8 ∧ c.st ≠ 8) ↔ cnt 4 a = 1
  t8 : (c'.st = 9 ∧ c.st ≠ 9) ↔ cnt 8 a = 1
  t3 : sI c'.su = 1 → sI c.su = 0 → cnt 3 a = 1
  len : (a.length : Int) ≤ 3
  fee : e.k = 6 → 1 ≤ e.a ∧ e.a ≤ q.lc - c.lf ∧ c'.lf = c.lf + e.a
  nof : e.k ≠ 6 → c'.lf = c.lf
  ope : (c'.st = 3 ∨ c'.st = 4 ∨ c'.st = 5) → (¬ (c.st = 3 ∨ c.st = 4 ∨ c.st = 5) ∨ c'.cy ≠ c.cy) → e.k = 1 ∧ q.gr < e.d ∧ c'.pr = 0 ∧ c'.si = e.t ∧ c'.dl = e.t + q.co ∧ c'.cy = c.cy + 1
  sta : (c'.st = 3 ∨ c'.st = 4 ∨ c'.st = 5) → (c.st = 3 ∨ c.st = 4 ∨ c.st = 5) → c'.cy = c.cy ∧ c'.si = c.si ∧ c'.dl - c'.pr * q.d ≤ c.dl - c.pr * q.d
  day : (c'.st = 3 ∨ c'.st = 4 ∨ c'.st = 5) → e.k = 1 → e.t < c'.dl
  kd : 1 ≤ e.k ∧ e.k ≤ 7
  nov : c.st ≠ 8 ∧ c.st ≠ 9
/-- An event's numbers. -/
structure EvOk (e : Ev) : Prop where
  k : i64 e.k
  t : i64 e.t
  d : i64 e.d
  a : i64 e.a

section
variable {l : List Int} {n : Int} {c : Cs} {e : Ev}

set_option maxHeartbeats 2000000 in
theorem ret_fact {q : Pn} (P : Pol q) (I : Inv q n c) (hn : 0 ≤ n ∧ n < 4611686018427387904) (E : EvOk e) (hk : e.k = 3) (h : (retR e (c, [])).1 = 0) : Fact q n c e (retR e (c, [])).2.1 (retR e (c, [])).2.2 := by
  obtain ⟨a1, a2, a3, a4, a5, a6, a7, a8, a9, a10, a11, a12, a13⟩ := I
  obtain ⟨b1, b2, b3, b4, b5, b6, b7, b8⟩ := P
  have s1 := sI_r c.su
  have Ea := E.a
  have Et := E.t
  have Ed := E.d
  unfold i64 at Ea Et Ed
  have sI_t : sI true = 1 := rfl
  have sI_f : sI false = 0 := rfl
  have wcu : wrap64 (c.cu + 1) = c.cu + 1 := wr (by omega) (by omega)
  have wcy : wrap64 (c.cy + 1) = c.cy + 1 := wr (by omega) (by omega)
  have wke : wrap64 (c.ke + 1) = c.ke + 1 := wr (by omega) (by omega)
  have wbr : wrap64 (c.br + 1) = c.br + 1 := wr (by omega) (by omega)
  have wre : wrap64 (c.re + 1) = c.re + 1 := wr (by omega) (by omega)
  unfold retR at h ⊢
  dsimp only at h ⊢
  by_cases h1 : e.a < 1
  · rw [if_pos h1] at h; simp at h
  rw [if_neg h1] at h
  rw [if_neg h1]
  cases ho : ovr c
  rotate_left
  · rw [ho] at h; simp at h
  rw [ho] at h
  rw [if_neg (by decide)] at h
  rw [if_neg (by decide)]
  have ov : c.st ≠ 8 ∧ c.st ≠ 9 := by simp only [ovr, decide_eq_false_iff_not] at ho; omega
  dsimp only at h ⊢
  unfold retM
  dsimp only
  by_cases h4 : c.st = 4
  · have c4 := a10 h4
    rw [if_pos h4]
    by_cases hg : c.pg < e.a
    · have z : wrap64 (c.pg - c.pg) = 0 := by rw [wr (by omega) (by omega)]; omega
      rw [if_pos hg, z]
      have k1 : cnt 1 ([] : List Int) = 0 := by decide
      have k2 : cnt 2 ([] : List Int) = 0 := by decide
      have k3 : cnt 3 ([] : List Int) = 0 := by decide
      have k4 : cnt 4 ([] : List Int) = 0 := by decide
      have k5 : cnt 5 ([] : List Int) = 0 := by decide
      have k6 : cnt 6 ([] : List Int) = 0 := by decide
      have k7 : cnt 7 ([] : List Int) = 0 := by decide
      have k8 : cnt 8 ([] : List Int) = 0 := by decide
      have kl : ((([] : List Int).length : Nat) : Int) = 0 := rfl
      refine ⟨⟨?_, ?_, ?_, ?_, ?_, ?_, ?_, ?_, ?_, ?_, ?_, ?_, ?_⟩, ?_, ?_, ?_, ?_, ?_, ?_, ?_, ?_, ?_, ?_, ?_, ?_, ?_, ?_, ?_, ?_⟩ <;> (try dsimp only) <;> omega
    · have z : wrap64 (c.pg - e.a) = c.pg - e.a := wr (by omega) (by omega)
      rw [if_neg hg, z]
      have k1 : cnt 1 ([] : List Int) = 0 := by decide
      have k2 : cnt 2 ([] : List Int) = 0 := by decide
      have k3 : cnt 3 ([] : List Int) = 0 := by decide
      have k4 : cnt 4 ([] : List Int) = 0 := by decide
      have k5 : cnt 5 ([] : List Int) = 0 := by decide
      have k6 : cnt 6 ([] : List Int) = 0 := by decide
      have k7 : cnt 7 ([] : List Int) = 0 := by decide
      have k8 : cnt 8 ([] : List Int) = 0 := by decide
      have kl : ((([] : List Int).length : Nat) : Int) = 0 := rfl
      refine ⟨⟨?_, ?_, ?_, ?_, ?_, ?_, ?_, ?_, ?_, ?_, ?_, ?_, ?_⟩, ?_, ?_, ?_, ?_, ?_, ?_, ?_, ?_, ?_, ?_, ?_, ?_, ?_, ?_, ?_, ?_⟩ <;> (try dsimp only) <;> omega
  · rw [if_neg h4]
    have k1 : cnt 1 ([] : List Int) = 0 := by decide
    have k2 : cnt 2 ([] : List Int) = 0 := by decide
    have k3 : cnt 3 ([] : List Int) = 0 := by decide
    have k4 : cnt 4 ([] : List Int) = 0 := by decide
    have k5 : cnt 5 ([] : List Int) = 0 := by decide
    have k6 : cnt 6 ([] : List Int) = 0 := by decide
    have k7 : cnt 7 ([] : List Int) = 0 := by decide
    have k8 : cnt 8 ([] : List Int) = 0 := by decide
    have kl : ((([] : List Int).length : Nat) : Int) = 0 := rfl
    refine ⟨⟨?_, ?_, ?_, ?_, ?_, ?_, ?_, ?_, ?_, ?_, ?_, ?_, ?_⟩, ?_, ?_, ?_, ?_, ?_, ?_, ?_, ?_, ?_, ?_, ?_, ?_, ?_, ?_, ?_, ?_⟩ <;> (try dsimp only) <;> omega

set_option maxHeartbeats 2000000 in
theorem res_fact {q : Pn} (hq : pn l = q) (P : Pol q) (I : Inv q n c) (hn : 0 ≤ n ∧ n < 4611686018427387904) (E : EvOk e) (hk : e.k = 5) (h : (resR l (c, [])).1 = 0) : Fact q n c e (resR l (c, [])).2.1 (resR l (c, [])).2.2 := by
  obtain ⟨a1, a2, a3, a4, a5, a6, a7, a8, a9, a10, a11, a12, a13⟩ := I
  obtain ⟨b1, b2, b3, b4, b5, b6, b7, b8⟩ := P
  have s1 := sI_r c.su
  have Ea := E.a
  have Et := E.t
  have Ed := E.d
  unfold i64 at Ea Et Ed
  have sI_t : sI true = 1 := rfl
  have sI_f : sI false = 0 := rfl
  have wcu : wrap64 (c.cu + 1) = c.cu + 1 := wr (by omega) (by omega)
  have wcy : wrap64 (c.cy + 1) = c.cy + 1 := wr (by omega) (by omega)
  have wke : wrap64 (c.ke + 1) = c.ke + 1 := wr (by omega) (by omega)
  have wbr : wrap64 (c.br + 1) = c.br + 1 := wr (by omega) (by omega)
  have wre : wrap64 (c.re + 1) = c.re + 1 := wr (by omega) (by omega)
  have q11 : l.getD 11 0 = q.r := by rw [← hq]; rfl
  unfold resR at h ⊢
  dsimp only at h ⊢
  cases ho : ovr c
  rotate_left
  · rw [ho] at h; simp at h
  rw [ho] at h
  rw [if_neg (by decide)] at h
  rw [if_neg (by decide)]
  have ov : c.st ≠ 8 ∧ c.st ≠ 9 := by simp only [ovr, decide_eq_false_iff_not] at ho; omega
  cases hp : opn c
  · rw [hp] at h; simp at h
  rw [hp] at h
  rw [if_neg (by decide)] at h
  rw [if_neg (by decide)]
  have op : c.st = 3 ∨ c.st = 4 ∨ c.st = 5 := by simpa only [opn, decide_eq_true_eq] using hp
  by_cases hb : l.getD 11 0 ≤ c.re
  · rw [if_pos hb] at h; simp at h
  rw [if_neg hb] at h
  rw [if_neg hb]
  dsimp only at h ⊢
  unfold resM endC
  dsimp only
  rw [wre]
  rw [List.nil_append]
  have k1 : cnt 1 ([7] : List Int) = 0 := by decide
  have k2 : cnt 2 ([7] : List Int) = 0 := by decide
  have k3 : cnt 3 ([7] : List Int) = 0 := by decide
  have k4 : cnt 4 ([7] : List Int) = 0 := by decide
  have k5 : cnt 5 ([7] : List Int) = 0 := by decide
  have k6 : cnt 6 ([7] : List Int) = 0 := by decide
  have k7 : cnt 7 ([7] : List Int) = 1 := by decide
  have k8 : cnt 8 ([7] : List Int) = 0 := by decide
  have kl : ((([7] : List Int).length : Nat) : Int) = 1 := rfl
  refine ⟨⟨?_, ?_, ?_, ?_, ?_, ?_, ?_, ?_, ?_, ?_, ?_, ?_, ?_⟩, ?_, ?_, ?_, ?_, ?_, ?_, ?_, ?_, ?_, ?_, ?_, ?_, ?_, ?_, ?_, ?_⟩ <;> (try dsimp only) <;> omega

set_option maxHeartbeats 2000000 in
theorem fee_fact {q : Pn} (hq : pn l = q) (P : Pol q) (I : Inv q n c) (hn : 0 ≤ n ∧ n < 4611686018427387904) (E : EvOk e) (hk : e.k = 6) (h : (feeR l e (c, [])).1 = 0) : Fact q n c e (feeR l e (c, [])).2.1 (feeR l e (c, [])).2.2 := by
  obtain ⟨a1, a2, a3, a4, a5, a6, a7, a8, a9, a10, a11, a12, a13⟩ := I
  obtain ⟨b1, b2, b3, b4, b5, b6, b7, b8⟩ := P
  have s1 := sI_r c.su
  have Ea := E.a
  have Et := E.t
  have Ed := E.d
  unfold i64 at Ea Et Ed
  have sI_t : sI true = 1 := rfl
  have sI_f : sI false = 0 := rfl
  have wcu : wrap64 (c.cu + 1) = c.cu + 1 := wr (by omega) (by omega)
  have wcy : wrap64 (c.cy + 1) = c.cy + 1 := wr (by omega) (by omega)
  have wke : wrap64 (c.ke + 1) = c.ke + 1 := wr (by omega) (by omega)
  have wbr : wrap64 (c.br + 1) = c.br + 1 := wr (by omega) (by omega)
  have wre : wrap64 (c.re + 1) = c.re + 1 := wr (by omega) (by omega)
  have q7 : l.getD 7 0 = q.cc := by rw [← hq]; rfl
  have q8 : l.getD 8 0 = q.lc := by rw [← hq]; rfl
  unfold feeR at h ⊢
  dsimp only at h ⊢
  by_cases h1 : e.a < 1
  · rw [if_pos h1] at h; simp at h
  rw [if_neg h1] at h
  rw [if_neg h1]
  cases ho : ovr c
  rotate_left
  · rw [ho] at h; simp at h
  rw [ho] at h
  rw [if_neg (by decide)] at h
  rw [if_neg (by decide)]
  have ov : c.st ≠ 8 ∧ c.st ≠ 9 := by simp only [ovr, decide_eq_false_iff_not] at ho; omega
  cases hp : opn c
  · rw [hp] at h; simp at h
  rw [hp] at h
  rw [if_neg (by decide)] at h
  rw [if_neg (by decide)]
  have op : c.st = 3 ∨ c.st = 4 ∨ c.st = 5 := by simpa only [opn, decide_eq_true_eq] using hp
  by_cases h4 : c.st = 4
  · rw [if_pos h4] at h; simp at h
  rw [if_neg h4] at h
  rw [if_neg h4]
  rw [wr (x := l.getD 7 0 - c.cf) (by omega) (by omega), wr (x := l.getD 8 0 - c.lf) (by omega) (by omega)] at h ⊢
  by_cases hb : l.getD 7 0 - c.cf < e.a ∨ l.getD 8 0 - c.lf < e.a
  · rw [if_pos hb] at h; simp at h
  rw [if_neg hb] at h
  rw [if_neg hb]
  dsimp only at h ⊢
  unfold feeM
  dsimp only
  rw [wr (x := c.cf + e.a) (by omega) (by omega), wr (x := c.lf + e.a) (by omega) (by omega)]
  have k1 : cnt 1 ([] : List Int) = 0 := by decide
  have k2 : cnt 2 ([] : List Int) = 0 := by decide
  have k3 : cnt 3 ([] : List Int) = 0 := by decide
  have k4 : cnt 4 ([] : List Int) = 0 := by decide
  have k5 : cnt 5 ([] : List Int) = 0 := by decide
  have k6 : cnt 6 ([] : List Int) = 0 := by decide
  have k7 : cnt 7 ([] : List Int) = 0 := by decide
  have k8 : cnt 8 ([] : List Int) = 0 := by decide
  have kl : ((([] : List Int).length : Nat) : Int) = 0 := rfl
  refine ⟨⟨?_, ?_, ?_, ?_, ?_, ?_, ?_, ?_, ?_, ?_, ?_, ?_, ?_⟩, ?_, ?_, ?_, ?_, ?_, ?_, ?_, ?_, ?_, ?_, ?_, ?_, ?_, ?_, ?_, ?_⟩ <;> (try dsimp only) <;> omega

set_option maxHeartbeats 2000000 in
theorem pro_fact {q : Pn} (hq : pn l = q) (P : Pol q) (I : Inv q n c) (hn : 0 ≤ n ∧ n < 4611686018427387904) (E : EvOk e) (hk : e.k = 4) (h : (proR l e (c, [])).1 = 0) : Fact q n c e (proR l e (c, [])).2.1 (proR l e (c, [])).2.2 := by
  obtain ⟨a1, a2, a3, a4, a5, a6, a7, a8, a9, a10, a11, a12, a13⟩ := I
  obtain ⟨b1, b2, b3, b4, b5, b6, b7, b8⟩ := P
  have s1 := sI_r c.su
  have Ea := E.a
  have Et := E.t
  have Ed := E.d
  unfold i64 at Ea Et Ed
  have sI_t : sI true = 1 := rfl
  have sI_f : sI false = 0 := rfl
  have wcu : wrap64 (c.cu + 1) = c.cu + 1 := wr (by omega) (by omega)
  have wcy : wrap64 (c.cy + 1) = c.cy + 1 := wr (by omega) (by omega)
  have wke : wrap64 (c.ke + 1) = c.ke + 1 := wr (by omega) (by omega)
  have wbr : wrap64 (c.br + 1) = c.br + 1 := wr (by omega) (by omega)
  have wre : wrap64 (c.re + 1) = c.re + 1 := wr (by omega) (by omega)
  have q9 : l.getD 9 0 = q.p := by rw [← hq]; rfl
  have q10 : l.getD 10 0 = q.d := by rw [← hq]; rfl
  unfold proR at h ⊢
  dsimp only at h ⊢
  by_cases hi : isD e.t = false ∨ e.d < 1 ∨ l.getD 10 0 < e.d
  · rw [if_pos hi] at h; simp at h
  rw [if_neg hi] at h
  rw [if_neg hi]
  have it : 1 ≤ e.t ∧ e.t ≤ 3652059 := by
    cases hx : isD e.t
    · exact absurd (.inl hx) hi
    · simpa only [isD, decide_eq_true_eq] using hx
  have hi2 : ¬ (e.d < 1 ∨ l.getD 10 0 < e.d) := fun x => hi (.inr x)
  clear hi
  by_cases h1 : e.a < 1
  · rw [if_pos h1] at h; simp at h
  rw [if_neg h1] at h
  rw [if_neg h1]
  cases ho : ovr c
  rotate_left
  · rw [ho] at h; simp at h
  rw [ho] at h
  rw [if_neg (by decide)] at h
  rw [if_neg (by decide)]
  have ov : c.st ≠ 8 ∧ c.st ≠ 9 := by simp only [ovr, decide_eq_false_iff_not] at ho; omega
  cases hp : opn c
  · rw [hp] at h; simp at h
  rw [hp] at h
  rw [if_neg (by decide)] at h
  rw [if_neg (by decide)]
  have op : c.st = 3 ∨ c.st = 4 ∨ c.st = 5 := by simpa only [opn, decide_eq_true_eq] using hp
  by_cases h4 : c.st = 4
  · rw [if_pos h4] at h; simp at h
  rw [if_neg h4] at h
  rw [if_neg h4]
  by_cases hb : l.getD 9 0 ≤ c.pr
  · rw [if_pos hb] at h; simp at h
  rw [if_neg hb] at h
  rw [if_neg hb]
  dsimp only at h ⊢
  unfold proM
  dsimp only
  have m1 : (c.pr + 1) * q.d = c.pr * q.d + q.d := by rw [Int.add_mul, Int.one_mul]
  have m2 : (c.pr + 1) * q.d ≤ 8 * 60 := Int.mul_le_mul (by omega) b7.2 (by omega) (by omega)
  have c4 := a8 op
  rw [wr (x := c.pr + 1) (by omega) (by omega), wr (x := e.t + e.d) (by omega) (by omega), wr (x := c.dl + e.d) (by omega) (by omega)]
  have k1 : cnt 1 ([] : List Int) = 0 := by decide
  have k2 : cnt 2 ([] : List Int) = 0 := by decide
  have k3 : cnt 3 ([] : List Int) = 0 := by decide
  have k4 : cnt 4 ([] : List Int) = 0 := by decide
  have k5 : cnt 5 ([] : List Int) = 0 := by decide
  have k6 : cnt 6 ([] : List Int) = 0 := by decide
  have k7 : cnt 7 ([] : List Int) = 0 := by decide
  have k8 : cnt 8 ([] : List Int) = 0 := by decide
  have kl : ((([] : List Int).length : Nat) : Int) = 0 := rfl
  refine ⟨⟨?_, ?_, ?_, ?_, ?_, ?_, ?_, ?_, ?_, ?_, ?_, ?_, ?_⟩, ?_, ?_, ?_, ?_, ?_, ?_, ?_, ?_, ?_, ?_, ?_, ?_, ?_, ?_, ?_, ?_⟩ <;> (try dsimp only) <;> omega

set_option maxHeartbeats 2000000 in
theorem shut_fact {q : Pn} (P : Pol q) (I : Inv q n c) (hn : 0 ≤ n ∧ n < 4611686018427387904) (E : EvOk e) (hk : e.k = 7) (h : (shutR (c, [])).1 = 0) : Fact q n c e (shutR (c, [])).2.1 (shutR (c, [])).2.2 := by
  obtain ⟨a1, a2, a3, a4, a5, a6, a7, a8, a9, a10, a11, a12, a13⟩ := I
  obtain ⟨b1, b2, b3, b4, b5, b6, b7, b8⟩ := P
  have s1 := sI_r c.su
  have Ea := E.a
  have Et := E.t
  have Ed := E.d
  unfold i64 at Ea Et Ed
  have sI_t : sI true = 1 := rfl
  have sI_f : sI false = 0 := rfl
  have wcu : wrap64 (c.cu + 1) = c.cu + 1 := wr (by omega) (by omega)
  have wcy : wrap64 (c.cy + 1) = c.cy + 1 := wr (by omega) (by omega)
  have wke : wrap64 (c.ke + 1) = c.ke + 1 := wr (by omega) (by omega)
  have wbr : wrap64 (c.br + 1) = c.br + 1 := wr (by omega) (by omega)
  have wre : wrap64 (c.re + 1) = c.re + 1 := wr (by omega) (by omega)
  unfold shutR at h ⊢
  dsimp only at h ⊢
  cases ho : ovr c
  rotate_left
  · rw [ho] at h; simp at h
  rw [ho] at h
  rw [if_neg (by decide)] at h
  rw [if_neg (by decide)]
  have ov : c.st ≠ 8 ∧ c.st ≠ 9 := by simp only [ovr, decide_eq_false_iff_not] at ho; omega
  dsimp only at h ⊢
  unfold shutM shut1
  dsimp only
  cases hp : opn c
  · have op : ¬ (c.st = 3 ∨ c.st = 4 ∨ c.st = 5) := by simpa only [opn, decide_eq_false_iff_not] using hp
    rw [if_neg (by decide)]
    dsimp only
    rw [List.nil_append]
    have k1 : cnt 1 ([8] : List Int) = 0 := by decide
    have k2 : cnt 2 ([8] : List Int) = 0 := by decide
    have k3 : cnt 3 ([8] : List Int) = 0 := by decide
    have k4 : cnt 4 ([8] : List Int) = 0 := by decide
    have k5 : cnt 5 ([8] : List Int) = 0 := by decide
    have k6 : cnt 6 ([8] : List Int) = 0 := by decide
    have k7 : cnt 7 ([8] : List Int) = 0 := by decide
    have k8 : cnt 8 ([8] : List Int) = 1 := by decide
    have kl : ((([8] : List Int).length : Nat) : Int) = 1 := rfl
    refine ⟨⟨?_, ?_, ?_, ?_, ?_, ?_, ?_, ?_, ?_, ?_, ?_, ?_, ?_⟩, ?_, ?_, ?_, ?_, ?_, ?_, ?_, ?_, ?_, ?_, ?_, ?_, ?_, ?_, ?_, ?_⟩ <;> (try dsimp only) <;> omega
  · have op : c.st = 3 ∨ c.st = 4 ∨ c.st = 5 := by simpa only [opn, decide_eq_true_eq] using hp
    rw [if_pos rfl]
    unfold curd endC
    dsimp only
    rw [wcu, List.nil_append, List.cons_append, List.nil_append]
    have k1 : cnt 1 ([6, 8] : List Int) = 0 := by decide
    have k2 : cnt 2 ([6, 8] : List Int) = 0 := by decide
    have k3 : cnt 3 ([6, 8] : List Int) = 0 := by decide
    have k4 : cnt 4 ([6, 8] : List Int) = 0 := by decide
    have k5 : cnt 5 ([6, 8] : List Int) = 0 := by decide
    have k6 : cnt 6 ([6, 8] : List Int) = 1 := by decide
    have k7 : cnt 7 ([6, 8] : List Int) = 0 := by decide
    have k8 : cnt 8 ([6, 8] : List Int) = 1 := by decide
    have kl : ((([6, 8] : List Int).length : Nat) : Int) = 2 := rfl
    refine ⟨⟨?_, ?_, ?_, ?_, ?_, ?_, ?_, ?_, ?_, ?_, ?_, ?_, ?_⟩, ?_, ?_, ?_, ?_, ?_, ?_, ?_, ?_, ?_, ?_, ?_, ?_, ?_, ?_, ?_, ?_⟩ <;> (try dsimp only) <;> omega

set_option maxHeartbeats 2000000 in
theorem paid_fact {q : Pn} (P : Pol q) (I : Inv q n c) (hn : 0 ≤ n ∧ n < 4611686018427387904) (E : EvOk e) (hk : e.k = 2) (h : (paidR e (c, [])).1 = 0) : Fact q n c e (paidR e (c, [])).2.1 (paidR e (c, [])).2.2 := by
  obtain ⟨a1, a2, a3, a4, a5, a6, a7, a8, a9, a10, a11, a12, a13⟩ := I
  obtain ⟨b1, b2, b3, b4, b5, b6, b7, b8⟩ := P
  have s1 := sI_r c.su
  have Ea := E.a
  have Et := E.t
  have Ed := E.d
  unfold i64 at Ea Et Ed
  have sI_t : sI true = 1 := rfl
  have sI_f : sI false = 0 := rfl
  have wcu : wrap64 (c.cu + 1) = c.cu + 1 := wr (by omega) (by omega)
  have wcy : wrap64 (c.cy + 1) = c.cy + 1 := wr (by omega) (by omega)
  have wke : wrap64 (c.ke + 1) = c.ke + 1 := wr (by omega) (by omega)
  have wbr : wrap64 (c.br + 1) = c.br + 1 := wr (by omega) (by omega)
  have wre : wrap64 (c.re + 1) = c.re + 1 := wr (by omega) (by omega)
  unfold paidR at h ⊢
  dsimp only at h ⊢
  by_cases h1 : e.a < 1
  · rw [if_pos h1] at h; simp at h
  rw [if_neg h1] at h
  rw [if_neg h1]
  by_cases hd0 : e.d < 0
  · rw [if_pos hd0] at h; simp at h
  rw [if_neg hd0] at h
  rw [if_neg hd0]
  cases ho : ovr c
  rotate_left
  · rw [ho] at h; simp at h
  rw [ho] at h
  rw [if_neg (by decide)] at h
  rw [if_neg (by decide)]
  have ov : c.st ≠ 8 ∧ c.st ≠ 9 := by simp only [ovr, decide_eq_false_iff_not] at ho; omega
  dsimp only at h ⊢
  by_cases h4 : c.st = 4
  · have c4 := a10 h4
    have z : wrap64 (c.pa - c.pg) = c.pa - c.pg := wr (by omega) (by omega)
    by_cases ha : e.a < c.pa - c.pg
    · have E1 : pay1 e.a (c, []) = ({ c with pg := c.pg + e.a }, []) := by
        unfold pay1; dsimp only; rw [if_pos h4, z, if_pos ha, wr (by omega) (by omega)]
      unfold paidM
      rw [E1]
      dsimp only
      cases hp : opn ({ c with pg := c.pg + e.a })
      · rw [if_neg (by simp)]
        have op : ¬ (({ c with pg := c.pg + e.a }).st = 3 ∨ ({ c with pg := c.pg + e.a }).st = 4 ∨ ({ c with pg := c.pg + e.a }).st = 5) := by simpa only [opn, decide_eq_false_iff_not] using hp
        skip
        by_cases h2 : ({ c with pg := c.pg + e.a }).st = 2 ∧ e.d = 0
        · rw [if_pos h2]
          (try dsimp only at h2 op ⊢)
          have k1 : cnt 1 ([] : List Int) = 0 := by decide
          have k2 : cnt 2 ([] : List Int) = 0 := by decide
          have k3 : cnt 3 ([] : List Int) = 0 := by decide
          have k4 : cnt 4 ([] : List Int) = 0 := by decide
          have k5 : cnt 5 ([] : List Int) = 0 := by decide
          have k6 : cnt 6 ([] : List Int) = 0 := by decide
          have k7 : cnt 7 ([] : List Int) = 0 := by decide
          have k8 : cnt 8 ([] : List Int) = 0 := by decide
          have kl : ((([] : List Int).length : Nat) : Int) = 0 := rfl
          refine ⟨⟨?_, ?_, ?_, ?_, ?_, ?_, ?_, ?_, ?_, ?_, ?_, ?_, ?_⟩, ?_, ?_, ?_, ?_, ?_, ?_, ?_, ?_, ?_, ?_, ?_, ?_, ?_, ?_, ?_, ?_⟩ <;> (try dsimp only) <;> omega
        · rw [if_neg h2]
          (try dsimp only at h2 op ⊢)
          have k1 : cnt 1 ([] : List Int) = 0 := by decide
          have k2 : cnt 2 ([] : List Int) = 0 := by decide
          have k3 : cnt 3 ([] : List Int) = 0 := by decide
          have k4 : cnt 4 ([] : List Int) = 0 := by decide
          have k5 : cnt 5 ([] : List Int) = 0 := by decide
          have k6 : cnt 6 ([] : List Int) = 0 := by decide
          have k7 : cnt 7 ([] : List Int) = 0 := by decide
          have k8 : cnt 8 ([] : List Int) = 0 := by decide
          have kl : ((([] : List Int).length : Nat) : Int) = 0 := rfl
          refine ⟨⟨?_, ?_, ?_, ?_, ?_, ?_, ?_, ?_, ?_, ?_, ?_, ?_, ?_⟩, ?_, ?_, ?_, ?_, ?_, ?_, ?_, ?_, ?_, ?_, ?_, ?_, ?_, ?_, ?_, ?_⟩ <;> (try dsimp only) <;> omega
      · have op : (({ c with pg := c.pg + e.a }).st = 3 ∨ ({ c with pg := c.pg + e.a }).st = 4 ∨ ({ c with pg := c.pg + e.a }).st = 5) := by simpa only [opn, decide_eq_true_eq] using hp
        by_cases hd : e.d = 0
        · rw [if_pos ⟨rfl, hd⟩]
          skip
          unfold curd endC
          dsimp only at op ⊢
          rw [wcu]
          rw [List.nil_append]
          have k1 : cnt 1 ([6] : List Int) = 0 := by decide
          have k2 : cnt 2 ([6] : List Int) = 0 := by decide
          have k3 : cnt 3 ([6] : List Int) = 0 := by decide
          have k4 : cnt 4 ([6] : List Int) = 0 := by decide
          have k5 : cnt 5 ([6] : List Int) = 0 := by decide
          have k6 : cnt 6 ([6] : List Int) = 1 := by decide
          have k7 : cnt 7 ([6] : List Int) = 0 := by decide
          have k8 : cnt 8 ([6] : List Int) = 0 := by decide
          have kl : ((([6] : List Int).length : Nat) : Int) = 1 := rfl
          refine ⟨⟨?_, ?_, ?_, ?_, ?_, ?_, ?_, ?_, ?_, ?_, ?_, ?_, ?_⟩, ?_, ?_, ?_, ?_, ?_, ?_, ?_, ?_, ?_, ?_, ?_, ?_, ?_, ?_, ?_, ?_⟩ <;> (try dsimp only) <;> omega
        · rw [if_neg (fun x => hd x.2), if_neg (fun x => hd x.2)]
          skip
          (try dsimp only at op ⊢)
          have k1 : cnt 1 ([] : List Int) = 0 := by decide
          have k2 : cnt 2 ([] : List Int) = 0 := by decide
          have k3 : cnt 3 ([] : List Int) = 0 := by decide
          have k4 : cnt 4 ([] : List Int) = 0 := by decide
          have k5 : cnt 5 ([] : List Int) = 0 := by decide
          have k6 : cnt 6 ([] : List Int) = 0 := by decide
          have k7 : cnt 7 ([] : List Int) = 0 := by decide
          have k8 : cnt 8 ([] : List Int) = 0 := by decide
          have kl : ((([] : List Int).length : Nat) : Int) = 0 := rfl
          refine ⟨⟨?_, ?_, ?_, ?_, ?_, ?_, ?_, ?_, ?_, ?_, ?_, ?_, ?_⟩, ?_, ?_, ?_, ?_, ?_, ?_, ?_, ?_, ?_, ?_, ?_, ?_, ?_, ?_, ?_, ?_⟩ <;> (try dsimp only) <;> omega
    · cases hs : c.su
      · have hs1 : sI c.su = 0 := by rw [hs]; rfl
        have E1 : pay1 e.a (c, []) = ({ c with ke := c.ke + 1, pd := 0, pa := 0, pg := 0, st := 3 }, [5]) := by
          unfold pay1 kept endP; dsimp only; rw [if_pos h4, z, if_neg ha, wke, hs]; rfl
        unfold paidM
        rw [E1]
        dsimp only
        cases hp : opn ({ c with ke := c.ke + 1, pd := 0, pa := 0, pg := 0, st := 3 })
        · rw [if_neg (by simp)]
          have op : ¬ (({ c with ke := c.ke + 1, pd := 0, pa := 0, pg := 0, st := 3 }).st = 3 ∨ ({ c with ke := c.ke + 1, pd := 0, pa := 0, pg := 0, st := 3 }).st = 4 ∨ ({ c with ke := c.ke + 1, pd := 0, pa := 0, pg := 0, st := 3 }).st = 5) := by simpa only [opn, decide_eq_false_iff_not] using hp
          skip
          by_cases h2 : ({ c with ke := c.ke + 1, pd := 0, pa := 0, pg := 0, st := 3 }).st = 2 ∧ e.d = 0
          · rw [if_pos h2]
            (try dsimp only at h2 op ⊢)
            have k1 : cnt 1 ([5] : List Int) = 0 := by decide
            have k2 : cnt 2 ([5] : List Int) = 0 := by decide
            have k3 : cnt 3 ([5] : List Int) = 0 := by decide
            have k4 : cnt 4 ([5] : List Int) = 0 := by decide
            have k5 : cnt 5 ([5] : List Int) = 1 := by decide
            have k6 : cnt 6 ([5] : List Int) = 0 := by decide
            have k7 : cnt 7 ([5] : List Int) = 0 := by decide
            have k8 : cnt 8 ([5] : List Int) = 0 := by decide
            have kl : ((([5] : List Int).length : Nat) : Int) = 1 := rfl
            refine ⟨⟨?_, ?_, ?_, ?_, ?_, ?_, ?_, ?_, ?_, ?_, ?_, ?_, ?_⟩, ?_, ?_, ?_, ?_, ?_, ?_, ?_, ?_, ?_, ?_, ?_, ?_, ?_, ?_, ?_, ?_⟩ <;> (try dsimp only) <;> omega
          · rw [if_neg h2]
            (try dsimp only at h2 op ⊢)
            have k1 : cnt 1 ([5] : List Int) = 0 := by decide
            have k2 : cnt 2 ([5] : List Int) = 0 := by decide
            have k3 : cnt 3 ([5] : List Int) = 0 := by decide
            have k4 : cnt 4 ([5] : List Int) = 0 := by decide
            have k5 : cnt 5 ([5] : List Int) = 1 := by decide
            have k6 : cnt 6 ([5] : List Int) = 0 := by decide
            have k7 : cnt 7 ([5] : List Int) = 0 := by decide
            have k8 : cnt 8 ([5] : List Int) = 0 := by decide
            have kl : ((([5] : List Int).length : Nat) : Int) = 1 := rfl
            refine ⟨⟨?_, ?_, ?_, ?_, ?_, ?_, ?_, ?_, ?_, ?_, ?_, ?_, ?_⟩, ?_, ?_, ?_, ?_, ?_, ?_, ?_, ?_, ?_, ?_, ?_, ?_, ?_, ?_, ?_, ?_⟩ <;> (try dsimp only) <;> omega
        · have op : (({ c with ke := c.ke + 1, pd := 0, pa := 0, pg := 0, st := 3 }).st = 3 ∨ ({ c with ke := c.ke + 1, pd := 0, pa := 0, pg := 0, st := 3 }).st = 4 ∨ ({ c with ke := c.ke + 1, pd := 0, pa := 0, pg := 0, st := 3 }).st = 5) := by simpa only [opn, decide_eq_true_eq] using hp
          by_cases hd : e.d = 0
          · rw [if_pos ⟨rfl, hd⟩]
            skip
            unfold curd endC
            dsimp only at op ⊢
            rw [wcu]
            rw [List.cons_append, List.nil_append]
            have k1 : cnt 1 ([5, 6] : List Int) = 0 := by decide
            have k2 : cnt 2 ([5, 6] : List Int) = 0 := by decide
            have k3 : cnt 3 ([5, 6] : List Int) = 0 := by decide
            have k4 : cnt 4 ([5, 6] : List Int) = 0 := by decide
            have k5 : cnt 5 ([5, 6] : List Int) = 1 := by decide
            have k6 : cnt 6 ([5, 6] : List Int) = 1 := by decide
            have k7 : cnt 7 ([5, 6] : List Int) = 0 := by decide
            have k8 : cnt 8 ([5, 6] : List Int) = 0 := by decide
            have kl : ((([5, 6] : List Int).length : Nat) : Int) = 2 := rfl
            refine ⟨⟨?_, ?_, ?_, ?_, ?_, ?_, ?_, ?_, ?_, ?_, ?_, ?_, ?_⟩, ?_, ?_, ?_, ?_, ?_, ?_, ?_, ?_, ?_, ?_, ?_, ?_, ?_, ?_, ?_, ?_⟩ <;> (try dsimp only) <;> omega
          · rw [if_neg (fun x => hd x.2), if_neg (fun x => hd x.2)]
            skip
            (try dsimp only at op ⊢)
            have k1 : cnt 1 ([5] : List Int) = 0 := by decide
            have k2 : cnt 2 ([5] : List Int) = 0 := by decide
            have k3 : cnt 3 ([5] : List Int) = 0 := by decide
            have k4 : cnt 4 ([5] : List Int) = 0 := by decide
            have k5 : cnt 5 ([5] : List Int) = 1 := by decide
            have k6 : cnt 6 ([5] : List Int) = 0 := by decide
            have k7 : cnt 7 ([5] : List Int) = 0 := by decide
            have k8 : cnt 8 ([5] : List Int) = 0 := by decide
            have kl : ((([5] : List Int).length : Nat) : Int) = 1 := rfl
            refine ⟨⟨?_, ?_, ?_, ?_, ?_, ?_, ?_, ?_, ?_, ?_, ?_, ?_, ?_⟩, ?_, ?_, ?_, ?_, ?_, ?_, ?_, ?_, ?_, ?_, ?_, ?_, ?_, ?_, ?_, ?_⟩ <;> (try dsimp only) <;> omega
      · have hs1 : sI c.su = 1 := by rw [hs]; rfl
        have E1 : pay1 e.a (c, []) = ({ c with ke := c.ke + 1, pd := 0, pa := 0, pg := 0, st := 5 }, [5]) := by
          unfold pay1 kept endP; dsimp only; rw [if_pos h4, z, if_neg ha, wke, hs]; rfl
        unfold paidM
        rw [E1]
        dsimp only
        cases hp : opn ({ c with ke := c.ke + 1, pd := 0, pa := 0, pg := 0, st := 5 })
        · rw [if_neg (by simp)]
          have op : ¬ (({ c with ke := c.ke + 1, pd := 0, pa := 0, pg := 0, st := 5 }).st = 3 ∨ ({ c with ke := c.ke + 1, pd := 0, pa := 0, pg := 0, st := 5 }).st = 4 ∨ ({ c with ke := c.ke + 1, pd := 0, pa := 0, pg := 0, st := 5 }).st = 5) := by simpa only [opn, decide_eq_false_iff_not] using hp
          skip
          by_cases h2 : ({ c with ke := c.ke + 1, pd := 0, pa := 0, pg := 0, st := 5 }).st = 2 ∧ e.d = 0
          · rw [if_pos h2]
            (try dsimp only at h2 op ⊢)
            have k1 : cnt 1 ([5] : List Int) = 0 := by decide
            have k2 : cnt 2 ([5] : List Int) = 0 := by decide
            have k3 : cnt 3 ([5] : List Int) = 0 := by decide
            have k4 : cnt 4 ([5] : List Int) = 0 := by decide
            have k5 : cnt 5 ([5] : List Int) = 1 := by decide
            have k6 : cnt 6 ([5] : List Int) = 0 := by decide
            have k7 : cnt 7 ([5] : List Int) = 0 := by decide
            have k8 : cnt 8 ([5] : List Int) = 0 := by decide
            have kl : ((([5] : List Int).length : Nat) : Int) = 1 := rfl
            refine ⟨⟨?_, ?_, ?_, ?_, ?_, ?_, ?_, ?_, ?_, ?_, ?_, ?_, ?_⟩, ?_, ?_, ?_, ?_, ?_, ?_, ?_, ?_, ?_, ?_, ?_, ?_, ?_, ?_, ?_, ?_⟩ <;> (try dsimp only) <;> omega
          · rw [if_neg h2]
            (try dsimp only at h2 op ⊢)
            have k1 : cnt 1 ([5] : List Int) = 0 := by decide
            have k2 : cnt 2 ([5] : List Int) = 0 := by decide
            have k3 : cnt 3 ([5] : List Int) = 0 := by decide
            have k4 : cnt 4 ([5] : List Int) = 0 := by decide
            have k5 : cnt 5 ([5] : List Int) = 1 := by decide
            have k6 : cnt 6 ([5] : List Int) = 0 := by decide
            have k7 : cnt 7 ([5] : List Int) = 0 := by decide
            have k8 : cnt 8 ([5] : List Int) = 0 := by decide
            have kl : ((([5] : List Int).length : Nat) : Int) = 1 := rfl
            refine ⟨⟨?_, ?_, ?_, ?_, ?_, ?_, ?_, ?_, ?_, ?_, ?_, ?_, ?_⟩, ?_, ?_, ?_, ?_, ?_, ?_, ?_, ?_, ?_, ?_, ?_, ?_, ?_, ?_, ?_, ?_⟩ <;> (try dsimp only) <;> omega
        · have op : (({ c with ke := c.ke + 1, pd := 0, pa := 0, pg := 0, st := 5 }).st = 3 ∨ ({ c with ke := c.ke + 1, pd := 0, pa := 0, pg := 0, st := 5 }).st = 4 ∨ ({ c with ke := c.ke + 1, pd := 0, pa := 0, pg := 0, st := 5 }).st = 5) := by simpa only [opn, decide_eq_true_eq] using hp
          by_cases hd : e.d = 0
          · rw [if_pos ⟨rfl, hd⟩]
            skip
            unfold curd endC
            dsimp only at op ⊢
            rw [wcu]
            rw [List.cons_append, List.nil_append]
            have k1 : cnt 1 ([5, 6] : List Int) = 0 := by decide
            have k2 : cnt 2 ([5, 6] : List Int) = 0 := by decide
            have k3 : cnt 3 ([5, 6] : List Int) = 0 := by decide
            have k4 : cnt 4 ([5, 6] : List Int) = 0 := by decide
            have k5 : cnt 5 ([5, 6] : List Int) = 1 := by decide
            have k6 : cnt 6 ([5, 6] : List Int) = 1 := by decide
            have k7 : cnt 7 ([5, 6] : List Int) = 0 := by decide
            have k8 : cnt 8 ([5, 6] : List Int) = 0 := by decide
            have kl : ((([5, 6] : List Int).length : Nat) : Int) = 2 := rfl
            refine ⟨⟨?_, ?_, ?_, ?_, ?_, ?_, ?_, ?_, ?_, ?_, ?_, ?_, ?_⟩, ?_, ?_, ?_, ?_, ?_, ?_, ?_, ?_, ?_, ?_, ?_, ?_, ?_, ?_, ?_, ?_⟩ <;> (try dsimp only) <;> omega
          · rw [if_neg (fun x => hd x.2), if_neg (fun x => hd x.2)]
            skip
            (try dsimp only at op ⊢)
            have k1 : cnt 1 ([5] : List Int) = 0 := by decide
            have k2 : cnt 2 ([5] : List Int) = 0 := by decide
            have k3 : cnt 3 ([5] : List Int) = 0 := by decide
            have k4 : cnt 4 ([5] : List Int) = 0 := by decide
            have k5 : cnt 5 ([5] : List Int) = 1 := by decide
            have k6 : cnt 6 ([5] : List Int) = 0 := by decide
            have k7 : cnt 7 ([5] : List Int) = 0 := by decide
            have k8 : cnt 8 ([5] : List Int) = 0 := by decide
            have kl : ((([5] : List Int).length : Nat) : Int) = 1 := rfl
            refine ⟨⟨?_, ?_, ?_, ?_, ?_, ?_, ?_, ?_, ?_, ?_, ?_, ?_, ?_⟩, ?_, ?_, ?_, ?_, ?_, ?_, ?_, ?_, ?_, ?_, ?_, ?_, ?_, ?_, ?_, ?_⟩ <;> (try dsimp only) <;> omega
  · have E1 : pay1 e.a (c, []) = (c, []) := if_neg h4
    unfold paidM
    rw [E1]
    dsimp only
    cases hp : opn (c)
    · rw [if_neg (by simp)]
      have op : ¬ ((c).st = 3 ∨ (c).st = 4 ∨ (c).st = 5) := by simpa only [opn, decide_eq_false_iff_not] using hp
      skip
      by_cases h2 : (c).st = 2 ∧ e.d = 0
      · rw [if_pos h2]
        (try dsimp only at h2 op ⊢)
        have k1 : cnt 1 ([] : List Int) = 0 := by decide
        have k2 : cnt 2 ([] : List Int) = 0 := by decide
        have k3 : cnt 3 ([] : List Int) = 0 := by decide
        have k4 : cnt 4 ([] : List Int) = 0 := by decide
        have k5 : cnt 5 ([] : List Int) = 0 := by decide
        have k6 : cnt 6 ([] : List Int) = 0 := by decide
        have k7 : cnt 7 ([] : List Int) = 0 := by decide
        have k8 : cnt 8 ([] : List Int) = 0 := by decide
        have kl : ((([] : List Int).length : Nat) : Int) = 0 := rfl
        refine ⟨⟨?_, ?_, ?_, ?_, ?_, ?_, ?_, ?_, ?_, ?_, ?_, ?_, ?_⟩, ?_, ?_, ?_, ?_, ?_, ?_, ?_, ?_, ?_, ?_, ?_, ?_, ?_, ?_, ?_, ?_⟩ <;> (try dsimp only) <;> omega
      · rw [if_neg h2]
        (try dsimp only at h2 op ⊢)
        have k1 : cnt 1 ([] : List Int) = 0 := by decide
        have k2 : cnt 2 ([] : List Int) = 0 := by decide
        have k3 : cnt 3 ([] : List Int) = 0 := by decide
        have k4 : cnt 4 ([] : List Int) = 0 := by decide
        have k5 : cnt 5 ([] : List Int) = 0 := by decide
        have k6 : cnt 6 ([] : List Int) = 0 := by decide
        have k7 : cnt 7 ([] : List Int) = 0 := by decide
        have k8 : cnt 8 ([] : List Int) = 0 := by decide
        have kl : ((([] : List Int).length : Nat) : Int) = 0 := rfl
        refine ⟨⟨?_, ?_, ?_, ?_, ?_, ?_, ?_, ?_, ?_, ?_, ?_, ?_, ?_⟩, ?_, ?_, ?_, ?_, ?_, ?_, ?_, ?_, ?_, ?_, ?_, ?_, ?_, ?_, ?_, ?_⟩ <;> (try dsimp only) <;> omega
    · have op : ((c).st = 3 ∨ (c).st = 4 ∨ (c).st = 5) := by simpa only [opn, decide_eq_true_eq] using hp
      by_cases hd : e.d = 0
      · rw [if_pos ⟨rfl, hd⟩]
        skip
        unfold curd endC
        dsimp only at op ⊢
        rw [wcu]
        rw [List.nil_append]
        have k1 : cnt 1 ([6] : List Int) = 0 := by decide
        have k2 : cnt 2 ([6] : List Int) = 0 := by decide
        have k3 : cnt 3 ([6] : List Int) = 0 := by decide
        have k4 : cnt 4 ([6] : List Int) = 0 := by decide
        have k5 : cnt 5 ([6] : List Int) = 0 := by decide
        have k6 : cnt 6 ([6] : List Int) = 1 := by decide
        have k7 : cnt 7 ([6] : List Int) = 0 := by decide
        have k8 : cnt 8 ([6] : List Int) = 0 := by decide
        have kl : ((([6] : List Int).length : Nat) : Int) = 1 := rfl
        refine ⟨⟨?_, ?_, ?_, ?_, ?_, ?_, ?_, ?_, ?_, ?_, ?_, ?_, ?_⟩, ?_, ?_, ?_, ?_, ?_, ?_, ?_, ?_, ?_, ?_, ?_, ?_, ?_, ?_, ?_, ?_⟩ <;> (try dsimp only) <;> omega
      · rw [if_neg (fun x => hd x.2), if_neg (fun x => hd x.2)]
        skip
        (try dsimp only at op ⊢)
        have k1 : cnt 1 ([] : List Int) = 0 := by decide
        have k2 : cnt 2 ([] : List Int) = 0 := by decide
        have k3 : cnt 3 ([] : List Int) = 0 := by decide
        have k4 : cnt 4 ([] : List Int) = 0 := by decide
        have k5 : cnt 5 ([] : List Int) = 0 := by decide
        have k6 : cnt 6 ([] : List Int) = 0 := by decide
        have k7 : cnt 7 ([] : List Int) = 0 := by decide
        have k8 : cnt 8 ([] : List Int) = 0 := by decide
        have kl : ((([] : List Int).length : Nat) : Int) = 0 := rfl
        refine ⟨⟨?_, ?_, ?_, ?_, ?_, ?_, ?_, ?_, ?_, ?_, ?_, ?_, ?_⟩, ?_, ?_, ?_, ?_, ?_, ?_, ?_, ?_, ?_, ?_, ?_, ?_, ?_, ?_, ?_, ?_⟩ <;> (try dsimp only) <;> omega
theorem susp_open {c : Cs} (h : opn c = true) : opn (susp c) = true := by
  have h' : c.st = 3 ∨ c.st = 4 ∨ c.st = 5 := by simpa only [opn, decide_eq_true_eq] using h
  unfold opn susp
  refine decide_eq_true ?_
  dsimp only
  split <;> omega

set_option maxHeartbeats 2000000 in
theorem age_fact {q : Pn} (hq : pn l = q) (P : Pol q) (I : Inv q n c) (hn : 0 ≤ n ∧ n < 4611686018427387904) (E : EvOk e) (hk : e.k = 1) (h : (ageR l e (c, [])).1 = 0) : Fact q n c e (ageR l e (c, [])).2.1 (ageR l e (c, [])).2.2 := by
  obtain ⟨a1, a2, a3, a4, a5, a6, a7, a8, a9, a10, a11, a12, a13⟩ := I
  obtain ⟨b1, b2, b3, b4, b5, b6, b7, b8⟩ := P
  have s1 := sI_r c.su
  have Ea := E.a
  have Et := E.t
  have Ed := E.d
  unfold i64 at Ea Et Ed
  have sI_t : sI true = 1 := rfl
  have sI_f : sI false = 0 := rfl
  have wcu : wrap64 (c.cu + 1) = c.cu + 1 := wr (by omega) (by omega)
  have wcy : wrap64 (c.cy + 1) = c.cy + 1 := wr (by omega) (by omega)
  have wke : wrap64 (c.ke + 1) = c.ke + 1 := wr (by omega) (by omega)
  have wbr : wrap64 (c.br + 1) = c.br + 1 := wr (by omega) (by omega)
  have wre : wrap64 (c.re + 1) = c.re + 1 := wr (by omega) (by omega)
  have q1 : l.getD 1 0 = q.gr := by rw [← hq]; rfl
  have q2 : l.getD 2 0 = q.na := by rw [← hq]; rfl
  have q3 : l.getD 3 0 = q.co := by rw [← hq]; rfl
  unfold ageR at h ⊢
  dsimp only at h ⊢
  by_cases hi : isD e.t = false ∨ e.d < 0
  · rw [if_pos hi] at h; simp at h
  rw [if_neg hi] at h
  rw [if_neg hi]
  have it : 1 ≤ e.t ∧ e.t ≤ 3652059 := by
    cases hx : isD e.t
    · exact absurd (.inl hx) hi
    · simpa only [isD, decide_eq_true_eq] using hx
  have hd0 : ¬ e.d < 0 := fun x => hi (.inr x)
  clear hi
  cases ho : ovr c
  rotate_left
  · rw [ho] at h; simp at h
  rw [ho] at h
  rw [if_neg (by decide)] at h
  rw [if_neg (by decide)]
  have ov : c.st ≠ 8 ∧ c.st ≠ 9 := by simp only [ovr, decide_eq_false_iff_not] at ho; omega
  dsimp only at h ⊢
  have wtc : wrap64 (e.t + q.co) = e.t + q.co := wr (by omega) (by omega)
  by_cases hA : c.st = 4 ∧ c.pd < e.t
  · have c4 := a10 hA.1
    have E1 : age1 e (c, []) = (brk c, [1]) := if_pos hA
    cases hs0 : c.su
    · have hs1 : sI c.su = 0 := by rw [hs0]; rfl
      have hs : (brk c).su = false := hs0
      have hO : opn (brk c) = true := by simp [opn, brk, endP, hs0]
      by_cases hd : e.d = 0
      · have EM : ageM l e (c, []) = (curd (brk c), [1, 6]) := by unfold ageM; rw [E1]; dsimp only; rw [if_pos ⟨hO, hd⟩]; rfl
        rw [EM]
        simp only [curd, endC, brk, endP, wbr, wcu]
        have k1 : cnt 1 ([1, 6] : List Int) = 1 := by decide
        have k2 : cnt 2 ([1, 6] : List Int) = 0 := by decide
        have k3 : cnt 3 ([1, 6] : List Int) = 0 := by decide
        have k4 : cnt 4 ([1, 6] : List Int) = 0 := by decide
        have k5 : cnt 5 ([1, 6] : List Int) = 0 := by decide
        have k6 : cnt 6 ([1, 6] : List Int) = 1 := by decide
        have k7 : cnt 7 ([1, 6] : List Int) = 0 := by decide
        have k8 : cnt 8 ([1, 6] : List Int) = 0 := by decide
        have kl : ((([1, 6] : List Int).length : Nat) : Int) = 2 := rfl
        refine ⟨⟨?_, ?_, ?_, ?_, ?_, ?_, ?_, ?_, ?_, ?_, ?_, ?_, ?_⟩, ?_, ?_, ?_, ?_, ?_, ?_, ?_, ?_, ?_, ?_, ?_, ?_, ?_, ?_, ?_, ?_⟩ <;> (try dsimp only) <;> omega
      · have E3 : age3 q.gr q.co e (brk c, [1]) = (brk c, [1]) := if_pos hO
        have EQ : ageM l e (c, []) = age5 e (age4 q.na e (brk c, [1])) := by unfold ageM; rw [E1, q1, q2, q3]; dsimp only; rw [if_neg (fun x => hd x.2), E3]
        by_cases h4a : q.na ≤ e.d
        · have E4 : age4 q.na e (brk c, [1]) = (susp (brk c), [1, 3]) := if_pos ⟨hO, hs, h4a⟩
          have hO4 : opn (susp (brk c)) = true := susp_open hO
          by_cases h5 : c.dl ≤ e.t
          · have E5 : age5 e (susp (brk c), [1, 3]) = (endC 8 (susp (brk c)), [1, 3, 4]) := if_pos ⟨hO4, h5⟩
            have EM : ageM l e (c, []) = (endC 8 (susp (brk c)), [1, 3, 4]) := by rw [EQ, E4, E5]
            rw [EM]
            simp only [endC, susp, brk, endP, wbr]
            have k1 : cnt 1 ([1, 3, 4] : List Int) = 1 := by decide
            have k2 : cnt 2 ([1, 3, 4] : List Int) = 0 := by decide
            have k3 : cnt 3 ([1, 3, 4] : List Int) = 1 := by decide
            have k4 : cnt 4 ([1, 3, 4] : List Int) = 1 := by decide
            have k5 : cnt 5 ([1, 3, 4] : List Int) = 0 := by decide
            have k6 : cnt 6 ([1, 3, 4] : List Int) = 0 := by decide
            have k7 : cnt 7 ([1, 3, 4] : List Int) = 0 := by decide
            have k8 : cnt 8 ([1, 3, 4] : List Int) = 0 := by decide
            have kl : ((([1, 3, 4] : List Int).length : Nat) : Int) = 3 := rfl
            refine ⟨⟨?_, ?_, ?_, ?_, ?_, ?_, ?_, ?_, ?_, ?_, ?_, ?_, ?_⟩, ?_, ?_, ?_, ?_, ?_, ?_, ?_, ?_, ?_, ?_, ?_, ?_, ?_, ?_, ?_, ?_⟩ <;> (try dsimp only) <;> omega
          · have E5 : age5 e (susp (brk c), [1, 3]) = (susp (brk c), [1, 3]) := if_neg (fun x => h5 x.2)
            have EM : ageM l e (c, []) = (susp (brk c), [1, 3]) := by rw [EQ, E4, E5]
            rw [EM]
            simp only [susp, brk, endP, wbr, hs0, Bool.false_eq_true, reduceIte]
            have k1 : cnt 1 ([1, 3] : List Int) = 1 := by decide
            have k2 : cnt 2 ([1, 3] : List Int) = 0 := by decide
            have k3 : cnt 3 ([1, 3] : List Int) = 1 := by decide
            have k4 : cnt 4 ([1, 3] : List Int) = 0 := by decide
            have k5 : cnt 5 ([1, 3] : List Int) = 0 := by decide
            have k6 : cnt 6 ([1, 3] : List Int) = 0 := by decide
            have k7 : cnt 7 ([1, 3] : List Int) = 0 := by decide
            have k8 : cnt 8 ([1, 3] : List Int) = 0 := by decide
            have kl : ((([1, 3] : List Int).length : Nat) : Int) = 2 := rfl
            refine ⟨⟨?_, ?_, ?_, ?_, ?_, ?_, ?_, ?_, ?_, ?_, ?_, ?_, ?_⟩, ?_, ?_, ?_, ?_, ?_, ?_, ?_, ?_, ?_, ?_, ?_, ?_, ?_, ?_, ?_, ?_⟩ <;> (try dsimp only) <;> omega
        · have E4 : age4 q.na e (brk c, [1]) = (brk c, [1]) := if_neg (fun x => h4a x.2.2)
          by_cases h5 : c.dl ≤ e.t
          · have E5 : age5 e (brk c, [1]) = (endC 8 (brk c), [1, 4]) := if_pos ⟨hO, h5⟩
            have EM : ageM l e (c, []) = (endC 8 (brk c), [1, 4]) := by rw [EQ, E4, E5]
            rw [EM]
            simp only [endC, brk, endP, wbr]
            have k1 : cnt 1 ([1, 4] : List Int) = 1 := by decide
            have k2 : cnt 2 ([1, 4] : List Int) = 0 := by decide
            have k3 : cnt 3 ([1, 4] : List Int) = 0 := by decide
            have k4 : cnt 4 ([1, 4] : List Int) = 1 := by decide
            have k5 : cnt 5 ([1, 4] : List Int) = 0 := by decide
            have k6 : cnt 6 ([1, 4] : List Int) = 0 := by decide
            have k7 : cnt 7 ([1, 4] : List Int) = 0 := by decide
            have k8 : cnt 8 ([1, 4] : List Int) = 0 := by decide
            have kl : ((([1, 4] : List Int).length : Nat) : Int) = 2 := rfl
            refine ⟨⟨?_, ?_, ?_, ?_, ?_, ?_, ?_, ?_, ?_, ?_, ?_, ?_, ?_⟩, ?_, ?_, ?_, ?_, ?_, ?_, ?_, ?_, ?_, ?_, ?_, ?_, ?_, ?_, ?_, ?_⟩ <;> (try dsimp only) <;> omega
          · have E5 : age5 e (brk c, [1]) = (brk c, [1]) := if_neg (fun x => h5 x.2)
            have EM : ageM l e (c, []) = (brk c, [1]) := by rw [EQ, E4, E5]
            rw [EM]
            simp only [brk, endP, wbr, hs0, Bool.false_eq_true, if_false]
            have k1 : cnt 1 ([1] : List Int) = 1 := by decide
            have k2 : cnt 2 ([1] : List Int) = 0 := by decide
            have k3 : cnt 3 ([1] : List Int) = 0 := by decide
            have k4 : cnt 4 ([1] : List Int) = 0 := by decide
            have k5 : cnt 5 ([1] : List Int) = 0 := by decide
            have k6 : cnt 6 ([1] : List Int) = 0 := by decide
            have k7 : cnt 7 ([1] : List Int) = 0 := by decide
            have k8 : cnt 8 ([1] : List Int) = 0 := by decide
            have kl : ((([1] : List Int).length : Nat) : Int) = 1 := rfl
            refine ⟨⟨?_, ?_, ?_, ?_, ?_, ?_, ?_, ?_, ?_, ?_, ?_, ?_, ?_⟩, ?_, ?_, ?_, ?_, ?_, ?_, ?_, ?_, ?_, ?_, ?_, ?_, ?_, ?_, ?_, ?_⟩ <;> (try dsimp only) <;> omega
    · have hs1 : sI c.su = 1 := by rw [hs0]; rfl
      have hs : (brk c).su = true := hs0
      have hO : opn (brk c) = true := by simp [opn, brk, endP, hs0]
      by_cases hd : e.d = 0
      · have EM : ageM l e (c, []) = (curd (brk c), [1, 6]) := by unfold ageM; rw [E1]; dsimp only; rw [if_pos ⟨hO, hd⟩]; rfl
        rw [EM]
        simp only [curd, endC, brk, endP, wbr, wcu]
        have k1 : cnt 1 ([1, 6] : List Int) = 1 := by decide
        have k2 : cnt 2 ([1, 6] : List Int) = 0 := by decide
        have k3 : cnt 3 ([1, 6] : List Int) = 0 := by decide
        have k4 : cnt 4 ([1, 6] : List Int) = 0 := by decide
        have k5 : cnt 5 ([1, 6] : List Int) = 0 := by decide
        have k6 : cnt 6 ([1, 6] : List Int) = 1 := by decide
        have k7 : cnt 7 ([1, 6] : List Int) = 0 := by decide
        have k8 : cnt 8 ([1, 6] : List Int) = 0 := by decide
        have kl : ((([1, 6] : List Int).length : Nat) : Int) = 2 := rfl
        refine ⟨⟨?_, ?_, ?_, ?_, ?_, ?_, ?_, ?_, ?_, ?_, ?_, ?_, ?_⟩, ?_, ?_, ?_, ?_, ?_, ?_, ?_, ?_, ?_, ?_, ?_, ?_, ?_, ?_, ?_, ?_⟩ <;> (try dsimp only) <;> omega
      · have E3 : age3 q.gr q.co e (brk c, [1]) = (brk c, [1]) := if_pos hO
        have EQ : ageM l e (c, []) = age5 e (age4 q.na e (brk c, [1])) := by unfold ageM; rw [E1, q1, q2, q3]; dsimp only; rw [if_neg (fun x => hd x.2), E3]
        have E4 : age4 q.na e (brk c, [1]) = (brk c, [1]) := if_neg (fun x => by rw [hs] at x; cases x.2.1)
        by_cases h5 : c.dl ≤ e.t
        · have E5 : age5 e (brk c, [1]) = (endC 8 (brk c), [1, 4]) := if_pos ⟨hO, h5⟩
          have EM : ageM l e (c, []) = (endC 8 (brk c), [1, 4]) := by rw [EQ, E4, E5]
          rw [EM]
          simp only [endC, brk, endP, wbr]
          have k1 : cnt 1 ([1, 4] : List Int) = 1 := by decide
          have k2 : cnt 2 ([1, 4] : List Int) = 0 := by decide
          have k3 : cnt 3 ([1, 4] : List Int) = 0 := by decide
          have k4 : cnt 4 ([1, 4] : List Int) = 1 := by decide
          have k5 : cnt 5 ([1, 4] : List Int) = 0 := by decide
          have k6 : cnt 6 ([1, 4] : List Int) = 0 := by decide
          have k7 : cnt 7 ([1, 4] : List Int) = 0 := by decide
          have k8 : cnt 8 ([1, 4] : List Int) = 0 := by decide
          have kl : ((([1, 4] : List Int).length : Nat) : Int) = 2 := rfl
          refine ⟨⟨?_, ?_, ?_, ?_, ?_, ?_, ?_, ?_, ?_, ?_, ?_, ?_, ?_⟩, ?_, ?_, ?_, ?_, ?_, ?_, ?_, ?_, ?_, ?_, ?_, ?_, ?_, ?_, ?_, ?_⟩ <;> (try dsimp only) <;> omega
        · have E5 : age5 e (brk c, [1]) = (brk c, [1]) := if_neg (fun x => h5 x.2)
          have EM : ageM l e (c, []) = (brk c, [1]) := by rw [EQ, E4, E5]
          rw [EM]
          simp only [brk, endP, wbr, hs0, if_true]
          have k1 : cnt 1 ([1] : List Int) = 1 := by decide
          have k2 : cnt 2 ([1] : List Int) = 0 := by decide
          have k3 : cnt 3 ([1] : List Int) = 0 := by decide
          have k4 : cnt 4 ([1] : List Int) = 0 := by decide
          have k5 : cnt 5 ([1] : List Int) = 0 := by decide
          have k6 : cnt 6 ([1] : List Int) = 0 := by decide
          have k7 : cnt 7 ([1] : List Int) = 0 := by decide
          have k8 : cnt 8 ([1] : List Int) = 0 := by decide
          have kl : ((([1] : List Int).length : Nat) : Int) = 1 := rfl
          refine ⟨⟨?_, ?_, ?_, ?_, ?_, ?_, ?_, ?_, ?_, ?_, ?_, ?_, ?_⟩, ?_, ?_, ?_, ?_, ?_, ?_, ?_, ?_, ?_, ?_, ?_, ?_, ?_, ?_, ?_, ?_⟩ <;> (try dsimp only) <;> omega
  · have E1 : age1 e (c, []) = (c, []) := if_neg hA
    cases hp : opn c
    · have op : ¬ (c.st = 3 ∨ c.st = 4 ∨ c.st = 5) := by simpa only [opn, decide_eq_false_iff_not] using hp
      have E0 : ageM l e (c, []) = age5 e (age4 q.na e (age3 q.gr q.co e (c, []))) := by unfold ageM; rw [E1, q1, q2, q3]; dsimp only; rw [if_neg (fun x => by rw [hp] at x; cases x.1)]
      by_cases hg : q.gr < e.d
      · have E3 : age3 q.gr q.co e (c, []) = (opC q.co e.t c, [2]) := by unfold age3 lok; dsimp only; rw [hp, if_neg (by decide), if_pos hg]; rfl
        have EQ : ageM l e (c, []) = age5 e (age4 q.na e (opC q.co e.t c, [2])) := by rw [E0, E3]
        have hO : opn (opC q.co e.t c) = true := by simp [opn, opC]
        have hs : (opC q.co e.t c).su = false := by
          have e1 := (a9 op).2.2.2.2
          show c.su = false
          cases hz : c.su
          · rfl
          · rw [hz] at e1; simp [sI] at e1
        have c9 := a9 op
        have hdl : (opC q.co e.t c).dl = e.t + q.co := wtc
        by_cases h4a : q.na ≤ e.d
        · have E4 : age4 q.na e (opC q.co e.t c, [2]) = (susp (opC q.co e.t c), [2, 3]) := if_pos ⟨hO, hs, h4a⟩
          have hO4 : opn (susp (opC q.co e.t c)) = true := susp_open hO
          by_cases h5 : (opC q.co e.t c).dl ≤ e.t
          · have E5 : age5 e (susp (opC q.co e.t c), [2, 3]) = (endC 8 (susp (opC q.co e.t c)), [2, 3, 4]) := if_pos ⟨hO4, h5⟩
            have EM : ageM l e (c, []) = (endC 8 (susp (opC q.co e.t c)), [2, 3, 4]) := by rw [EQ, E4, E5]
            rw [EM]
            exact absurd h5 (by rw [hdl]; omega)
          · have E5 : age5 e (susp (opC q.co e.t c), [2, 3]) = (susp (opC q.co e.t c), [2, 3]) := if_neg (fun x => h5 x.2)
            have EM : ageM l e (c, []) = (susp (opC q.co e.t c), [2, 3]) := by rw [EQ, E4, E5]
            rw [EM]
            simp only [susp, opC, wcy, wtc, if_true]
            have k1 : cnt 1 ([2, 3] : List Int) = 0 := by decide
            have k2 : cnt 2 ([2, 3] : List Int) = 1 := by decide
            have k3 : cnt 3 ([2, 3] : List Int) = 1 := by decide
            have k4 : cnt 4 ([2, 3] : List Int) = 0 := by decide
            have k5 : cnt 5 ([2, 3] : List Int) = 0 := by decide
            have k6 : cnt 6 ([2, 3] : List Int) = 0 := by decide
            have k7 : cnt 7 ([2, 3] : List Int) = 0 := by decide
            have k8 : cnt 8 ([2, 3] : List Int) = 0 := by decide
            have kl : ((([2, 3] : List Int).length : Nat) : Int) = 2 := rfl
            refine ⟨⟨?_, ?_, ?_, ?_, ?_, ?_, ?_, ?_, ?_, ?_, ?_, ?_, ?_⟩, ?_, ?_, ?_, ?_, ?_, ?_, ?_, ?_, ?_, ?_, ?_, ?_, ?_, ?_, ?_, ?_⟩ <;> (try dsimp only) <;> omega
        · have E4 : age4 q.na e (opC q.co e.t c, [2]) = (opC q.co e.t c, [2]) := if_neg (fun x => h4a x.2.2)
          by_cases h5 : (opC q.co e.t c).dl ≤ e.t
          · have E5 : age5 e (opC q.co e.t c, [2]) = (endC 8 (opC q.co e.t c), [2, 4]) := if_pos ⟨hO, h5⟩
            have EM : ageM l e (c, []) = (endC 8 (opC q.co e.t c), [2, 4]) := by rw [EQ, E4, E5]
            rw [EM]
            exact absurd h5 (by rw [hdl]; omega)
          · have E5 : age5 e (opC q.co e.t c, [2]) = (opC q.co e.t c, [2]) := if_neg (fun x => h5 x.2)
            have EM : ageM l e (c, []) = (opC q.co e.t c, [2]) := by rw [EQ, E4, E5]
            rw [EM]
            simp only [opC, wcy, wtc]
            have k1 : cnt 1 ([2] : List Int) = 0 := by decide
            have k2 : cnt 2 ([2] : List Int) = 1 := by decide
            have k3 : cnt 3 ([2] : List Int) = 0 := by decide
            have k4 : cnt 4 ([2] : List Int) = 0 := by decide
            have k5 : cnt 5 ([2] : List Int) = 0 := by decide
            have k6 : cnt 6 ([2] : List Int) = 0 := by decide
            have k7 : cnt 7 ([2] : List Int) = 0 := by decide
            have k8 : cnt 8 ([2] : List Int) = 0 := by decide
            have kl : ((([2] : List Int).length : Nat) : Int) = 1 := rfl
            refine ⟨⟨?_, ?_, ?_, ?_, ?_, ?_, ?_, ?_, ?_, ?_, ?_, ?_, ?_⟩, ?_, ?_, ?_, ?_, ?_, ?_, ?_, ?_, ?_, ?_, ?_, ?_, ?_, ?_, ?_, ?_⟩ <;> (try dsimp only) <;> omega
      · have n4 : ∀ x : Mc, opn x.1 = false → age5 e (age4 q.na e x) = x := fun x hx => by
          have e4 : age4 q.na e x = x := if_neg (fun y => by rw [hx] at y; cases y.1)
          rw [e4]; exact if_neg (fun y => by rw [hx] at y; cases y.1)
        have c9 := a9 op
        by_cases hz : 0 < e.d
        · have E3 : age3 q.gr q.co e (c, []) = ({ c with st := 2 }, []) := by unfold age3 lok; dsimp only; rw [hp, if_neg (by decide), if_neg hg, if_pos hz]
          have EM : ageM l e (c, []) = ({ c with st := 2 }, []) := by rw [E0, E3]; exact n4 _ (by simp [opn])
          rw [EM]
          have k1 : cnt 1 ([] : List Int) = 0 := by decide
          have k2 : cnt 2 ([] : List Int) = 0 := by decide
          have k3 : cnt 3 ([] : List Int) = 0 := by decide
          have k4 : cnt 4 ([] : List Int) = 0 := by decide
          have k5 : cnt 5 ([] : List Int) = 0 := by decide
          have k6 : cnt 6 ([] : List Int) = 0 := by decide
          have k7 : cnt 7 ([] : List Int) = 0 := by decide
          have k8 : cnt 8 ([] : List Int) = 0 := by decide
          have kl : ((([] : List Int).length : Nat) : Int) = 0 := rfl
          refine ⟨⟨?_, ?_, ?_, ?_, ?_, ?_, ?_, ?_, ?_, ?_, ?_, ?_, ?_⟩, ?_, ?_, ?_, ?_, ?_, ?_, ?_, ?_, ?_, ?_, ?_, ?_, ?_, ?_, ?_, ?_⟩ <;> (try dsimp only) <;> omega
        · by_cases h2 : c.st = 2
          · have E3 : age3 q.gr q.co e (c, []) = ({ c with st := 1 }, []) := by unfold age3 lok; dsimp only; rw [hp, if_neg (by decide), if_neg hg, if_neg hz, if_pos h2]
            have EM : ageM l e (c, []) = ({ c with st := 1 }, []) := by rw [E0, E3]; exact n4 _ (by simp [opn])
            rw [EM]
            have k1 : cnt 1 ([] : List Int) = 0 := by decide
            have k2 : cnt 2 ([] : List Int) = 0 := by decide
            have k3 : cnt 3 ([] : List Int) = 0 := by decide
            have k4 : cnt 4 ([] : List Int) = 0 := by decide
            have k5 : cnt 5 ([] : List Int) = 0 := by decide
            have k6 : cnt 6 ([] : List Int) = 0 := by decide
            have k7 : cnt 7 ([] : List Int) = 0 := by decide
            have k8 : cnt 8 ([] : List Int) = 0 := by decide
            have kl : ((([] : List Int).length : Nat) : Int) = 0 := rfl
            refine ⟨⟨?_, ?_, ?_, ?_, ?_, ?_, ?_, ?_, ?_, ?_, ?_, ?_, ?_⟩, ?_, ?_, ?_, ?_, ?_, ?_, ?_, ?_, ?_, ?_, ?_, ?_, ?_, ?_, ?_, ?_⟩ <;> (try dsimp only) <;> omega
          · have E3 : age3 q.gr q.co e (c, []) = (c, []) := by unfold age3 lok; dsimp only; rw [hp, if_neg (by decide), if_neg hg, if_neg hz, if_neg h2]
            have EM : ageM l e (c, []) = (c, []) := by rw [E0, E3]; exact n4 _ hp
            rw [EM]
            have k1 : cnt 1 ([] : List Int) = 0 := by decide
            have k2 : cnt 2 ([] : List Int) = 0 := by decide
            have k3 : cnt 3 ([] : List Int) = 0 := by decide
            have k4 : cnt 4 ([] : List Int) = 0 := by decide
            have k5 : cnt 5 ([] : List Int) = 0 := by decide
            have k6 : cnt 6 ([] : List Int) = 0 := by decide
            have k7 : cnt 7 ([] : List Int) = 0 := by decide
            have k8 : cnt 8 ([] : List Int) = 0 := by decide
            have kl : ((([] : List Int).length : Nat) : Int) = 0 := rfl
            refine ⟨⟨?_, ?_, ?_, ?_, ?_, ?_, ?_, ?_, ?_, ?_, ?_, ?_, ?_⟩, ?_, ?_, ?_, ?_, ?_, ?_, ?_, ?_, ?_, ?_, ?_, ?_, ?_, ?_, ?_, ?_⟩ <;> (try dsimp only) <;> omega
    · have op : c.st = 3 ∨ c.st = 4 ∨ c.st = 5 := by simpa only [opn, decide_eq_true_eq] using hp
      have c8 := a8 op
      by_cases hd : e.d = 0
      · have EM : ageM l e (c, []) = (curd c, [6]) := by unfold ageM; rw [E1]; dsimp only; rw [if_pos ⟨hp, hd⟩]; rfl
        rw [EM]
        simp only [curd, endC, wcu]
        have k1 : cnt 1 ([6] : List Int) = 0 := by decide
        have k2 : cnt 2 ([6] : List Int) = 0 := by decide
        have k3 : cnt 3 ([6] : List Int) = 0 := by decide
        have k4 : cnt 4 ([6] : List Int) = 0 := by decide
        have k5 : cnt 5 ([6] : List Int) = 0 := by decide
        have k6 : cnt 6 ([6] : List Int) = 1 := by decide
        have k7 : cnt 7 ([6] : List Int) = 0 := by decide
        have k8 : cnt 8 ([6] : List Int) = 0 := by decide
        have kl : ((([6] : List Int).length : Nat) : Int) = 1 := rfl
        refine ⟨⟨?_, ?_, ?_, ?_, ?_, ?_, ?_, ?_, ?_, ?_, ?_, ?_, ?_⟩, ?_, ?_, ?_, ?_, ?_, ?_, ?_, ?_, ?_, ?_, ?_, ?_, ?_, ?_, ?_, ?_⟩ <;> (try dsimp only) <;> omega
      · have E3 : age3 q.gr q.co e (c, []) = (c, []) := if_pos hp
        have EQ : ageM l e (c, []) = age5 e (age4 q.na e (c, [])) := by unfold ageM; rw [E1, q1, q2, q3]; dsimp only; rw [if_neg (fun x => hd x.2), E3]
        cases hs : c.su
        · have hs1 : sI c.su = 0 := by rw [hs]; rfl
          by_cases h4a : q.na ≤ e.d
          · have E4 : age4 q.na e (c, []) = (susp (c), [3]) := if_pos ⟨hp, hs, h4a⟩
            have hO4 : opn (susp (c)) = true := susp_open hp
            by_cases h5 : c.dl ≤ e.t
            · have E5 : age5 e (susp (c), [3]) = (endC 8 (susp (c)), [3, 4]) := if_pos ⟨hO4, h5⟩
              have EM : ageM l e (c, []) = (endC 8 (susp (c)), [3, 4]) := by rw [EQ, E4, E5]
              rw [EM]
              simp only [endC, susp]
              have k1 : cnt 1 ([3, 4] : List Int) = 0 := by decide
              have k2 : cnt 2 ([3, 4] : List Int) = 0 := by decide
              have k3 : cnt 3 ([3, 4] : List Int) = 1 := by decide
              have k4 : cnt 4 ([3, 4] : List Int) = 1 := by decide
              have k5 : cnt 5 ([3, 4] : List Int) = 0 := by decide
              have k6 : cnt 6 ([3, 4] : List Int) = 0 := by decide
              have k7 : cnt 7 ([3, 4] : List Int) = 0 := by decide
              have k8 : cnt 8 ([3, 4] : List Int) = 0 := by decide
              have kl : ((([3, 4] : List Int).length : Nat) : Int) = 2 := rfl
              refine ⟨⟨?_, ?_, ?_, ?_, ?_, ?_, ?_, ?_, ?_, ?_, ?_, ?_, ?_⟩, ?_, ?_, ?_, ?_, ?_, ?_, ?_, ?_, ?_, ?_, ?_, ?_, ?_, ?_, ?_, ?_⟩ <;> (try dsimp only) <;> omega
            · have E5 : age5 e (susp (c), [3]) = (susp (c), [3]) := if_neg (fun x => h5 x.2)
              have EM : ageM l e (c, []) = (susp (c), [3]) := by rw [EQ, E4, E5]
              rw [EM]
              simp only [susp]
              have hst : (if c.st = 3 then (5 : Int) else c.st) = 5 ∧ c.st ≠ 4 ∨ (if c.st = 3 then (5 : Int) else c.st) = 4 ∧ c.st = 4 := by split <;> omega
              generalize (if c.st = 3 then (5 : Int) else c.st) = stn at *
              have k1 : cnt 1 ([3] : List Int) = 0 := by decide
              have k2 : cnt 2 ([3] : List Int) = 0 := by decide
              have k3 : cnt 3 ([3] : List Int) = 1 := by decide
              have k4 : cnt 4 ([3] : List Int) = 0 := by decide
              have k5 : cnt 5 ([3] : List Int) = 0 := by decide
              have k6 : cnt 6 ([3] : List Int) = 0 := by decide
              have k7 : cnt 7 ([3] : List Int) = 0 := by decide
              have k8 : cnt 8 ([3] : List Int) = 0 := by decide
              have kl : ((([3] : List Int).length : Nat) : Int) = 1 := rfl
              refine ⟨⟨?_, ?_, ?_, ?_, ?_, ?_, ?_, ?_, ?_, ?_, ?_, ?_, ?_⟩, ?_, ?_, ?_, ?_, ?_, ?_, ?_, ?_, ?_, ?_, ?_, ?_, ?_, ?_, ?_, ?_⟩ <;> (try dsimp only) <;> omega
          · have E4 : age4 q.na e (c, []) = (c, []) := if_neg (fun x => h4a x.2.2)
            by_cases h5 : c.dl ≤ e.t
            · have E5 : age5 e (c, []) = (endC 8 (c), [4]) := if_pos ⟨hp, h5⟩
              have EM : ageM l e (c, []) = (endC 8 (c), [4]) := by rw [EQ, E4, E5]
              rw [EM]
              simp only [endC]
              have k1 : cnt 1 ([4] : List Int) = 0 := by decide
              have k2 : cnt 2 ([4] : List Int) = 0 := by decide
              have k3 : cnt 3 ([4] : List Int) = 0 := by decide
              have k4 : cnt 4 ([4] : List Int) = 1 := by decide
              have k5 : cnt 5 ([4] : List Int) = 0 := by decide
              have k6 : cnt 6 ([4] : List Int) = 0 := by decide
              have k7 : cnt 7 ([4] : List Int) = 0 := by decide
              have k8 : cnt 8 ([4] : List Int) = 0 := by decide
              have kl : ((([4] : List Int).length : Nat) : Int) = 1 := rfl
              refine ⟨⟨?_, ?_, ?_, ?_, ?_, ?_, ?_, ?_, ?_, ?_, ?_, ?_, ?_⟩, ?_, ?_, ?_, ?_, ?_, ?_, ?_, ?_, ?_, ?_, ?_, ?_, ?_, ?_, ?_, ?_⟩ <;> (try dsimp only) <;> omega
            · have E5 : age5 e (c, []) = (c, []) := if_neg (fun x => h5 x.2)
              have EM : ageM l e (c, []) = (c, []) := by rw [EQ, E4, E5]
              rw [EM]
              have k1 : cnt 1 ([] : List Int) = 0 := by decide
              have k2 : cnt 2 ([] : List Int) = 0 := by decide
              have k3 : cnt 3 ([] : List Int) = 0 := by decide
              have k4 : cnt 4 ([] : List Int) = 0 := by decide
              have k5 : cnt 5 ([] : List Int) = 0 := by decide
              have k6 : cnt 6 ([] : List Int) = 0 := by decide
              have k7 : cnt 7 ([] : List Int) = 0 := by decide
              have k8 : cnt 8 ([] : List Int) = 0 := by decide
              have kl : ((([] : List Int).length : Nat) : Int) = 0 := rfl
              refine ⟨⟨?_, ?_, ?_, ?_, ?_, ?_, ?_, ?_, ?_, ?_, ?_, ?_, ?_⟩, ?_, ?_, ?_, ?_, ?_, ?_, ?_, ?_, ?_, ?_, ?_, ?_, ?_, ?_, ?_, ?_⟩ <;> (try dsimp only) <;> omega
        · have hs1 : sI c.su = 1 := by rw [hs]; rfl
          have E4 : age4 q.na e (c, []) = (c, []) := if_neg (fun x => by rw [hs] at x; cases x.2.1)
          by_cases h5 : c.dl ≤ e.t
          · have E5 : age5 e (c, []) = (endC 8 (c), [4]) := if_pos ⟨hp, h5⟩
            have EM : ageM l e (c, []) = (endC 8 (c), [4]) := by rw [EQ, E4, E5]
            rw [EM]
            simp only [endC]
            have k1 : cnt 1 ([4] : List Int) = 0 := by decide
            have k2 : cnt 2 ([4] : List Int) = 0 := by decide
            have k3 : cnt 3 ([4] : List Int) = 0 := by decide
            have k4 : cnt 4 ([4] : List Int) = 1 := by decide
            have k5 : cnt 5 ([4] : List Int) = 0 := by decide
            have k6 : cnt 6 ([4] : List Int) = 0 := by decide
            have k7 : cnt 7 ([4] : List Int) = 0 := by decide
            have k8 : cnt 8 ([4] : List Int) = 0 := by decide
            have kl : ((([4] : List Int).length : Nat) : Int) = 1 := rfl
            refine ⟨⟨?_, ?_, ?_, ?_, ?_, ?_, ?_, ?_, ?_, ?_, ?_, ?_, ?_⟩, ?_, ?_, ?_, ?_, ?_, ?_, ?_, ?_, ?_, ?_, ?_, ?_, ?_, ?_, ?_, ?_⟩ <;> (try dsimp only) <;> omega
          · have E5 : age5 e (c, []) = (c, []) := if_neg (fun x => h5 x.2)
            have EM : ageM l e (c, []) = (c, []) := by rw [EQ, E4, E5]
            rw [EM]
            have k1 : cnt 1 ([] : List Int) = 0 := by decide
            have k2 : cnt 2 ([] : List Int) = 0 := by decide
            have k3 : cnt 3 ([] : List Int) = 0 := by decide
            have k4 : cnt 4 ([] : List Int) = 0 := by decide
            have k5 : cnt 5 ([] : List Int) = 0 := by decide
            have k6 : cnt 6 ([] : List Int) = 0 := by decide
            have k7 : cnt 7 ([] : List Int) = 0 := by decide
            have k8 : cnt 8 ([] : List Int) = 0 := by decide
            have kl : ((([] : List Int).length : Nat) : Int) = 0 := rfl
            refine ⟨⟨?_, ?_, ?_, ?_, ?_, ?_, ?_, ?_, ?_, ?_, ?_, ?_, ?_⟩, ?_, ?_, ?_, ?_, ?_, ?_, ?_, ?_, ?_, ?_, ?_, ?_, ?_, ?_, ?_, ?_⟩ <;> (try dsimp only) <;> omega

/-- Step, of a case that came about: refused, or a fact. -/
theorem step_fact {hs : List Int} {q : Pn} (hq : pn l = q) (P : Pol q) (I : Inv q n c) (hn : 0 ≤ n ∧ n < 4611686018427387904) (E : EvOk e) (h : (stepA l hs c e).1 = 0) : Fact q n c e (stepA l hs c e).2.1 (stepA l hs c e).2.2 := by
  have h0 : (stepM l hs c e).1 = 0 := by
    unfold stepA at h
    by_cases x : (stepM l hs c e).1 = 0
    · exact x
    · rw [if_neg x] at h; exact absurd h x
  have e0 : stepA l hs c e = stepM l hs c e := if_pos h0
  rw [e0]
  cases hg : good l hs
  · unfold stepM at h0; rw [hg] at h0; simp at h0
  have e1 : stepM l hs c e = ruleR l e (c, []) := by unfold stepM; rw [hg]; rfl
  rw [e1] at h0 ⊢
  unfold ruleR at h0 ⊢
  by_cases k1 : e.k = 1
  · rw [if_pos k1] at h0 ⊢; exact age_fact hq P I hn E k1 h0
  rw [if_neg k1] at h0 ⊢
  by_cases k2 : e.k = 2
  · rw [if_pos k2] at h0 ⊢; exact paid_fact P I hn E k2 h0
  rw [if_neg k2] at h0 ⊢
  by_cases k3 : e.k = 3
  · rw [if_pos k3] at h0 ⊢; exact ret_fact P I hn E k3 h0
  rw [if_neg k3] at h0 ⊢
  by_cases k4 : e.k = 4
  · rw [if_pos k4] at h0 ⊢; exact pro_fact hq P I hn E k4 h0
  rw [if_neg k4] at h0 ⊢
  by_cases k5 : e.k = 5
  · rw [if_pos k5] at h0 ⊢; exact res_fact hq P I hn E k5 h0
  rw [if_neg k5] at h0 ⊢
  by_cases k6 : e.k = 6
  · rw [if_pos k6] at h0 ⊢; exact fee_fact hq P I hn E k6 h0
  rw [if_neg k6] at h0 ⊢
  by_cases k7 : e.k = 7
  · rw [if_pos k7] at h0 ⊢; exact shut_fact P I hn E k7 h0
  rw [if_neg k7] at h0
  simp at h0
theorem step_no {hs : List Int} (h : (stepA l hs c e).1 ≠ 0) : (stepA l hs c e).2 = (c, []) := by
  unfold stepA at h ⊢
  by_cases x : (stepM l hs c e).1 = 0
  · rw [if_pos x] at h; exact absurd x h
  · rw [if_neg x]
theorem step_bad {hs : List Int} (h : good l hs = false) : stepA l hs c e = (120, (c, [])) := by
  have : stepM l hs c e = (120, (c, [])) := by unfold stepM; rw [h]; rfl
  unfold stepA; rw [this]; rfl
end
end CoM
end Go.Proofs.YtmbbigkpeefjjabDoor
