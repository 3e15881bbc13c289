/-
  Ours: the reference's order of refusals is the program's: pure (gen_corf4.py).
-/
import Derived.Test.YtmbbigkpeefjjabDoorCoInv
namespace Go.Proofs.YtmbbigkpeefjjabDoor
namespace CoM
open LedM PolM Go.RowKit
def numR (pd : Int) (e : Ev) : Int :=
  if e.k = 1 then (if isD e.t = false ∨ e.d < 0 then 2 else 0) else if e.k = 2 then (if e.a < 1 then 4 else if e.d < 0 then 2 else 0)
  else if e.k = 3 ∨ e.k = 6 then (if e.a < 1 then 4 else 0) else if e.k = 4 then (if isD e.t = false ∨ e.d < 1 ∨ pd < e.d then 2 else if e.a < 1 then 4 else 0) else 0
def staR (pm rm cc lc : Int) (c : Cs) (e : Ev) : Int :=
  if ovr c then 130 else if (e.k = 4 ∨ e.k = 5 ∨ e.k = 6) ∧ opn c = false then 131 else if (e.k = 4 ∨ e.k = 6) ∧ c.st = 4 then 132
  else if e.k = 4 ∧ pm ≤ c.pr then 133 else if e.k = 5 ∧ rm ≤ c.re then 133 else if e.k = 6 ∧ (wrap64 (cc - c.cf) < e.a ∨ wrap64 (lc - c.lf) < e.a) then 133 else 0
def takR (l : List Int) (e : Ev) (c : Cs) : Mc :=
  if e.k = 1 then ageM l e (c, []) else if e.k = 2 then paidM e (c, []) else if e.k = 3 then ((retM e (c, [])).1, []) else if e.k = 4 then proM e (c, [])
  else if e.k = 5 then resM (c, []) else if e.k = 6 then feeM e (c, []) else shutM (c, [])
def refR (l : List Int) (c : Cs) (e : Ev) : An :=
  if e.k < 1 ∨ 7 < e.k then (2, (c, [])) else if numR (l.getD 10 0) e ≠ 0 then (numR (l.getD 10 0) e, (c, []))
  else if staR (l.getD 9 0) (l.getD 11 0) (l.getD 7 0) (l.getD 8 0) c e ≠ 0 then (staR (l.getD 9 0) (l.getD 11 0) (l.getD 7 0) (l.getD 8 0) c e, (c, [])) else (0, takR l e c)
/-- The fees so far may be held against the caps. -/
def FQ (l : List Int) (c : Cs) : Prop := 0 ≤ l.getD 1 0 ∧ (∀ a : Int, 1 ≤ a → c.cf ≤ l.getD 7 0 ∨ wrap64 (l.getD 7 0 - c.cf) < a) ∧ (∀ a : Int, 1 ≤ a → c.lf ≤ l.getD 8 0 ∨ wrap64 (l.getD 8 0 - c.lf) < a)
theorem retM_nil (e : Ev) (c : Cs) : retM e (c, []) = ((retM e (c, [])).1, []) := by unfold retM; split <;> rfl
theorem two0 : (2 : Int) ≠ 0 := by decide
theorem four0 : (4 : Int) ≠ 0 := by decide
theorem b0 : (130 : Int) ≠ 0 ∧ (131 : Int) ≠ 0 ∧ (132 : Int) ≠ 0 ∧ (133 : Int) ≠ 0 := by decide
/-- What a rule answers, refusals with the case as it was. -/
def back (c : Cs) (r : An) : An := if r.1 = 0 then r else (r.1, (c, []))
set_option linter.unusedSimpArgs false in
theorem ref_1 (l : List Int) (c : Cs) (e : Ev) (hk : e.k = 1) : back c (ageR l e (c, [])) = refR l c e := by
  unfold back refR ageR
  generalize l.getD 7 0 = CC
  generalize l.getD 8 0 = LC
  generalize l.getD 9 0 = PM
  generalize l.getD 10 0 = PD
  generalize l.getD 11 0 = RM
  by_cases h0 : isD e.t = false ∨ e.d < 0
  · simp [numR, staR, takR, hk, h0]
  · by_cases h1 : ovr c = true
    · simp [numR, staR, takR, hk, h0, h1]
    · simp [numR, staR, takR, hk, h0, h1]
set_option linter.unusedSimpArgs false in
theorem ref_2 (l : List Int) (c : Cs) (e : Ev) (hk : e.k = 2) : back c (paidR e (c, [])) = refR l c e := by
  unfold back refR paidR
  generalize l.getD 7 0 = CC
  generalize l.getD 8 0 = LC
  generalize l.getD 9 0 = PM
  generalize l.getD 10 0 = PD
  generalize l.getD 11 0 = RM
  by_cases h0 : e.a < 1
  · simp [numR, staR, takR, hk, h0]
  · by_cases h1 : e.d < 0
    · simp [numR, staR, takR, hk, h0, h1]
    · by_cases h2 : ovr c = true
      · simp [numR, staR, takR, hk, h0, h1, h2]
      · simp [numR, staR, takR, hk, h0, h1, h2]
set_option linter.unusedSimpArgs false in
theorem ref_3 (l : List Int) (c : Cs) (e : Ev) (hk : e.k = 3) : back c (retR e (c, [])) = refR l c e := by
  unfold back refR retR
  generalize l.getD 7 0 = CC
  generalize l.getD 8 0 = LC
  generalize l.getD 9 0 = PM
  generalize l.getD 10 0 = PD
  generalize l.getD 11 0 = RM
  by_cases h0 : e.a < 1
  · simp [numR, staR, takR, hk, h0]
  · by_cases h1 : ovr c = true
    · simp [numR, staR, takR, hk, h0, h1]
    · simp [numR, staR, takR, hk, h0, h1]
      exact retM_nil e c
set_option linter.unusedSimpArgs false in
theorem ref_4 (l : List Int) (c : Cs) (e : Ev) (hk : e.k = 4) : back c (proR l e (c, [])) = refR l c e := by
  unfold back refR proR
  generalize l.getD 7 0 = CC
  generalize l.getD 8 0 = LC
  generalize l.getD 9 0 = PM
  generalize l.getD 10 0 = PD
  generalize l.getD 11 0 = RM
  by_cases h0 : isD e.t = false ∨ e.d < 1 ∨ PD < e.d
  · simp [numR, staR, takR, hk, h0]
  · by_cases h1 : e.a < 1
    · simp [numR, staR, takR, hk, h0, h1]
    · by_cases h2 : ovr c = true
      · simp [numR, staR, takR, hk, h0, h1, h2]
      · by_cases h3 : opn c = false
        · simp [numR, staR, takR, hk, h0, h1, h2, h3]
        · by_cases h4 : c.st = 4
          · simp [numR, staR, takR, hk, h0, h1, h2, h3, h4]
          · by_cases h5 : PM ≤ c.pr
            · simp [numR, staR, takR, hk, h0, h1, h2, h3, h4, h5]
            · simp [numR, staR, takR, hk, h0, h1, h2, h3, h4, h5]
set_option linter.unusedSimpArgs false in
theorem ref_5 (l : List Int) (c : Cs) (e : Ev) (hk : e.k = 5) : back c (resR l (c, [])) = refR l c e := by
  unfold back refR resR
  generalize l.getD 7 0 = CC
  generalize l.getD 8 0 = LC
  generalize l.getD 9 0 = PM
  generalize l.getD 10 0 = PD
  generalize l.getD 11 0 = RM
  by_cases h0 : ovr c = true
  · simp [numR, staR, takR, hk, h0]
  · by_cases h1 : opn c = false
    · simp [numR, staR, takR, hk, h0, h1]
    · by_cases h2 : RM ≤ c.re
      · simp [numR, staR, takR, hk, h0, h1, h2]
      · simp [numR, staR, takR, hk, h0, h1, h2]
set_option linter.unusedSimpArgs false in
theorem ref_6 (l : List Int) (c : Cs) (e : Ev) (hk : e.k = 6) : back c (feeR l e (c, [])) = refR l c e := by
  unfold back refR feeR
  generalize l.getD 7 0 = CC
  generalize l.getD 8 0 = LC
  generalize l.getD 9 0 = PM
  generalize l.getD 10 0 = PD
  generalize l.getD 11 0 = RM
  by_cases h0 : e.a < 1
  · simp [numR, staR, takR, hk, h0]
  · by_cases h1 : ovr c = true
    · simp [numR, staR, takR, hk, h0, h1]
    · by_cases h2 : opn c = false
      · simp [numR, staR, takR, hk, h0, h1, h2]
      · by_cases h3 : c.st = 4
        · simp [numR, staR, takR, hk, h0, h1, h2, h3]
        · by_cases h4 : wrap64 (CC - c.cf) < e.a ∨ wrap64 (LC - c.lf) < e.a
          · simp [numR, staR, takR, hk, h0, h1, h2, h3, h4]
          · simp [numR, staR, takR, hk, h0, h1, h2, h3, h4]
set_option linter.unusedSimpArgs false in
theorem ref_7 (l : List Int) (c : Cs) (e : Ev) (hk : e.k = 7) : back c (shutR (c, [])) = refR l c e := by
  unfold back refR shutR
  generalize l.getD 7 0 = CC
  generalize l.getD 8 0 = LC
  generalize l.getD 9 0 = PM
  generalize l.getD 10 0 = PD
  generalize l.getD 11 0 = RM
  by_cases h0 : ovr c = true
  · simp [numR, staR, takR, hk, h0]
  · simp [numR, staR, takR, hk, h0]
theorem step_ref {l hs : List Int} (hg : good l hs = true) (c : Cs) (e : Ev) : stepA l hs c e = refR l c e := by
  have e0 : stepA l hs c e = back c (ruleR l e (c, [])) := by
    have e1 : stepM l hs c e = ruleR l e (c, []) := by unfold stepM; rw [if_pos hg]
    unfold stepA; rw [e1]; rfl
  rw [e0]
  by_cases k1 : e.k = 1
  · rw [← ref_1 l c e k1]; unfold ruleR; rw [if_pos k1]
  by_cases k2 : e.k = 2
  · rw [← ref_2 l c e k2]; unfold ruleR; rw [if_neg (by omega), if_pos k2]
  by_cases k3 : e.k = 3
  · rw [← ref_3 l c e k3]; unfold ruleR; rw [if_neg (by omega), if_neg (by omega), if_pos k3]
  by_cases k4 : e.k = 4
  · rw [← ref_4 l c e k4]; unfold ruleR; rw [if_neg (by omega), if_neg (by omega), if_neg (by omega), if_pos k4]
  by_cases k5 : e.k = 5
  · rw [← ref_5 l c e k5]; unfold ruleR; rw [if_neg (by omega), if_neg (by omega), if_neg (by omega), if_neg (by omega), if_pos k5]
  by_cases k6 : e.k = 6
  · rw [← ref_6 l c e k6]; unfold ruleR; rw [if_neg (by omega), if_neg (by omega), if_neg (by omega), if_neg (by omega), if_neg (by omega), if_pos k6]
  by_cases k7 : e.k = 7
  · rw [← ref_7 l c e k7]; unfold ruleR; rw [if_neg (by omega), if_neg (by omega), if_neg (by omega), if_neg (by omega), if_neg (by omega), if_neg (by omega), if_pos k7]
  unfold ruleR refR back
  rw [if_neg k1, if_neg k2, if_neg k3, if_neg k4, if_neg k5, if_neg k6, if_neg k7, if_neg two0, if_pos (by omega)]
end CoM
end Go.Proofs.YtmbbigkpeefjjabDoor
