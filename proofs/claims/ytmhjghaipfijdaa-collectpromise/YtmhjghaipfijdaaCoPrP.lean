/-
  Ours: what CollectPromise asks, of the pure rules.
-/
import Derived.Test.YtmhjghaipfijdaaCoZ0
namespace Go.Proofs.Ytmhjghaipfijdaa
open Go.RowKit LedM PolM CoM
namespace CoM
theorem step_ok {l hs : List Int} {c : Cs} {e : Ev} {x : Mc} (hg : good l hs = true) (h : ruleR l e (c, []) = (0, x)) : stepA l hs c e = (0, x) := by
  have : stepM l hs c e = (0, x) := by unfold stepM; rw [hg, if_pos rfl, h]
  unfold stepA; rw [this]; rfl
structure PF (l hs : List Int) (t d a b : Int) (c1 c2 c3 k s z : Cs) (r1 rs rz : List Int) : Prop where
  s1 : stepA l hs fresh ⟨1, t, wrap64 (l.getD 1 0 + 1), 0⟩ = (0, (c1, r1))
  s2 : stepA l hs c1 ⟨4, t, d, a⟩ = (0, (c2, []))
  s3 : stepA l hs c2 ⟨2, 0, 1, b⟩ = (0, (c3, []))
  s4 : stepA l hs c3 ⟨2, 0, 1, wrap64 (a - b)⟩ = (0, (k, [5]))
  s5 : stepA l hs c3 ⟨1, wrap64 (t + d), 1, 0⟩ = (0, (s, rs))
  s6 : stepA l hs c3 ⟨1, wrap64 (wrap64 (t + d) + 1), 1, 0⟩ = (0, (z, 1 :: rz))
  f1 : c2.st = 4
  f2 : c2.pd = wrap64 (t + d)
  f3 : c2.dl = wrap64 (wrap64 (t + l.getD 3 0) + d)
  f4 : c3.pg = b
  f5 : k.ke = 1
  f6 : opn k = true
  f7 : (k.st == 4) = false
  f8 : s.st = 4
  f9 : cnt 1 rs = 0
  f10 : z.br = 1
  f11 : (z.st != 4) = true
  f12 : rs.length ≤ 1
theorem ne4 (u : Bool) : ((if u = true then (5 : Int) else 3) == 4) = false := by cases u <;> rfl
theorem promise_pure {l hs : List Int} {t d a b : Int} (hg : good l hs = true) (h9 : 1 ≤ l.getD 9 0) (ht : 1 ≤ t ∧ t ≤ 3651959) (hd : 1 ≤ d ∧ d ≤ l.getD 10 0) (ha : 2 ≤ a) (hb : 1 ≤ b ∧ b < a) (hi : a ≤ 9223372036854775807) :
    ∃ c1 c2 c3 k s z r1 rs rz, PF l hs t d a b c1 c2 c3 k s z r1 rs rz := by
  have P := pol_of hg
  obtain ⟨b1, b2, b3, -, -, -, b7, -⟩ := P
  simp only [pn] at b1 b2 b3 b7
  have w1 : wrap64 (l.getD 1 0 + 1) = l.getD 1 0 + 1 := wr (by omega) (by omega)
  have w2 : wrap64 (t + l.getD 3 0) = t + l.getD 3 0 := wr (by omega) (by omega)
  have w3 : wrap64 (t + d) = t + d := wr (by omega) (by omega)
  have w4 : wrap64 (t + d + 1) = t + d + 1 := wr (by omega) (by omega)
  have w5 : wrap64 (a - b) = a - b := wr (by omega) (by omega)
  have w6 : wrap64 (t + l.getD 3 0 + d) = t + l.getD 3 0 + d := wr (by omega) (by omega)
  have w7 : wrap64 (a - 0) = a := by rw [Int.sub_zero]; exact wr (by omega) (by omega)
  have w8 : wrap64 (0 + b) = b := by rw [Int.zero_add]; exact wr (by omega) (by omega)
  have w9 : wrap64 (0 + 1) = 1 := by simp [wrap64]
  have i1 : isD t = true := decide_eq_true (by omega)
  have i2 : isD (t + d) = true := decide_eq_true (by omega)
  have i3 : isD (t + d + 1) = true := decide_eq_true (by omega)
  generalize hgr : l.getD 1 0 = gr at *
  generalize hna : l.getD 2 0 = na at *
  generalize hco : l.getD 3 0 = co at *
  have hC : ∃ c1 r1, stepA l hs fresh ⟨1, t, gr + 1, 0⟩ = (0, (c1, r1)) ∧ (c1.st = 3 ∨ c1.st = 5) ∧ c1.dl = t + co ∧ c1.pr = 0 ∧ c1.ke = 0 ∧ c1.br = 0 := by
    have E1 : age1 ⟨1, t, gr + 1, 0⟩ (fresh, []) = (fresh, []) := if_neg (by simp [fresh])
    have E3 : age3 gr co ⟨1, t, gr + 1, 0⟩ (fresh, []) = (opC co t fresh, [2]) := by
      unfold age3 lok; rw [if_neg (by simp [opn, fresh])]; dsimp only; rw [if_pos (by omega)]; rfl
    have hO : opn (opC co t fresh) = true := by simp [opn, opC]
    have EM : ageM l ⟨1, t, gr + 1, 0⟩ (fresh, []) = age5 ⟨1, t, gr + 1, 0⟩ (age4 na ⟨1, t, gr + 1, 0⟩ (opC co t fresh, [2])) := by
      unfold ageM; rw [E1, if_neg (by simp [opn, fresh]), hgr, hco, hna, E3]
    have ES : stepA l hs fresh ⟨1, t, gr + 1, 0⟩ = (0, ageM l ⟨1, t, gr + 1, 0⟩ (fresh, [])) := step_ok hg (by
      unfold ruleR ageR; rw [if_pos rfl]; dsimp only; rw [if_neg (fun x => by rcases x with x | x; (rw [i1] at x; cases x); omega), if_neg (by simp [ovr, fresh])])
    rw [ES, EM]
    by_cases h4 : na ≤ gr + 1
    · have E4 : age4 na ⟨1, t, gr + 1, 0⟩ (opC co t fresh, [2]) = (susp (opC co t fresh), [2, 3]) := if_pos ⟨hO, rfl, h4⟩
      have E5 : age5 ⟨1, t, gr + 1, 0⟩ (susp (opC co t fresh), [2, 3]) = (susp (opC co t fresh), [2, 3]) := if_neg (fun x => by
        have x2 : wrap64 (t + co) ≤ t := x.2
        rw [w2] at x2; omega)
      rw [E4, E5]
      exact ⟨_, _, rfl, .inr rfl, w2, rfl, rfl, rfl⟩
    · have E4 : age4 na ⟨1, t, gr + 1, 0⟩ (opC co t fresh, [2]) = (opC co t fresh, [2]) := if_neg (fun x => h4 x.2.2)
      have E5 : age5 ⟨1, t, gr + 1, 0⟩ (opC co t fresh, [2]) = (opC co t fresh, [2]) := if_neg (fun x => by
        have x2 : wrap64 (t + co) ≤ t := x.2
        rw [w2] at x2; omega)
      rw [E4, E5]
      exact ⟨_, _, rfl, .inl rfl, w2, rfl, rfl, rfl⟩
  obtain ⟨c1, r1, e1, q1, q2, q3, q4, q5⟩ := hC
  have o1 : opn c1 = true := decide_eq_true (by omega)
  have v1 : ovr c1 = false := decide_eq_false (by omega)
  have e2 : stepA l hs c1 ⟨4, t, d, a⟩ = (0, proM ⟨4, t, d, a⟩ (c1, [])) := step_ok hg (by
    unfold ruleR; dsimp only; rw [if_neg (by decide), if_neg (by decide), if_neg (by decide), if_pos rfl]
    unfold proR; dsimp only
    rw [i1, v1, o1, if_neg (fun x => by rcases x with x | x | x; (exact absurd x (by decide)); omega; omega), if_neg (by omega), if_neg (by decide), if_neg (by decide), if_neg (by omega), if_neg (by omega)])
  obtain ⟨c2, hc2⟩ : ∃ c2, c2 = (proM ⟨4, t, d, a⟩ (c1, [])).1 := ⟨_, rfl⟩
  have g1 : c2.st = 4 := by rw [hc2]; rfl
  have g2 : c2.pd = t + d := by rw [hc2]; exact w3
  have g3 : c2.dl = t + co + d := by rw [hc2]; show wrap64 (c1.dl + d) = _; rw [q2]; exact w6
  have g4 : c2.pa = a := by rw [hc2]; rfl
  have g5 : c2.pg = 0 := by rw [hc2]; rfl
  have g6 : c2.ke = 0 := by rw [hc2]; exact q4
  have g7 : c2.br = 0 := by rw [hc2]; exact q5
  have e2' : stepA l hs c1 ⟨4, t, d, a⟩ = (0, (c2, [])) := by rw [e2, hc2]; rfl
  clear hc2 e2
  have o2 : opn c2 = true := decide_eq_true (by omega)
  have v2 : ovr c2 = false := decide_eq_false (by omega)
  obtain ⟨c3, hc3⟩ : ∃ c3 : Cs, c3 = { c2 with pg := wrap64 (c2.pg + b) } := ⟨_, rfl⟩
  have m1 : c3.st = 4 := by rw [hc3]; exact g1
  have m2 : c3.pd = t + d := by rw [hc3]; exact g2
  have m3 : c3.dl = t + co + d := by rw [hc3]; exact g3
  have m4 : c3.pa = a := by rw [hc3]; exact g4
  have m5 : c3.pg = b := by rw [hc3]; show wrap64 (c2.pg + b) = b; rw [g5]; exact w8
  have m6 : c3.ke = 0 := by rw [hc3]; exact g6
  have m7 : c3.br = 0 := by rw [hc3]; exact g7
  have o3 : opn c3 = true := decide_eq_true (by omega)
  have v3 : ovr c3 = false := decide_eq_false (by omega)
  have e3 : stepA l hs c2 ⟨2, 0, 1, b⟩ = (0, (c3, [])) := step_ok hg (by
    unfold ruleR; dsimp only; rw [if_neg (by decide), if_pos rfl]
    unfold paidR; dsimp only
    rw [if_neg (by omega), if_neg (by decide), v2, if_neg (by decide)]
    have p1 : pay1 b (c2, []) = (c3, []) := by
      unfold pay1; dsimp only; rw [if_pos g1, if_pos (by rw [g4, g5, w7]; omega), hc3]
    unfold paidM; dsimp only; rw [p1, if_neg (by simp), if_neg (by simp)])
  have e4 : stepA l hs c3 ⟨2, 0, 1, a - b⟩ = (0, (kept c3, [5])) := step_ok hg (by
    unfold ruleR; dsimp only; rw [if_neg (by decide), if_pos rfl]
    unfold paidR; dsimp only
    rw [if_neg (by omega), if_neg (by decide), v3, if_neg (by decide)]
    have p1 : pay1 (a - b) (c3, []) = (kept c3, [5]) := by
      unfold pay1; dsimp only; rw [if_pos m1, m4, m5, w5, if_neg (by omega)]; rfl
    unfold paidM; dsimp only; rw [p1, if_neg (by simp), if_neg (by simp)])
  have n1 : age1 ⟨1, t + d, 1, 0⟩ (c3, []) = (c3, []) := if_neg (fun x => by
    have x2 : c3.pd < t + d := x.2
    omega)
  have e5 : ∃ s rs, stepA l hs c3 ⟨1, t + d, 1, 0⟩ = (0, (s, rs)) ∧ s.st = 4 ∧ cnt 1 rs = 0 ∧ rs.length ≤ 1 := by
    have ES : stepA l hs c3 ⟨1, t + d, 1, 0⟩ = (0, ageM l ⟨1, t + d, 1, 0⟩ (c3, [])) := step_ok hg (by
      unfold ruleR ageR; rw [if_pos rfl]; dsimp only; rw [if_neg (fun x => by rcases x with x | x; (rw [i2] at x; cases x); omega), v3, if_neg (by decide)])
    have EM : ageM l ⟨1, t + d, 1, 0⟩ (c3, []) = age5 ⟨1, t + d, 1, 0⟩ (age4 na ⟨1, t + d, 1, 0⟩ (c3, [])) := by
      unfold ageM; rw [n1, if_neg (by simp), hna]; unfold age3; rw [if_pos o3]
    rw [ES, EM]
    unfold age4
    by_cases h4 : opn c3 = true ∧ c3.su = false ∧ na ≤ 1
    · rw [if_pos h4]
      have E5 : age5 ⟨1, t + d, 1, 0⟩ (susp c3, [] ++ [3]) = (susp c3, [] ++ [3]) := if_neg (fun x => by
        have x2 : c3.dl ≤ t + d := x.2
        omega)
      rw [E5]
      exact ⟨_, _, rfl, by show (if c3.st = 3 then 5 else c3.st) = 4; rw [if_neg (by omega)]; exact m1, by simp [cnt], by simp⟩
    · rw [if_neg h4]
      have E5 : age5 ⟨1, t + d, 1, 0⟩ (c3, []) = (c3, []) := if_neg (fun x => by
        have x2 : c3.dl ≤ t + d := x.2
        omega)
      rw [E5]
      exact ⟨_, _, rfl, m1, by simp [cnt], by simp⟩
  have n2 : age1 ⟨1, t + d + 1, 1, 0⟩ (c3, []) = (brk c3, [1]) := if_pos ⟨m1, by show c3.pd < t + d + 1; omega⟩
  have k1 : (brk c3).br = 1 := by show wrap64 (c3.br + 1) = 1; rw [m7]; exact w9
  have k2 : (brk c3).st = 3 ∨ (brk c3).st = 5 := by show (if c3.su then (5 : Int) else 3) = 3 ∨ (if c3.su then (5 : Int) else 3) = 5; cases c3.su <;> simp
  have e6 : ∃ z rz, stepA l hs c3 ⟨1, t + d + 1, 1, 0⟩ = (0, (z, 1 :: rz)) ∧ z.br = 1 ∧ z.st ≠ 4 := by
    have ES : stepA l hs c3 ⟨1, t + d + 1, 1, 0⟩ = (0, ageM l ⟨1, t + d + 1, 1, 0⟩ (c3, [])) := step_ok hg (by
      unfold ruleR ageR; rw [if_pos rfl]; dsimp only; rw [if_neg (fun x => by rcases x with x | x; (rw [i3] at x; cases x); omega), v3, if_neg (by decide)])
    have ob : opn (brk c3) = true := decide_eq_true (by omega)
    have EM : ageM l ⟨1, t + d + 1, 1, 0⟩ (c3, []) = age5 ⟨1, t + d + 1, 1, 0⟩ (age4 na ⟨1, t + d + 1, 1, 0⟩ (brk c3, [1])) := by
      unfold ageM; rw [n2, if_neg (by simp), hna]; unfold age3; rw [if_pos ob]
    rw [ES, EM]
    have K : ∀ (c : Cs) (r : List Int), c.br = 1 → (c.st = 3 ∨ c.st = 5) → ∃ z rz, age5 ⟨1, t + d + 1, 1, 0⟩ (c, 1 :: r) = (z, 1 :: rz) ∧ z.br = 1 ∧ z.st ≠ 4 := fun c r x y => by
      unfold age5
      split
      · exact ⟨endC 8 c, r ++ [4], rfl, x, by show (8 : Int) ≠ 4; decide⟩
      · exact ⟨c, r, rfl, x, by omega⟩
    have K4 : ∃ c r, age4 na ⟨1, t + d + 1, 1, 0⟩ (brk c3, [1]) = (c, 1 :: r) ∧ c.br = 1 ∧ (c.st = 3 ∨ c.st = 5) := by
      unfold age4
      split
      · exact ⟨susp (brk c3), [3], rfl, k1, by show (if (brk c3).st = 3 then 5 else (brk c3).st) = 3 ∨ (if (brk c3).st = 3 then 5 else (brk c3).st) = 5; rcases k2 with k | k <;> rw [k] <;> simp⟩
      · exact ⟨brk c3, [], rfl, k1, k2⟩
    obtain ⟨c, r, x1, x2, x3⟩ := K4
    obtain ⟨z, rz, y1, y2, y3⟩ := K c r x2 x3
    rw [x1, y1]
    exact ⟨z, rz, rfl, y2, y3⟩
  obtain ⟨s, rs, e5, j1, j2, j5⟩ := e5
  obtain ⟨z, rz, e6, j3, j4⟩ := e6
  refine ⟨c1, c2, c3, kept c3, s, z, r1, rs, rz, ⟨by rw [hgr, w1]; exact e1, e2', e3, by rw [w5]; exact e4, by rw [w3]; exact e5, by rw [w3, w4]; exact e6, g1, by rw [w3]; exact g2, by rw [hco, w2, w6]; exact g3, m5, by show wrap64 (c3.ke + 1) = 1; rw [m6]; exact w9, ?_, ?_, j1, j2, j3, by simpa using j4, j5⟩⟩
  · refine decide_eq_true ?_
    show (if c3.su then (5 : Int) else 3) = 3 ∨ (if c3.su then (5 : Int) else 3) = 4 ∨ (if c3.su then (5 : Int) else 3) = 5
    cases c3.su <;> simp
  · exact ne4 c3.su
end CoM
end Go.Proofs.Ytmhjghaipfijdaa
