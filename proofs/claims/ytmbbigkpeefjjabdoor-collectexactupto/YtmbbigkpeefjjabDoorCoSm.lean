/-
  Ours: the machine's methods that answer nothing, isDay, over, Open.
-/
import Derived.Test.YtmbbigkpeefjjabDoorCoAt
namespace Go.Proofs.YtmbbigkpeefjjabDoor
open Go.RowKit LedM PolM CoM

section
variable {B M : Nat} {l : List Int} {s : Value} {c : Cs} {ac : List Int} {w : World}

theorem Left.trans {y : Mc} {w1 : World} {e : Ending} {w2 : World} (h : Fr B M w w1) (k : Left B M l s y w1 e w2) : Left B M l s y w e w2 := ⟨k.1, k.2.1, h.trans k.2.2⟩

set_option maxRecDepth 20000 in
set_option maxHeartbeats 1000000 in
theorem clear_at (h : MAt B M l s (c, ac) w) : Calls Tryd.prog 83 #[mptr M] w (Left B M l s (clr c, ac) w) := by
  have c24 : w.cell? ⟨M, 24, none⟩ = some (.int .i64 c.pd) := h.cs 6 (by decide) _ rfl
  have c25 : w.cell? ⟨M, 25, none⟩ = some (.int .i64 c.pa) := h.cs 7 (by decide) _ rfl
  have c26 : w.cell? ⟨M, 26, none⟩ = some (.int .i64 c.pg) := h.cs 8 (by decide) _ rfl
  have f24 := h.fz 24
  have f25 := h.fz 25
  have f26 := h.fz 26
  have lt := h.lt
  have P : Hid (Left B M l s (clr c, ac) w (.returned (.tuple #[])) (((w.setCell ⟨M, 24, none⟩ (.int .i64 0)).setCell ⟨M, 25, none⟩ (.int .i64 0)).setCell ⟨M, 26, none⟩ (.int .i64 0))) := by
    have h1 := h.put 6 (by decide) (.int .i64 0) { c with pd := 0 } rfl
    have h2 := h1.put 7 (by decide) (.int .i64 0) { c with pd := 0, pa := 0 } rfl
    have h3 := h2.put 8 (by decide) (.int .i64 0) (clr c) rfl
    exact ⟨rfl, h3, Fr.set (Fr.set (Fr.set (Fr.refl _ _ _) h.ge h.size) h1.ge h1.size) h2.ge h2.size⟩
  clear h
  generalize c.pd = x1 at *
  generalize c.pa = x2 at *
  generalize c.pg = x3 at *
  go_enter Tryd.func83, Tryd.ntmps83
  go_wp2_with fail
  go_end0
  exact P.out

set_option maxRecDepth 20000 in
set_option maxHeartbeats 2000000 in
theorem endC_at (st : Int) (h : MAt B M l s (c, ac) w) : Calls Tryd.prog 72 #[mptr M, .int .i64 st] w (Left B M l s (endC st c, ac) w) := by
  have CL : Hid (Calls Tryd.prog 83 #[mptr M] w (Left B M l s (clr c, ac) w)) := clear_at h
  clear h
  go_enter Tryd.func72, Tryd.ntmps72
  go_wp2_with fail
  refine CL.out.mono ?_
  rintro e w1 ⟨rfl, h, b1⟩
  have c18 : w1.cell? ⟨M, 18, none⟩ = some (.int .i64 c.st) := h.cs 0 (by decide) _ rfl
  have c19 : w1.cell? ⟨M, 19, none⟩ = some (.bool c.su) := h.cs 1 (by decide) _ rfl
  have c21 : w1.cell? ⟨M, 21, none⟩ = some (.int .i64 c.si) := h.cs 3 (by decide) _ rfl
  have c22 : w1.cell? ⟨M, 22, none⟩ = some (.int .i64 c.dl) := h.cs 4 (by decide) _ rfl
  have c23 : w1.cell? ⟨M, 23, none⟩ = some (.int .i64 c.pr) := h.cs 5 (by decide) _ rfl
  have c31 : w1.cell? ⟨M, 31, none⟩ = some (.int .i64 c.cf) := h.cs 13 (by decide) _ rfl
  have f18 := h.fz 18
  have f19 := h.fz 19
  have f21 := h.fz 21
  have f22 := h.fz 22
  have f23 := h.fz 23
  have f31 := h.fz 31
  have lt := h.lt
  have P : Hid (Left B M l s (endC st c, ac) w (.returned (.tuple #[])) ((((((w1.setCell ⟨M, 19, none⟩ (.bool false)).setCell ⟨M, 21, none⟩ (.int .i64 0)).setCell ⟨M, 22, none⟩ (.int .i64 0)).setCell ⟨M, 23, none⟩ (.int .i64 0)).setCell ⟨M, 31, none⟩ (.int .i64 0)).setCell ⟨M, 18, none⟩ (.int .i64 st))) := by
    have h1 := h.put 1 (by decide) (.bool false) { clr c with su := false } rfl
    have h2 := h1.put 3 (by decide) (.int .i64 0) { clr c with su := false, si := 0 } rfl
    have h3 := h2.put 4 (by decide) (.int .i64 0) { clr c with su := false, si := 0, dl := 0 } rfl
    have h4 := h3.put 5 (by decide) (.int .i64 0) { clr c with su := false, si := 0, dl := 0, pr := 0 } rfl
    have h5 := h4.put 13 (by decide) (.int .i64 0) { clr c with su := false, si := 0, dl := 0, pr := 0, cf := 0 } rfl
    have h6 := h5.put 0 (by decide) (.int .i64 st) (endC st c) rfl
    exact ⟨rfl, h6, Fr.set (Fr.set (Fr.set (Fr.set (Fr.set (Fr.set b1 h.ge h.size) h1.ge h1.size) h2.ge h2.size) h3.ge h3.size) h4.ge h4.size) h5.ge h5.size⟩
  clear h b1 CL
  generalize c.st = x1 at *
  generalize c.su = x2 at *
  generalize c.si = x3 at *
  generalize c.dl = x4 at *
  generalize c.pr = x5 at *
  generalize c.cf = x6 at *
  go_wp2_with fail
  go_end0
  exact P.out

set_option maxRecDepth 20000 in
set_option maxHeartbeats 2000000 in
theorem cure_at (h : MAt B M l s (c, ac) w) (hn : ac.length ≤ 100) : Calls Tryd.prog 69 #[mptr M] w (Left B M l s (curd c, ac ++ [6]) w) := by
  have c29 : w.cell? ⟨M, 29, none⟩ = some (.int .i64 c.cu) := h.cs 11 (by decide) _ rfl
  have f29 := h.fz 29
  have lt := h.lt
  have EC : Hid (Calls Tryd.prog 72 #[mptr M, .int .i64 6] (w.setCell ⟨M, 29, none⟩ (.int .i64 (wrap64 (c.cu + 1)))) (Left B M l s (curd c, ac) w)) := by
    have h1 := h.put 11 (by decide) (.int .i64 (wrap64 (c.cu + 1))) { c with cu := wrap64 (c.cu + 1) } rfl
    exact (endC_at 6 h1).mono fun e w' k => Left.trans (Fr.set (Fr.refl _ _ _) h.ge h.size) k
  have AC : Hid (∀ w1, MAt B M l s (curd c, ac) w1 → Calls Tryd.prog 73 #[mptr M, .int .i64 6] w1 (Left B M l s (curd c, ac ++ [6]) w1)) := fun w1 h1 => act_at 6 h1 hn
  clear h
  generalize c.cu = x at *
  go_enter Tryd.func69, Tryd.ntmps69
  go_wp2_with fail
  refine EC.out.mono ?_
  rintro e w1 ⟨rfl, h1, b1⟩
  go_wp2_with fail
  refine (AC.out w1 h1).mono ?_
  rintro e w2 ⟨rfl, h2, b2⟩
  go_wp2_with fail
  go_end0
  exact ⟨rfl, h2, b1.trans b2⟩

set_option maxRecDepth 20000 in
set_option maxHeartbeats 2000000 in
theorem endP_at (h : MAt B M l s (c, ac) w) : Calls Tryd.prog 81 #[mptr M] w (Left B M l s (endP c, ac) w) := by
  have CL : Hid (Calls Tryd.prog 83 #[mptr M] w (Left B M l s (clr c, ac) w)) := clear_at h
  clear h
  go_enter Tryd.func81, Tryd.ntmps81
  go_wp2_with fail
  refine CL.out.mono ?_
  rintro e w1 ⟨rfl, h, b1⟩
  have c18 : w1.cell? ⟨M, 18, none⟩ = some (.int .i64 c.st) := h.cs 0 (by decide) _ rfl
  have c19 : w1.cell? ⟨M, 19, none⟩ = some (.bool c.su) := h.cs 1 (by decide) _ rfl
  have f18 := h.fz 18
  have lt := h.lt
  have P0 : Hid (c.su = false → Left B M l s (endP c, ac) w (.returned (.tuple #[])) (w1.setCell ⟨M, 18, none⟩ (.int .i64 3))) := fun hz => by
    have h1 := h.put 0 (by decide) (.int .i64 3) (endP c) (by simp [endP, hz, csL, clr])
    exact ⟨rfl, h1, Fr.set b1 h.ge h.size⟩
  have P1 : Hid (c.su = true → Left B M l s (endP c, ac) w (.returned (.tuple #[])) ((w1.setCell ⟨M, 18, none⟩ (.int .i64 3)).setCell ⟨M, 18, none⟩ (.int .i64 5))) := fun hz => by
    have h1 := h.put 0 (by decide) (.int .i64 3) { clr c with st := 3 } rfl
    have h2 := h1.put 0 (by decide) (.int .i64 5) (endP c) (by simp [endP, hz, csL, clr])
    exact ⟨rfl, h2, Fr.set (Fr.set b1 h.ge h.size) h1.ge h1.size⟩
  clear h b1 CL
  generalize c.st = x1 at *
  cases hsu : c.su
  · have HS : Hid (c.su = false) := hsu
    rw [hsu] at c19
    clear hsu
    go_wp2_with fail
    go_end0
    exact P0.out HS.out
  · have HS : Hid (c.su = true) := hsu
    rw [hsu] at c19
    clear hsu
    go_wp2_with fail
    go_end0
    exact P1.out HS.out

set_option maxRecDepth 20000 in
set_option maxHeartbeats 2000000 in
theorem brk_at (h : MAt B M l s (c, ac) w) (hn : ac.length ≤ 100) : Calls Tryd.prog 68 #[mptr M] w (Left B M l s (brk c, ac ++ [1]) w) := by
  have c28 : w.cell? ⟨M, 28, none⟩ = some (.int .i64 c.br) := h.cs 10 (by decide) _ rfl
  have f28 := h.fz 28
  have lt := h.lt
  have EC : Hid (Calls Tryd.prog 81 #[mptr M] (w.setCell ⟨M, 28, none⟩ (.int .i64 (wrap64 (c.br + 1)))) (Left B M l s (brk c, ac) w)) := by
    have h1 := h.put 10 (by decide) (.int .i64 (wrap64 (c.br + 1))) { c with br := wrap64 (c.br + 1) } rfl
    exact (endP_at h1).mono fun e w' k => Left.trans (Fr.set (Fr.refl _ _ _) h.ge h.size) k
  have AC : Hid (∀ w1, MAt B M l s (brk c, ac) w1 → Calls Tryd.prog 73 #[mptr M, .int .i64 1] w1 (Left B M l s (brk c, ac ++ [1]) w1)) := fun w1 h1 => act_at 1 h1 hn
  clear h
  generalize c.br = x at *
  go_enter Tryd.func68, Tryd.ntmps68
  go_wp2_with fail
  refine EC.out.mono ?_
  rintro e w1 ⟨rfl, h1, b1⟩
  go_wp2_with fail
  refine (AC.out w1 h1).mono ?_
  rintro e w2 ⟨rfl, h2, b2⟩
  go_wp2_with fail
  go_end0
  exact ⟨rfl, h2, b1.trans b2⟩

set_option maxRecDepth 20000 in
set_option maxHeartbeats 2000000 in
theorem count_at (a : Int) (h : MAt B M l s (c, ac) w) (hn : ac.length ≤ 100) (h4 : c.st = 4) : Calls Tryd.prog 74 #[mptr M, .int .i64 a] w (Left B M l s (pay1 a (c, ac)) w) := by
  have c25 : w.cell? ⟨M, 25, none⟩ = some (.int .i64 c.pa) := h.cs 7 (by decide) _ rfl
  have c26 : w.cell? ⟨M, 26, none⟩ = some (.int .i64 c.pg) := h.cs 8 (by decide) _ rfl
  have c27 : w.cell? ⟨M, 27, none⟩ = some (.int .i64 c.ke) := h.cs 9 (by decide) _ rfl
  have f26 := h.fz 26
  have f27 := h.fz 27
  have lt := h.lt
  have P1 : Hid (∀ n, a < wrap64 (c.pa - c.pg) → Left B M l s (pay1 a (c, ac)) w (.returned (.tuple #[])) ((w.drewN n).setCell ⟨M, 26, none⟩ (.int .i64 (wrap64 (c.pg + a))))) := fun n hz => by
    have h1 := (h.drewN n).put 8 (by decide) (.int .i64 (wrap64 (c.pg + a))) { c with pg := wrap64 (c.pg + a) } rfl
    have e : pay1 a (c, ac) = ({ c with pg := wrap64 (c.pg + a) }, ac) := by simp [pay1, h4, hz]
    rw [e]
    exact ⟨rfl, h1, Fr.set ((Fr.refl _ _ _).drewN n) h.ge h.size⟩
  have EC : Hid (∀ n, ¬ a < wrap64 (c.pa - c.pg) → Calls Tryd.prog 81 #[mptr M] ((w.drewN n).setCell ⟨M, 27, none⟩ (.int .i64 (wrap64 (c.ke + 1)))) (Left B M l s (kept c, ac) w)) := fun n _ => by
    have h1 := (h.drewN n).put 9 (by decide) (.int .i64 (wrap64 (c.ke + 1))) { c with ke := wrap64 (c.ke + 1) } rfl
    exact (endP_at h1).mono fun e w' k => Left.trans (Fr.set ((Fr.refl _ _ _).drewN n) h.ge h.size) k
  have AC : Hid (¬ a < wrap64 (c.pa - c.pg) → ∀ w1, MAt B M l s (kept c, ac) w1 → Calls Tryd.prog 73 #[mptr M, .int .i64 5] w1 (Left B M l s (pay1 a (c, ac)) w1)) := fun hz w1 h1 => by
    have e : pay1 a (c, ac) = (kept c, ac ++ [5]) := by simp [pay1, h4, hz]
    rw [e]; exact act_at 5 h1 hn
  clear h h4
  generalize c.pg = x at *
  generalize c.pa = y at *
  generalize c.ke = z at *
  generalize pay1 a (c, ac) = r at *
  by_cases hz : a < wrap64 (y - x)
  · have P2 : Hid (∀ n, Left B M l s r w (.returned (.tuple #[])) ((w.drewN n).setCell ⟨M, 26, none⟩ (.int .i64 (wrap64 (x + a))))) := fun n => P1.out n hz
    clear P1 EC AC
    go_enter Tryd.func74, Tryd.ntmps74
    go_wp2_with fail
    go_quiet (fail)
    go_wp2_with fail
    refine bodyPost_ret_by (results_none rfl _ _ _) rfl ?_
    exact P2.out _
  · have EC2 : Hid (∀ n, Calls Tryd.prog 81 #[mptr M] ((w.drewN n).setCell ⟨M, 27, none⟩ (.int .i64 (wrap64 (z + 1)))) (Left B M l s (kept c, ac) w)) := fun n => EC.out n hz
    have AC2 : Hid (∀ w1, MAt B M l s (kept c, ac) w1 → Calls Tryd.prog 73 #[mptr M, .int .i64 5] w1 (Left B M l s r w1)) := AC.out hz
    clear P1 EC AC
    go_enter Tryd.func74, Tryd.ntmps74
    go_wp2_with fail
    go_quiet (fail)
    go_wp2_with fail
    refine (EC2.out _).mono ?_
    rintro e w1 ⟨rfl, h1, b1⟩
    go_wp2_with fail
    refine (AC2.out w1 h1).mono ?_
    rintro e w2 ⟨rfl, h2, b2⟩
    go_wp2_with fail
    go_end0
    exact ⟨rfl, h2, b1.trans b2⟩

set_option maxRecDepth 20000 in
set_option maxHeartbeats 2000000 in
theorem susp_at (h : MAt B M l s (c, ac) w) (hn : ac.length ≤ 100) : Calls Tryd.prog 71 #[mptr M] w (Left B M l s (susp c, ac ++ [3]) w) := by
  have c18 : w.cell? ⟨M, 18, none⟩ = some (.int .i64 c.st) := h.cs 0 (by decide) _ rfl
  have c19 : w.cell? ⟨M, 19, none⟩ = some (.bool c.su) := h.cs 1 (by decide) _ rfl
  have f18 := h.fz 18
  have f19 := h.fz 19
  have lt := h.lt
  have h1 := h.put 1 (by decide) (.bool true) { c with su := true } rfl
  have b1 : Fr B M w (w.setCell ⟨M, 19, none⟩ (.bool true)) := Fr.set (Fr.refl _ _ _) h.ge h.size
  by_cases h3 : c.st = 3
  · have AC : Hid (Calls Tryd.prog 73 #[mptr M, .int .i64 3] ((w.setCell ⟨M, 19, none⟩ (.bool true)).setCell ⟨M, 18, none⟩ (.int .i64 5)) (Left B M l s (susp c, ac ++ [3]) w)) := by
      have h2 := h1.put 0 (by decide) (.int .i64 5) (susp c) (by simp [susp, h3, csL])
      exact (act_at 3 h2 hn).mono fun e w' k => Left.trans (Fr.set b1 h1.ge h1.size) k
    clear h h1 b1
    rw [h3] at c18
    clear h3
    generalize c.su = y at *
    go_enter Tryd.func71, Tryd.ntmps71
    go_wp2_with fail
    refine AC.out.mono ?_
    rintro e w2 ⟨rfl, h2, b2⟩
    go_wp2_with fail
    go_end0
    exact ⟨rfl, h2, b2⟩
  · have AC : Hid (Calls Tryd.prog 73 #[mptr M, .int .i64 3] (w.setCell ⟨M, 19, none⟩ (.bool true)) (Left B M l s (susp c, ac ++ [3]) w)) := by
      have e : susp c = { c with su := true } := by simp [susp, h3]
      rw [e]
      exact (act_at 3 h1 hn).mono fun e w' k => Left.trans b1 k
    have d3 : (c.st == 3) = false := by simpa using h3
    clear h h1 b1 h3
    generalize c.su = y at *
    generalize c.st = z at *
    go_enter Tryd.func71, Tryd.ntmps71
    go_wp2_with fail
    refine AC.out.mono ?_
    rintro e w2 ⟨rfl, h2, b2⟩
    go_wp2_with fail
    go_end0
    exact ⟨rfl, h2, b2⟩

set_option maxRecDepth 20000 in
set_option maxHeartbeats 2000000 in
theorem opC_at (t : Int) (h : MAt B M l s (c, ac) w) (hn : ac.length ≤ 100) : Calls Tryd.prog 82 #[mptr M, .int .i64 t] w (Left B M l s (opC (l.getD 3 0) t c, ac ++ [2]) w) := by
  have c3 : w.cell? ⟨M, 3, none⟩ = some (.int .i64 (l.getD 3 0)) := h.pol 3 (by decide)
  have c18 : w.cell? ⟨M, 18, none⟩ = some (.int .i64 c.st) := h.cs 0 (by decide) _ rfl
  have c20 : w.cell? ⟨M, 20, none⟩ = some (.int .i64 c.cy) := h.cs 2 (by decide) _ rfl
  have c21 : w.cell? ⟨M, 21, none⟩ = some (.int .i64 c.si) := h.cs 3 (by decide) _ rfl
  have c22 : w.cell? ⟨M, 22, none⟩ = some (.int .i64 c.dl) := h.cs 4 (by decide) _ rfl
  have c23 : w.cell? ⟨M, 23, none⟩ = some (.int .i64 c.pr) := h.cs 5 (by decide) _ rfl
  have c31 : w.cell? ⟨M, 31, none⟩ = some (.int .i64 c.cf) := h.cs 13 (by decide) _ rfl
  have f18 := h.fz 18
  have f20 := h.fz 20
  have f21 := h.fz 21
  have f22 := h.fz 22
  have f23 := h.fz 23
  have f31 := h.fz 31
  have lt := h.lt
  have AC : Hid (Calls Tryd.prog 73 #[mptr M, .int .i64 2] ((((((w.setCell ⟨M, 20, none⟩ (.int .i64 (wrap64 (c.cy + 1)))).setCell ⟨M, 21, none⟩ (.int .i64 t)).setCell ⟨M, 22, none⟩ (.int .i64 (wrap64 (t + l.getD 3 0)))).setCell ⟨M, 23, none⟩ (.int .i64 0)).setCell ⟨M, 31, none⟩ (.int .i64 0)).setCell ⟨M, 18, none⟩ (.int .i64 3)) (Left B M l s (opC (l.getD 3 0) t c, ac ++ [2]) w)) := by
    have h1 := h.put 2 (by decide) (.int .i64 (wrap64 (c.cy + 1))) { c with cy := wrap64 (c.cy + 1) } rfl
    have h2 := h1.put 3 (by decide) (.int .i64 t) { c with cy := wrap64 (c.cy + 1), si := t } rfl
    have h3 := h2.put 4 (by decide) (.int .i64 (wrap64 (t + l.getD 3 0))) { c with cy := wrap64 (c.cy + 1), si := t, dl := wrap64 (t + l.getD 3 0) } rfl
    have h4 := h3.put 5 (by decide) (.int .i64 0) { c with cy := wrap64 (c.cy + 1), si := t, dl := wrap64 (t + l.getD 3 0), pr := 0 } rfl
    have h5 := h4.put 13 (by decide) (.int .i64 0) { c with cy := wrap64 (c.cy + 1), si := t, dl := wrap64 (t + l.getD 3 0), pr := 0, cf := 0 } rfl
    have h6 := h5.put 0 (by decide) (.int .i64 3) (opC (l.getD 3 0) t c) rfl
    exact (act_at 2 h6 hn).mono fun e w' k => Left.trans (Fr.set (Fr.set (Fr.set (Fr.set (Fr.set (Fr.set (Fr.refl _ _ _) h.ge h.size) h1.ge h1.size) h2.ge h2.size) h3.ge h3.size) h4.ge h4.size) h5.ge h5.size) k
  clear h
  generalize opC (l.getD 3 0) t c = r at *
  generalize l.getD 3 0 = co at *
  generalize c.st = x1 at *
  generalize c.cy = x2 at *
  generalize c.si = x3 at *
  generalize c.dl = x4 at *
  generalize c.pr = x5 at *
  generalize c.cf = x6 at *
  go_enter Tryd.func82, Tryd.ntmps82
  go_wp2_with fail
  refine AC.out.mono ?_
  rintro e w2 ⟨rfl, h2, b2⟩
  go_wp2_with fail
  go_end0
  exact ⟨rfl, h2, b2⟩
end
end Go.Proofs.YtmbbigkpeefjjabDoor
