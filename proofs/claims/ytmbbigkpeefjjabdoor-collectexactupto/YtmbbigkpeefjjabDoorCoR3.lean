/-
  Ours: the rule of a promise (gen_cor.py).
-/
import Derived.Test.YtmbbigkpeefjjabDoorCoRS
namespace Go.Proofs.YtmbbigkpeefjjabDoor
open Go.RowKit LedM PolM CoM

section
variable {B M : Nat} {l : List Int} {s : Value} {c : Cs} {ac : List Int} {w : World}

set_option maxRecDepth 20000 in
set_option maxHeartbeats 2000000 in
theorem pro_rule (ev : Ev) (h : MAt B M l s (c, ac) w) : Calls Tryd.prog 34 #[mptr M, evV ev] w (Told B M l s (proR l ev (c, ac)) w) := by
  show Calls _ _ #[mptr M, .agg (evL ev).toArray] _ _
  have S1 : Hid (RS B M w.heap.size l s ev (c, ac) w (w.alloc (.cells (evL ev).toArray 37))) := RS.start h ev
  clear h
  have E : proR l ev (c, ac) = if isD ev.t = false ∨ ev.d < 1 ∨ l.getD 10 0 < ev.d then (2, (c, ac)) else if ev.a < 1 then (4, (c, ac)) else if ovr c then (130, (c, ac)) else if opn c = false then (131, (c, ac)) else if c.st = 4 then (132, (c, ac)) else if l.getD 9 0 ≤ c.pr then (133, (c, ac)) else (0, proM ev (c, ac)) := rfl
  rw [E]
  clear E
  cases hi : isD ev.t
  · rw [if_pos (.inl rfl)]
    have ISD : Hid (∀ w', Calls Tryd.prog 66 #[.int .i64 ev.t] w' fun r w'' => r = .returned (.bool (isD ev.t)) ∧ w'' = w') := fun w' => (isD_at ev.t w').mono fun _ _ k => ⟨k.1, k.2.symm⟩
    rw [hi] at ISD
    go_enter Tryd.func34, Tryd.ntmps34
    go_upto_region 1 with fail
    generalize w.alloc (.cells (evL ev).toArray 37) = w1 at *
    have et := S1.out.et
    have ed := S1.out.ed
    have p10 : w1.cell? ⟨M, 10, none⟩ = some (.int .i64 (l.getD 10 0)) := S1.out.m.pol 10 (by decide)
    generalize hPD : l.getD 10 0 = PD at *
    go_quiet ((go_at_call 66; exact Calls.quiet_of_same (ISD.out _)))
    have S2 : Hid (RS B M w.heap.size l s ev (c, ac) w (w1.drewN nq)) := S1.out.drewN nq
    generalize w1.drewN nq = w2 at *
    go_wp2_with fail
    go_ret
    exact Told.no (by decide) S2.out
  · by_cases hd : ev.d < 1
    · rw [if_pos (.inr (.inl hd))]
      have d2 : decide (ev.d < 1) = true := decide_eq_true hd
      have ISD : Hid (∀ w', Calls Tryd.prog 66 #[.int .i64 ev.t] w' fun r w'' => r = .returned (.bool (isD ev.t)) ∧ w'' = w') := fun w' => (isD_at ev.t w').mono fun _ _ k => ⟨k.1, k.2.symm⟩
      rw [hi] at ISD
      go_enter Tryd.func34, Tryd.ntmps34
      go_upto_region 1 with fail
      generalize w.alloc (.cells (evL ev).toArray 37) = w1 at *
      have et := S1.out.et
      have ed := S1.out.ed
      have p10 : w1.cell? ⟨M, 10, none⟩ = some (.int .i64 (l.getD 10 0)) := S1.out.m.pol 10 (by decide)
      generalize hPD : l.getD 10 0 = PD at *
      go_quiet ((go_at_call 66; exact Calls.quiet_of_same (ISD.out _)))
      have S2 : Hid (RS B M w.heap.size l s ev (c, ac) w (w1.drewN nq)) := S1.out.drewN nq
      generalize w1.drewN nq = w2 at *
      go_wp2_with fail
      go_ret
      exact Told.no (by decide) S2.out
    · have d2 : decide (ev.d < 1) = false := decide_eq_false hd
      by_cases hd3 : l.getD 10 0 < ev.d
      · rw [if_pos (.inr (.inr hd3))]
        have d3 : decide (l.getD 10 0 < ev.d) = true := decide_eq_true hd3
        have ISD : Hid (∀ w', Calls Tryd.prog 66 #[.int .i64 ev.t] w' fun r w'' => r = .returned (.bool (isD ev.t)) ∧ w'' = w') := fun w' => (isD_at ev.t w').mono fun _ _ k => ⟨k.1, k.2.symm⟩
        rw [hi] at ISD
        go_enter Tryd.func34, Tryd.ntmps34
        go_upto_region 1 with fail
        generalize w.alloc (.cells (evL ev).toArray 37) = w1 at *
        have et := S1.out.et
        have ed := S1.out.ed
        have p10 : w1.cell? ⟨M, 10, none⟩ = some (.int .i64 (l.getD 10 0)) := S1.out.m.pol 10 (by decide)
        generalize hPD : l.getD 10 0 = PD at *
        go_quiet ((go_at_call 66; exact Calls.quiet_of_same (ISD.out _)))
        have S2 : Hid (RS B M w.heap.size l s ev (c, ac) w (w1.drewN nq)) := S1.out.drewN nq
        generalize w1.drewN nq = w2 at *
        go_wp2_with fail
        go_ret
        exact Told.no (by decide) S2.out
      · have d3 : decide (l.getD 10 0 < ev.d) = false := decide_eq_false hd3
        rw [if_neg (fun q => by rcases q with q | q | q; (cases q); exact hd q; exact hd3 q)]
        by_cases h1 : ev.a < 1
        · rw [if_pos h1]
          have ISD : Hid (∀ w', Calls Tryd.prog 66 #[.int .i64 ev.t] w' fun r w'' => r = .returned (.bool (isD ev.t)) ∧ w'' = w') := fun w' => (isD_at ev.t w').mono fun _ _ k => ⟨k.1, k.2.symm⟩
          rw [hi] at ISD
          go_enter Tryd.func34, Tryd.ntmps34
          go_upto_region 1 with fail
          generalize w.alloc (.cells (evL ev).toArray 37) = w1 at *
          have et := S1.out.et
          have ed := S1.out.ed
          have p10 : w1.cell? ⟨M, 10, none⟩ = some (.int .i64 (l.getD 10 0)) := S1.out.m.pol 10 (by decide)
          generalize hPD : l.getD 10 0 = PD at *
          go_quiet ((go_at_call 66; exact Calls.quiet_of_same (ISD.out _)))
          have S2 : Hid (RS B M w.heap.size l s ev (c, ac) w (w1.drewN nq)) := S1.out.drewN nq
          generalize w1.drewN nq = w2 at *
          have a2 := S2.out.ea
          go_wp2_with fail
          go_ret
          exact Told.no (by decide) S2.out
        · rw [if_neg h1]
          cases ho : ovr c
          · rw [if_neg (by decide)]
            cases hp : opn c
            · rw [if_pos rfl]
              have ISD : Hid (∀ w', Calls Tryd.prog 66 #[.int .i64 ev.t] w' fun r w'' => r = .returned (.bool (isD ev.t)) ∧ w'' = w') := fun w' => (isD_at ev.t w').mono fun _ _ k => ⟨k.1, k.2.symm⟩
              rw [hi] at ISD
              go_enter Tryd.func34, Tryd.ntmps34
              go_upto_region 1 with fail
              generalize w.alloc (.cells (evL ev).toArray 37) = w1 at *
              have et := S1.out.et
              have ed := S1.out.ed
              have p10 : w1.cell? ⟨M, 10, none⟩ = some (.int .i64 (l.getD 10 0)) := S1.out.m.pol 10 (by decide)
              generalize hPD : l.getD 10 0 = PD at *
              go_quiet ((go_at_call 66; exact Calls.quiet_of_same (ISD.out _)))
              have S2 : Hid (RS B M w.heap.size l s ev (c, ac) w (w1.drewN nq)) := S1.out.drewN nq
              generalize w1.drewN nq = w2 at *
              have a2 := S2.out.ea
              go_wp2_with fail
              refine S2.out.over.mono ?_
              rw [ho]
              rintro r w3 ⟨rfl, q⟩
              have S3 : Hid (RS B M w.heap.size l s ev (c, ac) w w3) := q
              clear q
              go_wp2_with (refine step_load rfl 27 _ rfl M 18 rfl (csL c) _ S3.out.m.range Tryd.underlying27 rfl (sizeCsL c) ?_)
              refine S3.out.opn.mono ?_
              rw [hp]
              rintro r w4 ⟨rfl, q⟩
              have S4 : Hid (RS B M w.heap.size l s ev (c, ac) w w4) := q
              clear q
              go_wp2_with fail
              go_ret
              exact Told.no (by decide) S4.out
            · rw [if_neg (by decide)]
              by_cases h4 : c.st = 4
              · rw [if_pos h4]
                have ISD : Hid (∀ w', Calls Tryd.prog 66 #[.int .i64 ev.t] w' fun r w'' => r = .returned (.bool (isD ev.t)) ∧ w'' = w') := fun w' => (isD_at ev.t w').mono fun _ _ k => ⟨k.1, k.2.symm⟩
                rw [hi] at ISD
                go_enter Tryd.func34, Tryd.ntmps34
                go_upto_region 1 with fail
                generalize w.alloc (.cells (evL ev).toArray 37) = w1 at *
                have et := S1.out.et
                have ed := S1.out.ed
                have p10 : w1.cell? ⟨M, 10, none⟩ = some (.int .i64 (l.getD 10 0)) := S1.out.m.pol 10 (by decide)
                generalize hPD : l.getD 10 0 = PD at *
                go_quiet ((go_at_call 66; exact Calls.quiet_of_same (ISD.out _)))
                have S2 : Hid (RS B M w.heap.size l s ev (c, ac) w (w1.drewN nq)) := S1.out.drewN nq
                generalize w1.drewN nq = w2 at *
                have a2 := S2.out.ea
                go_wp2_with fail
                refine S2.out.over.mono ?_
                rw [ho]
                rintro r w3 ⟨rfl, q⟩
                have S3 : Hid (RS B M w.heap.size l s ev (c, ac) w w3) := q
                clear q
                go_wp2_with (refine step_load rfl 27 _ rfl M 18 rfl (csL c) _ S3.out.m.range Tryd.underlying27 rfl (sizeCsL c) ?_)
                refine S3.out.opn.mono ?_
                rw [hp]
                rintro r w4 ⟨rfl, q⟩
                have S4 : Hid (RS B M w.heap.size l s ev (c, ac) w w4) := q
                clear q
                have c18 : w4.cell? ⟨M, 18, none⟩ = some (.int .i64 4) := by rw [← h4]; exact S4.out.m.cs 0 (by decide) _ rfl
                clear h4
                go_wp2_with fail
                go_ret
                exact Told.no (by decide) S4.out
              · rw [if_neg h4]
                have d4 : (c.st == 4) = false := by simpa using h4
                clear h4
                by_cases hb : l.getD 9 0 ≤ c.pr
                · rw [if_pos hb]
                  have ISD : Hid (∀ w', Calls Tryd.prog 66 #[.int .i64 ev.t] w' fun r w'' => r = .returned (.bool (isD ev.t)) ∧ w'' = w') := fun w' => (isD_at ev.t w').mono fun _ _ k => ⟨k.1, k.2.symm⟩
                  rw [hi] at ISD
                  go_enter Tryd.func34, Tryd.ntmps34
                  go_upto_region 1 with fail
                  generalize w.alloc (.cells (evL ev).toArray 37) = w1 at *
                  have et := S1.out.et
                  have ed := S1.out.ed
                  have p10 : w1.cell? ⟨M, 10, none⟩ = some (.int .i64 (l.getD 10 0)) := S1.out.m.pol 10 (by decide)
                  generalize hPD : l.getD 10 0 = PD at *
                  go_quiet ((go_at_call 66; exact Calls.quiet_of_same (ISD.out _)))
                  have S2 : Hid (RS B M w.heap.size l s ev (c, ac) w (w1.drewN nq)) := S1.out.drewN nq
                  generalize w1.drewN nq = w2 at *
                  have a2 := S2.out.ea
                  go_wp2_with fail
                  refine S2.out.over.mono ?_
                  rw [ho]
                  rintro r w3 ⟨rfl, q⟩
                  have S3 : Hid (RS B M w.heap.size l s ev (c, ac) w w3) := q
                  clear q
                  go_wp2_with (refine step_load rfl 27 _ rfl M 18 rfl (csL c) _ S3.out.m.range Tryd.underlying27 rfl (sizeCsL c) ?_)
                  refine S3.out.opn.mono ?_
                  rw [hp]
                  rintro r w4 ⟨rfl, q⟩
                  have S4 : Hid (RS B M w.heap.size l s ev (c, ac) w w4) := q
                  clear q
                  have c18 : w4.cell? ⟨M, 18, none⟩ = some (.int .i64 c.st) := S4.out.m.cs 0 (by decide) _ rfl
                  have c23 : w4.cell? ⟨M, 23, none⟩ = some (.int .i64 c.pr) := S4.out.m.cs 5 (by decide) _ rfl
                  have q9 : w4.cell? ⟨M, 9, none⟩ = some (.int .i64 (l.getD 9 0)) := S4.out.m.pol 9 (by decide)
                  have lt := S4.out.m.lt
                  generalize hP9 : l.getD 9 0 = P9 at *
                  go_wp2_with fail
                  go_quiet (fail)
                  have S5 : Hid (RS B M w.heap.size l s ev (c, ac) w (w4.drewN nq)) := S4.out.drewN nq
                  generalize w4.drewN nq = w5 at *
                  go_wp2_with fail
                  go_ret
                  exact Told.no (by decide) S5.out
                · rw [if_neg hb]
                  generalize hr : proM ev (c, ac) = r9
                  have ISD : Hid (∀ w', Calls Tryd.prog 66 #[.int .i64 ev.t] w' fun r w'' => r = .returned (.bool (isD ev.t)) ∧ w'' = w') := fun w' => (isD_at ev.t w').mono fun _ _ k => ⟨k.1, k.2.symm⟩
                  rw [hi] at ISD
                  go_enter Tryd.func34, Tryd.ntmps34
                  go_upto_region 1 with fail
                  generalize w.alloc (.cells (evL ev).toArray 37) = w1 at *
                  have et := S1.out.et
                  have ed := S1.out.ed
                  have p10 : w1.cell? ⟨M, 10, none⟩ = some (.int .i64 (l.getD 10 0)) := S1.out.m.pol 10 (by decide)
                  generalize hPD : l.getD 10 0 = PD at *
                  go_quiet ((go_at_call 66; exact Calls.quiet_of_same (ISD.out _)))
                  have S2 : Hid (RS B M w.heap.size l s ev (c, ac) w (w1.drewN nq)) := S1.out.drewN nq
                  generalize w1.drewN nq = w2 at *
                  have a2 := S2.out.ea
                  go_wp2_with fail
                  refine S2.out.over.mono ?_
                  rw [ho]
                  rintro r w3 ⟨rfl, q⟩
                  have S3 : Hid (RS B M w.heap.size l s ev (c, ac) w w3) := q
                  clear q
                  go_wp2_with (refine step_load rfl 27 _ rfl M 18 rfl (csL c) _ S3.out.m.range Tryd.underlying27 rfl (sizeCsL c) ?_)
                  refine S3.out.opn.mono ?_
                  rw [hp]
                  rintro r w4 ⟨rfl, q⟩
                  have S4 : Hid (RS B M w.heap.size l s ev (c, ac) w w4) := q
                  clear q
                  have c18 : w4.cell? ⟨M, 18, none⟩ = some (.int .i64 c.st) := S4.out.m.cs 0 (by decide) _ rfl
                  have c23 : w4.cell? ⟨M, 23, none⟩ = some (.int .i64 c.pr) := S4.out.m.cs 5 (by decide) _ rfl
                  have q9 : w4.cell? ⟨M, 9, none⟩ = some (.int .i64 (l.getD 9 0)) := S4.out.m.pol 9 (by decide)
                  have lt := S4.out.m.lt
                  generalize hP9 : l.getD 9 0 = P9 at *
                  go_wp2_with fail
                  go_quiet (fail)
                  have S5 : Hid (RS B M w.heap.size l s ev (c, ac) w (w4.drewN nq)) := S4.out.drewN nq
                  generalize w4.drewN nq = w5 at *
                  have g23 : w5.cell? ⟨M, 23, none⟩ = some (.int .i64 c.pr) := S5.out.m.cs 5 (by decide) _ rfl
                  have g23f := S5.out.m.fz 23
                  have lt5 := S5.out.m.lt
                  go_upto_region 14 with fail
                  have S6 : Hid (RS B M w.heap.size l s ev ({ c with pr := wrap64 (c.pr + 1) }, ac) w (w5.setCell ⟨M, 23, none⟩ (.int .i64 (wrap64 (c.pr + 1))))) := S5.out.put 5 (by decide) (.int .i64 (wrap64 (c.pr + 1))) _ rfl
                  generalize w5.setCell ⟨M, 23, none⟩ (.int .i64 (wrap64 (c.pr + 1))) = w6 at *
                  have k24 : w6.cell? ⟨M, 24, none⟩ = some (.int .i64 c.pd) := S6.out.m.cs 6 (by decide) _ rfl
                  have k25 : w6.cell? ⟨M, 25, none⟩ = some (.int .i64 c.pa) := S6.out.m.cs 7 (by decide) _ rfl
                  have k26 : w6.cell? ⟨M, 26, none⟩ = some (.int .i64 c.pg) := S6.out.m.cs 8 (by decide) _ rfl
                  have k24f := S6.out.m.fz 24
                  have k25f := S6.out.m.fz 25
                  have k26f := S6.out.m.fz 26
                  have k1 := S6.out.et
                  have k2 := S6.out.ed
                  have k3 := S6.out.ea
                  have lt6 := S6.out.m.lt
                  have ne6 := S6.out.ne
                  go_region
                  have S7 : Hid (RS B M w.heap.size l s ev ({ c with pr := wrap64 (c.pr + 1), pd := wrap64 (ev.t + ev.d), pa := ev.a, pg := 0 }, ac) w (((w6.setCell ⟨M, 24, none⟩ (.int .i64 (wrap64 (ev.t + ev.d)))).setCell ⟨M, 25, none⟩ (.int .i64 ev.a)).setCell ⟨M, 26, none⟩ (.int .i64 0)).drew) := (((S6.out.put 6 (by decide) (.int .i64 (wrap64 (ev.t + ev.d))) { c with pr := wrap64 (c.pr + 1), pd := wrap64 (ev.t + ev.d) } rfl).put 7 (by decide) (.int .i64 ev.a) { c with pr := wrap64 (c.pr + 1), pd := wrap64 (ev.t + ev.d), pa := ev.a } rfl).put 8 (by decide) (.int .i64 0) _ rfl).drew
                  generalize (((w6.setCell ⟨M, 24, none⟩ (.int .i64 (wrap64 (ev.t + ev.d)))).setCell ⟨M, 25, none⟩ (.int .i64 ev.a)).setCell ⟨M, 26, none⟩ (.int .i64 0)).drew = w7 at *
                  have j22 : w7.cell? ⟨M, 22, none⟩ = some (.int .i64 c.dl) := S7.out.m.cs 4 (by decide) _ rfl
                  have j22f := S7.out.m.fz 22
                  have j2 := S7.out.ed
                  have lt7 := S7.out.m.lt
                  go_wp2_with fail
                  go_region
                  have S8 : Hid (RS B M w.heap.size l s ev ({ c with pr := wrap64 (c.pr + 1), pd := wrap64 (ev.t + ev.d), pa := ev.a, pg := 0, dl := wrap64 (c.dl + ev.d) }, ac) w (w7.setCell ⟨M, 22, none⟩ (.int .i64 (wrap64 (c.dl + ev.d)))).drew) := (S7.out.put 4 (by decide) (.int .i64 (wrap64 (c.dl + ev.d))) _ rfl).drew
                  generalize (w7.setCell ⟨M, 22, none⟩ (.int .i64 (wrap64 (c.dl + ev.d)))).drew = w8 at *
                  have i18 : w8.cell? ⟨M, 18, none⟩ = some (.int .i64 c.st) := S8.out.m.cs 0 (by decide) _ rfl
                  have i18f := S8.out.m.fz 18
                  have lt8 := S8.out.m.lt
                  have S9 : Hid (RS B M w.heap.size l s ev (proM ev (c, ac)) w (w8.setCell ⟨M, 18, none⟩ (.int .i64 4))) := S8.out.put 0 (by decide) (.int .i64 4) _ rfl
                  go_wp2_with fail
                  go_ret
                  subst hr
                  exact Told.yes S9.out
          · rw [if_pos rfl]
            have ISD : Hid (∀ w', Calls Tryd.prog 66 #[.int .i64 ev.t] w' fun r w'' => r = .returned (.bool (isD ev.t)) ∧ w'' = w') := fun w' => (isD_at ev.t w').mono fun _ _ k => ⟨k.1, k.2.symm⟩
            rw [hi] at ISD
            go_enter Tryd.func34, Tryd.ntmps34
            go_upto_region 1 with fail
            generalize w.alloc (.cells (evL ev).toArray 37) = w1 at *
            have et := S1.out.et
            have ed := S1.out.ed
            have p10 : w1.cell? ⟨M, 10, none⟩ = some (.int .i64 (l.getD 10 0)) := S1.out.m.pol 10 (by decide)
            generalize hPD : l.getD 10 0 = PD at *
            go_quiet ((go_at_call 66; exact Calls.quiet_of_same (ISD.out _)))
            have S2 : Hid (RS B M w.heap.size l s ev (c, ac) w (w1.drewN nq)) := S1.out.drewN nq
            generalize w1.drewN nq = w2 at *
            have a2 := S2.out.ea
            go_wp2_with fail
            refine S2.out.over.mono ?_
            rw [ho]
            rintro r w3 ⟨rfl, q⟩
            have S3 : Hid (RS B M w.heap.size l s ev (c, ac) w w3) := q
            clear q
            go_wp2_with fail
            go_ret
            exact Told.no (by decide) S3.out
end
end Go.Proofs.YtmbbigkpeefjjabDoor
