/-
  Ours: the rule of a fee (gen_cor.py).
-/
import Derived.Test.YtmbbigkpeefjjabDoorCoRS
namespace Go.Proofs.YtmbbigkpeefjjabDoor
open Go.RowKit LedM PolM CoM

section
variable {B M : Nat} {l : List Int} {s : Value} {c : Cs} {ac : List Int} {w : World}

set_option maxRecDepth 20000 in
set_option maxHeartbeats 2000000 in
theorem fee_rule (ev : Ev) (h : MAt B M l s (c, ac) w) : Calls Tryd.prog 36 #[mptr M, evV ev] w (Told B M l s (feeR l ev (c, ac)) w) := by
  show Calls _ _ #[mptr M, .agg (evL ev).toArray] _ _
  have S1 : Hid (RS B M w.heap.size l s ev (c, ac) w (w.alloc (.cells (evL ev).toArray 37))) := RS.start h ev
  clear h
  have E : feeR l ev (c, ac) = if ev.a < 1 then (4, (c, ac)) else if ovr c then (130, (c, ac)) else if opn c = false then (131, (c, ac)) else if c.st = 4 then (132, (c, ac)) else if wrap64 (l.getD 7 0 - c.cf) < ev.a ∨ wrap64 (l.getD 8 0 - c.lf) < ev.a then (133, (c, ac)) else (0, feeM ev (c, ac)) := rfl
  rw [E]
  clear E
  by_cases h1 : ev.a < 1
  · rw [if_pos h1]
    go_enter Tryd.func36, Tryd.ntmps36
    go_upto_region 1 with fail
    generalize w.alloc (.cells (evL ev).toArray 37) = w1 at *
    have ea := S1.out.ea
    go_wp2_with fail
    go_ret
    exact Told.no (by decide) S1.out
  · rw [if_neg h1]
    cases ho : ovr c
    · rw [if_neg (by decide)]
      cases hp : opn c
      · rw [if_pos rfl]
        go_enter Tryd.func36, Tryd.ntmps36
        go_upto_region 1 with fail
        generalize w.alloc (.cells (evL ev).toArray 37) = w1 at *
        have ea := S1.out.ea
        go_wp2_with fail
        refine S1.out.over.mono ?_
        rw [ho]
        rintro r w2 ⟨rfl, q⟩
        have S2 : Hid (RS B M w.heap.size l s ev (c, ac) w w2) := q
        clear q
        go_wp2_with (refine step_load rfl 27 _ rfl M 18 rfl (csL c) _ S2.out.m.range Tryd.underlying27 rfl (sizeCsL c) ?_)
        refine S2.out.opn.mono ?_
        rw [hp]
        rintro r w3 ⟨rfl, q⟩
        have S3 : Hid (RS B M w.heap.size l s ev (c, ac) w w3) := q
        clear q
        go_wp2_with fail
        go_ret
        exact Told.no (by decide) S3.out
      · rw [if_neg (by decide)]
        by_cases h4 : c.st = 4
        · rw [if_pos h4]
          go_enter Tryd.func36, Tryd.ntmps36
          go_upto_region 1 with fail
          generalize w.alloc (.cells (evL ev).toArray 37) = w1 at *
          have ea := S1.out.ea
          go_wp2_with fail
          refine S1.out.over.mono ?_
          rw [ho]
          rintro r w2 ⟨rfl, q⟩
          have S2 : Hid (RS B M w.heap.size l s ev (c, ac) w w2) := q
          clear q
          go_wp2_with (refine step_load rfl 27 _ rfl M 18 rfl (csL c) _ S2.out.m.range Tryd.underlying27 rfl (sizeCsL c) ?_)
          refine S2.out.opn.mono ?_
          rw [hp]
          rintro r w3 ⟨rfl, q⟩
          have S3 : Hid (RS B M w.heap.size l s ev (c, ac) w w3) := q
          clear q
          have c18 : w3.cell? ⟨M, 18, none⟩ = some (.int .i64 4) := by rw [← h4]; exact S3.out.m.cs 0 (by decide) _ rfl
          clear h4
          go_wp2_with fail
          go_ret
          exact Told.no (by decide) S3.out
        · rw [if_neg h4]
          have d4 : (c.st == 4) = false := by simpa using h4
          clear h4
          by_cases hb1 : wrap64 (l.getD 7 0 - c.cf) < ev.a
          · rw [if_pos (.inl hb1)]
            have d1 : decide (wrap64 (l.getD 7 0 - c.cf) < ev.a) = true := decide_eq_true hb1
            go_enter Tryd.func36, Tryd.ntmps36
            go_upto_region 1 with fail
            generalize w.alloc (.cells (evL ev).toArray 37) = w1 at *
            have ea := S1.out.ea
            go_wp2_with fail
            refine S1.out.over.mono ?_
            rw [ho]
            rintro r w2 ⟨rfl, q⟩
            have S2 : Hid (RS B M w.heap.size l s ev (c, ac) w w2) := q
            clear q
            go_wp2_with (refine step_load rfl 27 _ rfl M 18 rfl (csL c) _ S2.out.m.range Tryd.underlying27 rfl (sizeCsL c) ?_)
            refine S2.out.opn.mono ?_
            rw [hp]
            rintro r w3 ⟨rfl, q⟩
            have S3 : Hid (RS B M w.heap.size l s ev (c, ac) w w3) := q
            clear q
            have ea := S3.out.ea
            have c18 : w3.cell? ⟨M, 18, none⟩ = some (.int .i64 c.st) := S3.out.m.cs 0 (by decide) _ rfl
            have c31 : w3.cell? ⟨M, 31, none⟩ = some (.int .i64 c.cf) := S3.out.m.cs 13 (by decide) _ rfl
            have c32 : w3.cell? ⟨M, 32, none⟩ = some (.int .i64 c.lf) := S3.out.m.cs 14 (by decide) _ rfl
            have p7 : w3.cell? ⟨M, 7, none⟩ = some (.int .i64 (l.getD 7 0)) := S3.out.m.pol 7 (by decide)
            have p8 : w3.cell? ⟨M, 8, none⟩ = some (.int .i64 (l.getD 8 0)) := S3.out.m.pol 8 (by decide)
            have lt := S3.out.m.lt
            generalize hC : l.getD 7 0 = CC at *
            generalize hL : l.getD 8 0 = LC at *
            go_wp2_with fail
            go_quiet (fail)
            have S4 : Hid (RS B M w.heap.size l s ev (c, ac) w (w3.drewN nq)) := S3.out.drewN nq
            go_wp2_with fail
            go_ret
            exact Told.no (by decide) S4.out
          · have d1 : decide (wrap64 (l.getD 7 0 - c.cf) < ev.a) = false := decide_eq_false hb1
            by_cases hb2 : wrap64 (l.getD 8 0 - c.lf) < ev.a
            · rw [if_pos (.inr hb2)]
              have d2 : decide (wrap64 (l.getD 8 0 - c.lf) < ev.a) = true := decide_eq_true hb2
              go_enter Tryd.func36, Tryd.ntmps36
              go_upto_region 1 with fail
              generalize w.alloc (.cells (evL ev).toArray 37) = w1 at *
              have ea := S1.out.ea
              go_wp2_with fail
              refine S1.out.over.mono ?_
              rw [ho]
              rintro r w2 ⟨rfl, q⟩
              have S2 : Hid (RS B M w.heap.size l s ev (c, ac) w w2) := q
              clear q
              go_wp2_with (refine step_load rfl 27 _ rfl M 18 rfl (csL c) _ S2.out.m.range Tryd.underlying27 rfl (sizeCsL c) ?_)
              refine S2.out.opn.mono ?_
              rw [hp]
              rintro r w3 ⟨rfl, q⟩
              have S3 : Hid (RS B M w.heap.size l s ev (c, ac) w w3) := q
              clear q
              have ea := S3.out.ea
              have c18 : w3.cell? ⟨M, 18, none⟩ = some (.int .i64 c.st) := S3.out.m.cs 0 (by decide) _ rfl
              have c31 : w3.cell? ⟨M, 31, none⟩ = some (.int .i64 c.cf) := S3.out.m.cs 13 (by decide) _ rfl
              have c32 : w3.cell? ⟨M, 32, none⟩ = some (.int .i64 c.lf) := S3.out.m.cs 14 (by decide) _ rfl
              have p7 : w3.cell? ⟨M, 7, none⟩ = some (.int .i64 (l.getD 7 0)) := S3.out.m.pol 7 (by decide)
              have p8 : w3.cell? ⟨M, 8, none⟩ = some (.int .i64 (l.getD 8 0)) := S3.out.m.pol 8 (by decide)
              have lt := S3.out.m.lt
              generalize hC : l.getD 7 0 = CC at *
              generalize hL : l.getD 8 0 = LC at *
              go_wp2_with fail
              go_quiet (fail)
              have S4 : Hid (RS B M w.heap.size l s ev (c, ac) w (w3.drewN nq)) := S3.out.drewN nq
              go_wp2_with fail
              go_ret
              exact Told.no (by decide) S4.out
            · rw [if_neg (by omega)]
              have d2 : decide (wrap64 (l.getD 8 0 - c.lf) < ev.a) = false := decide_eq_false hb2
              generalize hr : feeM ev (c, ac) = r9
              go_enter Tryd.func36, Tryd.ntmps36
              go_upto_region 1 with fail
              generalize w.alloc (.cells (evL ev).toArray 37) = w1 at *
              have ea := S1.out.ea
              go_wp2_with fail
              refine S1.out.over.mono ?_
              rw [ho]
              rintro r w2 ⟨rfl, q⟩
              have S2 : Hid (RS B M w.heap.size l s ev (c, ac) w w2) := q
              clear q
              go_wp2_with (refine step_load rfl 27 _ rfl M 18 rfl (csL c) _ S2.out.m.range Tryd.underlying27 rfl (sizeCsL c) ?_)
              refine S2.out.opn.mono ?_
              rw [hp]
              rintro r w3 ⟨rfl, q⟩
              have S3 : Hid (RS B M w.heap.size l s ev (c, ac) w w3) := q
              clear q
              have ea := S3.out.ea
              have c18 : w3.cell? ⟨M, 18, none⟩ = some (.int .i64 c.st) := S3.out.m.cs 0 (by decide) _ rfl
              have c31 : w3.cell? ⟨M, 31, none⟩ = some (.int .i64 c.cf) := S3.out.m.cs 13 (by decide) _ rfl
              have c32 : w3.cell? ⟨M, 32, none⟩ = some (.int .i64 c.lf) := S3.out.m.cs 14 (by decide) _ rfl
              have p7 : w3.cell? ⟨M, 7, none⟩ = some (.int .i64 (l.getD 7 0)) := S3.out.m.pol 7 (by decide)
              have p8 : w3.cell? ⟨M, 8, none⟩ = some (.int .i64 (l.getD 8 0)) := S3.out.m.pol 8 (by decide)
              have lt := S3.out.m.lt
              generalize hC : l.getD 7 0 = CC at *
              generalize hL : l.getD 8 0 = LC at *
              go_wp2_with fail
              go_quiet (fail)
              have S4 : Hid (RS B M w.heap.size l s ev (c, ac) w (w3.drewN nq)) := S3.out.drewN nq
              generalize w3.drewN nq = w4 at *
              have ea := S4.out.ea
              have g31 : w4.cell? ⟨M, 31, none⟩ = some (.int .i64 c.cf) := S4.out.m.cs 13 (by decide) _ rfl
              have f31 := S4.out.m.fz 31
              have lt4 := S4.out.m.lt
              go_wp2_with fail
              go_region
              have S5 : Hid (RS B M w.heap.size l s ev ({ c with cf := wrap64 (c.cf + ev.a) }, ac) w (w4.setCell ⟨M, 31, none⟩ (.int .i64 (wrap64 (c.cf + ev.a)))).drew) := (S4.out.put 13 (by decide) (.int .i64 (wrap64 (c.cf + ev.a))) _ rfl).drew
              generalize (w4.setCell ⟨M, 31, none⟩ (.int .i64 (wrap64 (c.cf + ev.a)))).drew = w5 at *
              have ea := S5.out.ea
              have k32 : w5.cell? ⟨M, 32, none⟩ = some (.int .i64 c.lf) := S5.out.m.cs 14 (by decide) _ rfl
              have f32 := S5.out.m.fz 32
              have lt5 := S5.out.m.lt
              go_wp2_with fail
              go_region
              have S6 : Hid (RS B M w.heap.size l s ev (feeM ev (c, ac)) w (w5.setCell ⟨M, 32, none⟩ (.int .i64 (wrap64 (c.lf + ev.a)))).drew) := (S5.out.put 14 (by decide) (.int .i64 (wrap64 (c.lf + ev.a))) _ rfl).drew
              go_wp2_with fail
              go_ret
              subst hr
              exact Told.yes S6.out
    · rw [if_pos rfl]
      go_enter Tryd.func36, Tryd.ntmps36
      go_upto_region 1 with fail
      generalize w.alloc (.cells (evL ev).toArray 37) = w1 at *
      have ea := S1.out.ea
      go_wp2_with fail
      refine S1.out.over.mono ?_
      rw [ho]
      rintro r w2 ⟨rfl, q⟩
      have S2 : Hid (RS B M w.heap.size l s ev (c, ac) w w2) := q
      clear q
      go_wp2_with fail
      go_ret
      exact Told.no (by decide) S2.out
end
end Go.Proofs.YtmbbigkpeefjjabDoor
