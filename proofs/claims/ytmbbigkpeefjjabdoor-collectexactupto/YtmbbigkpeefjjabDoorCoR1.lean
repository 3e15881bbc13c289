/-
  Ours: the rules of a closing, a payment taken back, a restructuring (gen_cor.py).
-/
import Derived.Test.YtmbbigkpeefjjabDoorCoRS
namespace Go.Proofs.YtmbbigkpeefjjabDoor
open Go.RowKit LedM PolM CoM

section
variable {B M : Nat} {l : List Int} {s : Value} {c : Cs} {ac : List Int} {w : World}

set_option maxRecDepth 20000 in
set_option maxHeartbeats 2000000 in
theorem shut_rule (ev : Ev) (h : MAt B M l s (c, ac) w) (hn : ac.length ≤ 90) : Calls Tryd.prog 37 #[mptr M, evV ev] w (Told B M l s (shutR (c, ac)) w) := by
  show Calls _ _ #[mptr M, .agg (evL ev).toArray] _ _
  have S1 : Hid (RS B M w.heap.size l s ev (c, ac) w (w.alloc (.cells (evL ev).toArray 37))) := RS.start h ev
  clear h
  have E : shutR (c, ac) = if ovr c then (130, (c, ac)) else (0, if opn c then ({ curd c with st := 9 }, (ac ++ [6]) ++ [8]) else ({ c with st := 9 }, ac ++ [8])) := by
    unfold shutR shutM shut1
    cases ovr c <;> cases opn c <;> rfl
  rw [E]
  clear E
  cases ho : ovr c
  · cases hp : opn c
    · generalize hr : ((({ c with st := 9 }, ac ++ [8]) : Mc)) = r9
      rw [if_neg (by decide), if_neg (by decide)]
      go_enter Tryd.func37, Tryd.ntmps37
      go_upto_region 1 with fail
      generalize w.alloc (.cells (evL ev).toArray 37) = w1 at *
      go_wp2_with fail
      refine S1.out.over.mono ?_
      rw [ho]
      rintro r w2 ⟨rfl, q⟩
      have S2 : Hid (RS B M w.heap.size l s ev (c, ac) w w2) := q
      clear q
      go_wp2_with (refine step_load rfl 27 _ rfl M 18 rfl (csL c) _ S2.out.m.range Tryd.underlying27 rfl (sizeCsL c) ?_)
      refine S2.out.opn.mono ?_
      rw [hp]
      rintro r w3 ⟨rfl, q⟩
      have S3 : Hid (RS B M w.heap.size l s ev (c, ac) w w3) := q
      clear q
      have c18 : w3.cell? ⟨M, 18, none⟩ = some (.int .i64 c.st) := S3.out.m.cs 0 (by decide) _ rfl
      have f18 := S3.out.m.fz 18
      have lt := S3.out.m.lt
      have S4 : Hid (RS B M w.heap.size l s ev ({ c with st := 9 }, ac) w (w3.setCell ⟨M, 18, none⟩ (.int .i64 9))) := S3.out.put 0 (by decide) (.int .i64 9) _ rfl
      go_wp2_with fail
      refine (S4.out.act 8 (by omega)).mono ?_
      rintro r w5 ⟨rfl, q⟩
      have S5 : Hid (RS B M w.heap.size l s ev ({ c with st := 9 }, ac ++ [8]) w w5) := q
      clear q
      go_wp2_with fail
      go_ret
      subst hr
      exact Told.yes S5.out
    · generalize hr : ((({ curd c with st := 9 }, (ac ++ [6]) ++ [8]) : Mc)) = r9
      rw [if_neg (by decide), if_pos rfl]
      go_enter Tryd.func37, Tryd.ntmps37
      go_upto_region 1 with fail
      generalize w.alloc (.cells (evL ev).toArray 37) = w1 at *
      go_wp2_with fail
      refine S1.out.over.mono ?_
      rw [ho]
      rintro r w2 ⟨rfl, q⟩
      have S2 : Hid (RS B M w.heap.size l s ev (c, ac) w w2) := q
      clear q
      go_wp2_with (refine step_load rfl 27 _ rfl M 18 rfl (csL c) _ S2.out.m.range Tryd.underlying27 rfl (sizeCsL c) ?_)
      refine S2.out.opn.mono ?_
      rw [hp]
      rintro r w3 ⟨rfl, q⟩
      have S3 : Hid (RS B M w.heap.size l s ev (c, ac) w w3) := q
      clear q
      go_wp2_with fail
      refine (S3.out.cure (by omega)).mono ?_
      rintro r w4 ⟨rfl, q⟩
      have S4 : Hid (RS B M w.heap.size l s ev (curd c, ac ++ [6]) w w4) := q
      clear q
      have c18 : w4.cell? ⟨M, 18, none⟩ = some (.int .i64 (curd c).st) := S4.out.m.cs 0 (by decide) _ rfl
      have f18 := S4.out.m.fz 18
      have lt := S4.out.m.lt
      have S5 : Hid (RS B M w.heap.size l s ev ({ curd c with st := 9 }, ac ++ [6]) w (w4.setCell ⟨M, 18, none⟩ (.int .i64 9))) := S4.out.put 0 (by decide) (.int .i64 9) _ rfl
      go_wp2_with fail
      refine (S5.out.act 8 (by simp; omega)).mono ?_
      rintro r w6 ⟨rfl, q⟩
      have S6 : Hid (RS B M w.heap.size l s ev ({ curd c with st := 9 }, (ac ++ [6]) ++ [8]) w w6) := q
      clear q
      go_wp2_with fail
      go_ret
      subst hr
      exact Told.yes S6.out
  · rw [if_pos rfl]
    go_enter Tryd.func37, Tryd.ntmps37
    go_upto_region 1 with fail
    generalize w.alloc (.cells (evL ev).toArray 37) = w1 at *
    go_wp2_with fail
    refine S1.out.over.mono ?_
    rw [ho]
    rintro r w2 ⟨rfl, q⟩
    have S2 : Hid (RS B M w.heap.size l s ev (c, ac) w w2) := q
    clear q
    go_wp2_with fail
    go_ret
    exact Told.no (by decide) S2.out

set_option maxRecDepth 20000 in
set_option maxHeartbeats 2000000 in
theorem ret_rule (ev : Ev) (h : MAt B M l s (c, ac) w) : Calls Tryd.prog 33 #[mptr M, evV ev] w (Told B M l s (retR ev (c, ac)) w) := by
  show Calls _ _ #[mptr M, .agg (evL ev).toArray] _ _
  have S1 : Hid (RS B M w.heap.size l s ev (c, ac) w (w.alloc (.cells (evL ev).toArray 37))) := RS.start h ev
  clear h
  have E : retR ev (c, ac) = if ev.a < 1 then (4, (c, ac)) else if ovr c then (130, (c, ac)) else (0, retM ev (c, ac)) := rfl
  rw [E]
  clear E
  by_cases h1 : ev.a < 1
  · rw [if_pos h1]
    go_enter Tryd.func33, Tryd.ntmps33
    go_upto_region 1 with fail
    generalize w.alloc (.cells (evL ev).toArray 37) = w1 at *
    have ea := S1.out.ea
    go_wp2_with fail
    go_ret
    exact Told.no (by decide) S1.out
  · rw [if_neg h1]
    cases ho : ovr c
    · rw [if_neg (by decide)]
      by_cases h4 : c.st = 4
      · by_cases hq : c.pg < ev.a
        · have E : retM ev (c, ac) = ({ c with pg := 0 }, ac) := by
            have z : wrap64 0 = 0 := by simp [wrap64]
            simp [retM, h4, hq, z]
          rw [E]
          clear E
          generalize hx : c.pg = x at *
          go_enter Tryd.func33, Tryd.ntmps33
          go_upto_region 1 with fail
          generalize w.alloc (.cells (evL ev).toArray 37) = w1 at *
          have ea := S1.out.ea
          go_wp2_with fail
          refine S1.out.over.mono ?_
          rw [ho]
          rintro r w2 ⟨rfl, q⟩
          have S2 : Hid (RS B M w.heap.size l s ev (c, ac) w w2) := q
          clear q
          have ea := S2.out.ea
          have c18 : w2.cell? ⟨M, 18, none⟩ = some (.int .i64 4) := by rw [← h4]; exact S2.out.m.cs 0 (by decide) _ rfl
          have c26 : w2.cell? ⟨M, 26, none⟩ = some (.int .i64 x) := by rw [← hx]; exact S2.out.m.cs 8 (by decide) _ rfl
          have f26 := S2.out.m.fz 26
          have lt := S2.out.m.lt
          have S3 : Hid (RS B M w.heap.size l s ev ({ c with pg := 0 }, ac) w (w2.setCell ⟨M, 26, none⟩ (.int .i64 (0))).drew) := (S2.out.put 8 (by decide) (.int .i64 (0)) _ rfl).drew
          clear hx h4
          go_wp2_with fail
          go_region
          go_wp2_with fail
          go_ret
          exact Told.yes S3.out
        · have E : retM ev (c, ac) = ({ c with pg := wrap64 (c.pg - ev.a) }, ac) := by simp [retM, h4, hq]
          rw [E]
          clear E
          generalize hx : c.pg = x at *
          go_enter Tryd.func33, Tryd.ntmps33
          go_upto_region 1 with fail
          generalize w.alloc (.cells (evL ev).toArray 37) = w1 at *
          have ea := S1.out.ea
          go_wp2_with fail
          refine S1.out.over.mono ?_
          rw [ho]
          rintro r w2 ⟨rfl, q⟩
          have S2 : Hid (RS B M w.heap.size l s ev (c, ac) w w2) := q
          clear q
          have ea := S2.out.ea
          have c18 : w2.cell? ⟨M, 18, none⟩ = some (.int .i64 4) := by rw [← h4]; exact S2.out.m.cs 0 (by decide) _ rfl
          have c26 : w2.cell? ⟨M, 26, none⟩ = some (.int .i64 x) := by rw [← hx]; exact S2.out.m.cs 8 (by decide) _ rfl
          have f26 := S2.out.m.fz 26
          have lt := S2.out.m.lt
          have S3 : Hid (RS B M w.heap.size l s ev ({ c with pg := wrap64 (x - ev.a) }, ac) w (w2.setCell ⟨M, 26, none⟩ (.int .i64 (wrap64 (x - ev.a)))).drew) := (S2.out.put 8 (by decide) (.int .i64 (wrap64 (x - ev.a))) _ rfl).drew
          clear hx h4
          go_wp2_with fail
          go_region
          go_wp2_with fail
          go_ret
          exact Told.yes S3.out
      · have E : retM ev (c, ac) = (c, ac) := by simp [retM, h4]
        rw [E]
        have d4 : (c.st == 4) = false := by simpa using h4
        clear E h4
        go_enter Tryd.func33, Tryd.ntmps33
        go_upto_region 1 with fail
        generalize w.alloc (.cells (evL ev).toArray 37) = w1 at *
        have ea := S1.out.ea
        go_wp2_with fail
        refine S1.out.over.mono ?_
        rw [ho]
        rintro r w2 ⟨rfl, q⟩
        have S2 : Hid (RS B M w.heap.size l s ev (c, ac) w w2) := q
        clear q
        have c18 : w2.cell? ⟨M, 18, none⟩ = some (.int .i64 c.st) := S2.out.m.cs 0 (by decide) _ rfl
        go_wp2_with fail
        go_ret
        exact Told.yes S2.out
    · rw [if_pos rfl]
      go_enter Tryd.func33, Tryd.ntmps33
      go_upto_region 1 with fail
      generalize w.alloc (.cells (evL ev).toArray 37) = w1 at *
      have ea := S1.out.ea
      go_wp2_with fail
      refine S1.out.over.mono ?_
      rw [ho]
      rintro r w2 ⟨rfl, q⟩
      have S2 : Hid (RS B M w.heap.size l s ev (c, ac) w w2) := q
      clear q
      go_wp2_with fail
      go_ret
      exact Told.no (by decide) S2.out

set_option maxRecDepth 20000 in
set_option maxHeartbeats 2000000 in
theorem res_rule (ev : Ev) (h : MAt B M l s (c, ac) w) (hn : ac.length ≤ 90) : Calls Tryd.prog 35 #[mptr M, evV ev] w (Told B M l s (resR l (c, ac)) w) := by
  show Calls _ _ #[mptr M, .agg (evL ev).toArray] _ _
  have S1 : Hid (RS B M w.heap.size l s ev (c, ac) w (w.alloc (.cells (evL ev).toArray 37))) := RS.start h ev
  clear h
  have E : resR l (c, ac) = if ovr c then (130, (c, ac)) else if opn c = false then (131, (c, ac)) else if l.getD 11 0 ≤ c.re then (133, (c, ac)) else (0, resM (c, ac)) := rfl
  rw [E]
  clear E
  cases ho : ovr c
  · rw [if_neg (by decide)]
    cases hp : opn c
    · rw [if_pos rfl]
      go_enter Tryd.func35, Tryd.ntmps35
      go_upto_region 1 with fail
      generalize w.alloc (.cells (evL ev).toArray 37) = w1 at *
      go_wp2_with fail
      refine S1.out.over.mono ?_
      rw [ho]
      rintro r w2 ⟨rfl, q⟩
      have S2 : Hid (RS B M w.heap.size l s ev (c, ac) w w2) := q
      clear q
      go_wp2_with (refine step_load rfl 27 _ rfl M 18 rfl (csL c) _ S2.out.m.range Tryd.underlying27 rfl (sizeCsL c) ?_)
      refine S2.out.opn.mono ?_
      rw [hp]
      rintro r w3 ⟨rfl, q⟩
      have S3 : Hid (RS B M w.heap.size l s ev (c, ac) w w3) := q
      clear q
      go_wp2_with fail
      go_ret
      exact Told.no (by decide) S3.out
    · rw [if_neg (by decide)]
      by_cases hb : l.getD 11 0 ≤ c.re
      · rw [if_pos hb]
        go_enter Tryd.func35, Tryd.ntmps35
        go_upto_region 1 with fail
        generalize w.alloc (.cells (evL ev).toArray 37) = w1 at *
        go_wp2_with fail
        refine S1.out.over.mono ?_
        rw [ho]
        rintro r w2 ⟨rfl, q⟩
        have S2 : Hid (RS B M w.heap.size l s ev (c, ac) w w2) := q
        clear q
        go_wp2_with (refine step_load rfl 27 _ rfl M 18 rfl (csL c) _ S2.out.m.range Tryd.underlying27 rfl (sizeCsL c) ?_)
        refine S2.out.opn.mono ?_
        rw [hp]
        rintro r w3 ⟨rfl, q⟩
        have S3 : Hid (RS B M w.heap.size l s ev (c, ac) w w3) := q
        clear q
        have c30 : w3.cell? ⟨M, 30, none⟩ = some (.int .i64 c.re) := S3.out.m.cs 12 (by decide) _ rfl
        have p11 : w3.cell? ⟨M, 11, none⟩ = some (.int .i64 (l.getD 11 0)) := S3.out.m.pol 11 (by decide)
        have f30 := S3.out.m.fz 30
        have lt := S3.out.m.lt
        generalize hP : l.getD 11 0 = P11 at *
        go_wp2_with fail
        go_quiet (fail)
        have S4 : Hid (RS B M w.heap.size l s ev (c, ac) w (w3.drewN nq)) := S3.out.drewN nq
        go_wp2_with fail
        go_ret
        exact Told.no (by decide) S4.out
      · rw [if_neg hb]
        generalize hr : resM (c, ac) = r9
        go_enter Tryd.func35, Tryd.ntmps35
        go_upto_region 1 with fail
        generalize w.alloc (.cells (evL ev).toArray 37) = w1 at *
        go_wp2_with fail
        refine S1.out.over.mono ?_
        rw [ho]
        rintro r w2 ⟨rfl, q⟩
        have S2 : Hid (RS B M w.heap.size l s ev (c, ac) w w2) := q
        clear q
        go_wp2_with (refine step_load rfl 27 _ rfl M 18 rfl (csL c) _ S2.out.m.range Tryd.underlying27 rfl (sizeCsL c) ?_)
        refine S2.out.opn.mono ?_
        rw [hp]
        rintro r w3 ⟨rfl, q⟩
        have S3 : Hid (RS B M w.heap.size l s ev (c, ac) w w3) := q
        clear q
        have S4 : Hid (∀ n, RS B M w.heap.size l s ev ({ c with re := wrap64 (c.re + 1) }, ac) w ((w3.drewN n).setCell ⟨M, 30, none⟩ (.int .i64 (wrap64 (c.re + 1))))) := fun n => (S3.out.drewN n).put 12 (by decide) (.int .i64 (wrap64 (c.re + 1))) _ rfl
        have c30 : w3.cell? ⟨M, 30, none⟩ = some (.int .i64 c.re) := S3.out.m.cs 12 (by decide) _ rfl
        have p11 : w3.cell? ⟨M, 11, none⟩ = some (.int .i64 (l.getD 11 0)) := S3.out.m.pol 11 (by decide)
        have f30 := S3.out.m.fz 30
        have lt := S3.out.m.lt
        generalize hP : l.getD 11 0 = P11 at *
        go_wp2_with fail
        go_quiet (fail)
        go_wp2_with fail
        refine ((S4.out _).endC 7).mono ?_
        rintro r w5 ⟨rfl, q⟩
        have S5 : Hid (RS B M w.heap.size l s ev (CoM.endC 7 { c with re := wrap64 (c.re + 1) }, ac) w w5) := q
        clear q
        go_wp2_with fail
        refine (S5.out.act 7 (by omega)).mono ?_
        rintro r w6 ⟨rfl, q⟩
        have S6 : Hid (RS B M w.heap.size l s ev (CoM.endC 7 { c with re := wrap64 (c.re + 1) }, ac ++ [7]) w w6) := q
        clear q
        go_wp2_with fail
        go_ret
        subst hr
        exact Told.yes S6.out
  · rw [if_pos rfl]
    go_enter Tryd.func35, Tryd.ntmps35
    go_upto_region 1 with fail
    generalize w.alloc (.cells (evL ev).toArray 37) = w1 at *
    go_wp2_with fail
    refine S1.out.over.mono ?_
    rw [ho]
    rintro r w2 ⟨rfl, q⟩
    have S2 : Hid (RS B M w.heap.size l s ev (c, ac) w w2) := q
    clear q
    go_wp2_with fail
    go_ret
    exact Told.no (by decide) S2.out
end
end Go.Proofs.YtmbbigkpeefjjabDoor
