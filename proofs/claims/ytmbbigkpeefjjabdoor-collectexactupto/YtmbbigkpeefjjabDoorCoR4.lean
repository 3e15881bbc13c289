/-
  Ours: the rule of a payment (gen_cor.py).
-/
import Derived.Test.YtmbbigkpeefjjabDoorCoRS
namespace Go.Proofs.YtmbbigkpeefjjabDoor
open Go.RowKit LedM PolM CoM

section
variable {B M : Nat} {l : List Int} {s : Value} {c : Cs} {ac : List Int} {w : World}

set_option maxRecDepth 20000 in
set_option maxHeartbeats 2000000 in
theorem paid_rule (ev : Ev) (h : MAt B M l s (c, ac) w) (hn : ac.length ≤ 90) : Calls Tryd.prog 32 #[mptr M, evV ev] w (Told B M l s (paidR ev (c, ac)) w) := by
  show Calls _ _ #[mptr M, .agg (evL ev).toArray] _ _
  have S1 : Hid (RS B M w.heap.size l s ev (c, ac) w (w.alloc (.cells (evL ev).toArray 37))) := RS.start h ev
  clear h
  have E : paidR ev (c, ac) = if ev.a < 1 then (4, (c, ac)) else if ev.d < 0 then (2, (c, ac)) else if ovr c then (130, (c, ac)) else (0, paidM ev (c, ac)) := rfl
  rw [E]
  clear E
  by_cases h1 : ev.a < 1
  · rw [if_pos h1]
    go_enter Tryd.func32, Tryd.ntmps32
    go_upto_region 1 with fail
    generalize w.alloc (.cells (evL ev).toArray 37) = w1 at *
    have ea := S1.out.ea
    go_wp2_with fail
    go_ret
    exact Told.no (by decide) S1.out
  · rw [if_neg h1]
    by_cases hd : ev.d < 0
    · rw [if_pos hd]
      go_enter Tryd.func32, Tryd.ntmps32
      go_upto_region 1 with fail
      generalize w.alloc (.cells (evL ev).toArray 37) = w1 at *
      have ea := S1.out.ea
      have ed := S1.out.ed
      go_wp2_with fail
      go_ret
      exact Told.no (by decide) S1.out
    · rw [if_neg hd]
      cases ho : ovr c
      · rw [if_neg (by decide)]
        by_cases h4 : c.st = 4
        · have H4 : Hid (c.st = 4) := h4
          obtain ⟨c1, a1, hx⟩ : ∃ c1 a1, pay1 ev.a (c, ac) = (c1, a1) := ⟨_, _, rfl⟩
          have al : a1.length ≤ 91 := by
            have e2 : a1 = (pay1 ev.a (c, ac)).2 := by rw [hx]
            rw [e2, pay1, if_pos h4]; split <;> simp <;> omega
          have HX : Hid (pay1 ev.a (c, ac) = (c1, a1)) := hx
          clear hx h4
          have PM : paidM ev (c, ac) = if opn c1 = true ∧ ev.d = 0 then (curd c1, a1 ++ [6]) else if c1.st = 2 ∧ ev.d = 0 then ({ c1 with st := 1 }, a1) else (c1, a1) := by
            unfold paidM; rw [HX.out]
          rw [PM]
          clear PM
          cases hp : opn c1
          · rw [if_neg (by simp)]
            by_cases h2 : c1.st = 2
            · by_cases hd0 : ev.d = 0
              · have dz : (ev.d == 0) = true := by simpa using hd0
                rw [if_pos ⟨h2, hd0⟩]
                clear hd0
                go_enter Tryd.func32, Tryd.ntmps32
                go_upto_region 1 with fail
                generalize w.alloc (.cells (evL ev).toArray 37) = w1 at *
                have ea := S1.out.ea
                have ed := S1.out.ed
                go_wp2_with fail
                refine S1.out.over.mono ?_
                rw [ho]
                rintro r w2 ⟨rfl, q⟩
                have S2 : Hid (RS B M w.heap.size l s ev (c, ac) w w2) := q
                clear q
                have g18 : w2.cell? ⟨M, 18, none⟩ = some (.int .i64 4) := by rw [← H4.out]; exact S2.out.m.cs 0 (by decide) _ rfl
                have g3 := S2.out.ea
                go_wp2_with fail
                refine (S2.out.count ev.a (by omega) H4.out).mono ?_
                rintro r w3 ⟨rfl, q⟩
                rw [HX.out] at q
                have S3 : Hid (RS B M w.heap.size l s ev (c1, a1) w w3) := q
                clear q
                go_wp2_with (refine step_load rfl 27 _ rfl M 18 rfl (csL c1) _ S3.out.m.range Tryd.underlying27 rfl (sizeCsL c1) ?_)
                refine S3.out.opn.mono ?_
                rw [hp]
                rintro r v1 ⟨rfl, q⟩
                have SA : Hid (RS B M w.heap.size l s ev (c1, a1) w v1) := q
                clear q
                have va := SA.out.ed
                have c18 : v1.cell? ⟨M, 18, none⟩ = some (.int .i64 2) := by rw [← h2]; exact SA.out.m.cs 0 (by decide) _ rfl
                clear h2
                have f18 := SA.out.m.fz 18
                have ltA := SA.out.m.lt
                have SB : Hid (RS B M w.heap.size l s ev ({ c1 with st := 1 }, a1) w (v1.setCell ⟨M, 18, none⟩ (.int .i64 1))) := SA.out.put 0 (by decide) (.int .i64 1) _ rfl
                go_wp2_with fail
                go_ret
                exact Told.yes SB.out
              · have dz : (ev.d == 0) = false := by simpa using hd0
                rw [if_neg (fun q => hd0 q.2)]
                clear hd0
                go_enter Tryd.func32, Tryd.ntmps32
                go_upto_region 1 with fail
                generalize w.alloc (.cells (evL ev).toArray 37) = w1 at *
                have ea := S1.out.ea
                have ed := S1.out.ed
                go_wp2_with fail
                refine S1.out.over.mono ?_
                rw [ho]
                rintro r w2 ⟨rfl, q⟩
                have S2 : Hid (RS B M w.heap.size l s ev (c, ac) w w2) := q
                clear q
                have g18 : w2.cell? ⟨M, 18, none⟩ = some (.int .i64 4) := by rw [← H4.out]; exact S2.out.m.cs 0 (by decide) _ rfl
                have g3 := S2.out.ea
                go_wp2_with fail
                refine (S2.out.count ev.a (by omega) H4.out).mono ?_
                rintro r w3 ⟨rfl, q⟩
                rw [HX.out] at q
                have S3 : Hid (RS B M w.heap.size l s ev (c1, a1) w w3) := q
                clear q
                go_wp2_with (refine step_load rfl 27 _ rfl M 18 rfl (csL c1) _ S3.out.m.range Tryd.underlying27 rfl (sizeCsL c1) ?_)
                refine S3.out.opn.mono ?_
                rw [hp]
                rintro r v1 ⟨rfl, q⟩
                have SA : Hid (RS B M w.heap.size l s ev (c1, a1) w v1) := q
                clear q
                have va := SA.out.ed
                have c18 : v1.cell? ⟨M, 18, none⟩ = some (.int .i64 2) := by rw [← h2]; exact SA.out.m.cs 0 (by decide) _ rfl
                clear h2
                go_wp2_with fail
                go_ret
                exact Told.yes SA.out
            · have d2 : (c1.st == 2) = false := by simpa using h2
              rw [if_neg (fun q => h2 q.1)]
              clear h2
              go_enter Tryd.func32, Tryd.ntmps32
              go_upto_region 1 with fail
              generalize w.alloc (.cells (evL ev).toArray 37) = w1 at *
              have ea := S1.out.ea
              have ed := S1.out.ed
              go_wp2_with fail
              refine S1.out.over.mono ?_
              rw [ho]
              rintro r w2 ⟨rfl, q⟩
              have S2 : Hid (RS B M w.heap.size l s ev (c, ac) w w2) := q
              clear q
              have g18 : w2.cell? ⟨M, 18, none⟩ = some (.int .i64 4) := by rw [← H4.out]; exact S2.out.m.cs 0 (by decide) _ rfl
              have g3 := S2.out.ea
              go_wp2_with fail
              refine (S2.out.count ev.a (by omega) H4.out).mono ?_
              rintro r w3 ⟨rfl, q⟩
              rw [HX.out] at q
              have S3 : Hid (RS B M w.heap.size l s ev (c1, a1) w w3) := q
              clear q
              go_wp2_with (refine step_load rfl 27 _ rfl M 18 rfl (csL c1) _ S3.out.m.range Tryd.underlying27 rfl (sizeCsL c1) ?_)
              refine S3.out.opn.mono ?_
              rw [hp]
              rintro r v1 ⟨rfl, q⟩
              have SA : Hid (RS B M w.heap.size l s ev (c1, a1) w v1) := q
              clear q
              have va := SA.out.ed
              have c18 : v1.cell? ⟨M, 18, none⟩ = some (.int .i64 c1.st) := SA.out.m.cs 0 (by decide) _ rfl
              go_wp2_with fail
              go_ret
              exact Told.yes SA.out
          · by_cases hd0 : ev.d = 0
            · have dz : (ev.d == 0) = true := by simpa using hd0
              rw [if_pos ⟨rfl, hd0⟩]
              clear hd0
              generalize hr : ((curd c1, a1 ++ [6]) : Mc) = r9
              go_enter Tryd.func32, Tryd.ntmps32
              go_upto_region 1 with fail
              generalize w.alloc (.cells (evL ev).toArray 37) = w1 at *
              have ea := S1.out.ea
              have ed := S1.out.ed
              go_wp2_with fail
              refine S1.out.over.mono ?_
              rw [ho]
              rintro r w2 ⟨rfl, q⟩
              have S2 : Hid (RS B M w.heap.size l s ev (c, ac) w w2) := q
              clear q
              have g18 : w2.cell? ⟨M, 18, none⟩ = some (.int .i64 4) := by rw [← H4.out]; exact S2.out.m.cs 0 (by decide) _ rfl
              have g3 := S2.out.ea
              go_wp2_with fail
              refine (S2.out.count ev.a (by omega) H4.out).mono ?_
              rintro r w3 ⟨rfl, q⟩
              rw [HX.out] at q
              have S3 : Hid (RS B M w.heap.size l s ev (c1, a1) w w3) := q
              clear q
              go_wp2_with (refine step_load rfl 27 _ rfl M 18 rfl (csL c1) _ S3.out.m.range Tryd.underlying27 rfl (sizeCsL c1) ?_)
              refine S3.out.opn.mono ?_
              rw [hp]
              rintro r v1 ⟨rfl, q⟩
              have SA : Hid (RS B M w.heap.size l s ev (c1, a1) w v1) := q
              clear q
              have va := SA.out.ed
              go_wp2_with fail
              refine (SA.out.cure (by omega)).mono ?_
              rintro r v2 ⟨rfl, q⟩
              have SB : Hid (RS B M w.heap.size l s ev (curd c1, a1 ++ [6]) w v2) := q
              clear q
              go_wp2_with fail
              go_ret
              subst hr
              exact Told.yes SB.out
            · have dz : (ev.d == 0) = false := by simpa using hd0
              have h2 : c1.st ≠ 2 := fun q => by simp [CoM.opn, q] at hp
              have d2 : (c1.st == 2) = false := by simpa using h2
              rw [if_neg (fun q => hd0 q.2), if_neg (fun q => h2 q.1)]
              clear hd0 h2
              go_enter Tryd.func32, Tryd.ntmps32
              go_upto_region 1 with fail
              generalize w.alloc (.cells (evL ev).toArray 37) = w1 at *
              have ea := S1.out.ea
              have ed := S1.out.ed
              go_wp2_with fail
              refine S1.out.over.mono ?_
              rw [ho]
              rintro r w2 ⟨rfl, q⟩
              have S2 : Hid (RS B M w.heap.size l s ev (c, ac) w w2) := q
              clear q
              have g18 : w2.cell? ⟨M, 18, none⟩ = some (.int .i64 4) := by rw [← H4.out]; exact S2.out.m.cs 0 (by decide) _ rfl
              have g3 := S2.out.ea
              go_wp2_with fail
              refine (S2.out.count ev.a (by omega) H4.out).mono ?_
              rintro r w3 ⟨rfl, q⟩
              rw [HX.out] at q
              have S3 : Hid (RS B M w.heap.size l s ev (c1, a1) w w3) := q
              clear q
              go_wp2_with (refine step_load rfl 27 _ rfl M 18 rfl (csL c1) _ S3.out.m.range Tryd.underlying27 rfl (sizeCsL c1) ?_)
              refine S3.out.opn.mono ?_
              rw [hp]
              rintro r v1 ⟨rfl, q⟩
              have SA : Hid (RS B M w.heap.size l s ev (c1, a1) w v1) := q
              clear q
              have va := SA.out.ed
              have c18 : v1.cell? ⟨M, 18, none⟩ = some (.int .i64 c1.st) := SA.out.m.cs 0 (by decide) _ rfl
              go_wp2_with fail
              go_ret
              exact Told.yes SA.out
        · have d4 : (c.st == 4) = false := by simpa using h4
          have HX : Hid (pay1 ev.a (c, ac) = (c, ac)) := if_neg h4
          clear h4
          have PM : paidM ev (c, ac) = if opn c = true ∧ ev.d = 0 then (curd c, ac ++ [6]) else if c.st = 2 ∧ ev.d = 0 then ({ c with st := 1 }, ac) else (c, ac) := by
            unfold paidM; rw [HX.out]
          rw [PM]
          clear PM
          cases hp : opn c
          · rw [if_neg (by simp)]
            by_cases h2 : c.st = 2
            · by_cases hd0 : ev.d = 0
              · have dz : (ev.d == 0) = true := by simpa using hd0
                rw [if_pos ⟨h2, hd0⟩]
                clear hd0
                go_enter Tryd.func32, Tryd.ntmps32
                go_upto_region 1 with fail
                generalize w.alloc (.cells (evL ev).toArray 37) = w1 at *
                have ea := S1.out.ea
                have ed := S1.out.ed
                go_wp2_with fail
                refine S1.out.over.mono ?_
                rw [ho]
                rintro r w2 ⟨rfl, q⟩
                have S2 : Hid (RS B M w.heap.size l s ev (c, ac) w w2) := q
                clear q
                have g18 : w2.cell? ⟨M, 18, none⟩ = some (.int .i64 c.st) := S2.out.m.cs 0 (by decide) _ rfl
                go_wp2_with (refine step_load rfl 27 _ rfl M 18 rfl (csL c) _ S2.out.m.range Tryd.underlying27 rfl (sizeCsL c) ?_)
                refine S2.out.opn.mono ?_
                rw [hp]
                rintro r v1 ⟨rfl, q⟩
                have SA : Hid (RS B M w.heap.size l s ev (c, ac) w v1) := q
                clear q
                have va := SA.out.ed
                have c18 : v1.cell? ⟨M, 18, none⟩ = some (.int .i64 2) := by rw [← h2]; exact SA.out.m.cs 0 (by decide) _ rfl
                clear h2
                have f18 := SA.out.m.fz 18
                have ltA := SA.out.m.lt
                have SB : Hid (RS B M w.heap.size l s ev ({ c with st := 1 }, ac) w (v1.setCell ⟨M, 18, none⟩ (.int .i64 1))) := SA.out.put 0 (by decide) (.int .i64 1) _ rfl
                go_wp2_with fail
                go_ret
                exact Told.yes SB.out
              · have dz : (ev.d == 0) = false := by simpa using hd0
                rw [if_neg (fun q => hd0 q.2)]
                clear hd0
                go_enter Tryd.func32, Tryd.ntmps32
                go_upto_region 1 with fail
                generalize w.alloc (.cells (evL ev).toArray 37) = w1 at *
                have ea := S1.out.ea
                have ed := S1.out.ed
                go_wp2_with fail
                refine S1.out.over.mono ?_
                rw [ho]
                rintro r w2 ⟨rfl, q⟩
                have S2 : Hid (RS B M w.heap.size l s ev (c, ac) w w2) := q
                clear q
                have g18 : w2.cell? ⟨M, 18, none⟩ = some (.int .i64 c.st) := S2.out.m.cs 0 (by decide) _ rfl
                go_wp2_with (refine step_load rfl 27 _ rfl M 18 rfl (csL c) _ S2.out.m.range Tryd.underlying27 rfl (sizeCsL c) ?_)
                refine S2.out.opn.mono ?_
                rw [hp]
                rintro r v1 ⟨rfl, q⟩
                have SA : Hid (RS B M w.heap.size l s ev (c, ac) w v1) := q
                clear q
                have va := SA.out.ed
                have c18 : v1.cell? ⟨M, 18, none⟩ = some (.int .i64 2) := by rw [← h2]; exact SA.out.m.cs 0 (by decide) _ rfl
                clear h2
                go_wp2_with fail
                go_ret
                exact Told.yes SA.out
            · have d2 : (c.st == 2) = false := by simpa using h2
              rw [if_neg (fun q => h2 q.1)]
              clear h2
              go_enter Tryd.func32, Tryd.ntmps32
              go_upto_region 1 with fail
              generalize w.alloc (.cells (evL ev).toArray 37) = w1 at *
              have ea := S1.out.ea
              have ed := S1.out.ed
              go_wp2_with fail
              refine S1.out.over.mono ?_
              rw [ho]
              rintro r w2 ⟨rfl, q⟩
              have S2 : Hid (RS B M w.heap.size l s ev (c, ac) w w2) := q
              clear q
              have g18 : w2.cell? ⟨M, 18, none⟩ = some (.int .i64 c.st) := S2.out.m.cs 0 (by decide) _ rfl
              go_wp2_with (refine step_load rfl 27 _ rfl M 18 rfl (csL c) _ S2.out.m.range Tryd.underlying27 rfl (sizeCsL c) ?_)
              refine S2.out.opn.mono ?_
              rw [hp]
              rintro r v1 ⟨rfl, q⟩
              have SA : Hid (RS B M w.heap.size l s ev (c, ac) w v1) := q
              clear q
              have va := SA.out.ed
              have c18 : v1.cell? ⟨M, 18, none⟩ = some (.int .i64 c.st) := SA.out.m.cs 0 (by decide) _ rfl
              go_wp2_with fail
              go_ret
              exact Told.yes SA.out
          · by_cases hd0 : ev.d = 0
            · have dz : (ev.d == 0) = true := by simpa using hd0
              rw [if_pos ⟨rfl, hd0⟩]
              clear hd0
              generalize hr : ((curd c, ac ++ [6]) : Mc) = r9
              go_enter Tryd.func32, Tryd.ntmps32
              go_upto_region 1 with fail
              generalize w.alloc (.cells (evL ev).toArray 37) = w1 at *
              have ea := S1.out.ea
              have ed := S1.out.ed
              go_wp2_with fail
              refine S1.out.over.mono ?_
              rw [ho]
              rintro r w2 ⟨rfl, q⟩
              have S2 : Hid (RS B M w.heap.size l s ev (c, ac) w w2) := q
              clear q
              have g18 : w2.cell? ⟨M, 18, none⟩ = some (.int .i64 c.st) := S2.out.m.cs 0 (by decide) _ rfl
              go_wp2_with (refine step_load rfl 27 _ rfl M 18 rfl (csL c) _ S2.out.m.range Tryd.underlying27 rfl (sizeCsL c) ?_)
              refine S2.out.opn.mono ?_
              rw [hp]
              rintro r v1 ⟨rfl, q⟩
              have SA : Hid (RS B M w.heap.size l s ev (c, ac) w v1) := q
              clear q
              have va := SA.out.ed
              go_wp2_with fail
              refine (SA.out.cure (by omega)).mono ?_
              rintro r v2 ⟨rfl, q⟩
              have SB : Hid (RS B M w.heap.size l s ev (curd c, ac ++ [6]) w v2) := q
              clear q
              go_wp2_with fail
              go_ret
              subst hr
              exact Told.yes SB.out
            · have dz : (ev.d == 0) = false := by simpa using hd0
              have h2 : c.st ≠ 2 := fun q => by simp [CoM.opn, q] at hp
              have d2 : (c.st == 2) = false := by simpa using h2
              rw [if_neg (fun q => hd0 q.2), if_neg (fun q => h2 q.1)]
              clear hd0 h2
              go_enter Tryd.func32, Tryd.ntmps32
              go_upto_region 1 with fail
              generalize w.alloc (.cells (evL ev).toArray 37) = w1 at *
              have ea := S1.out.ea
              have ed := S1.out.ed
              go_wp2_with fail
              refine S1.out.over.mono ?_
              rw [ho]
              rintro r w2 ⟨rfl, q⟩
              have S2 : Hid (RS B M w.heap.size l s ev (c, ac) w w2) := q
              clear q
              have g18 : w2.cell? ⟨M, 18, none⟩ = some (.int .i64 c.st) := S2.out.m.cs 0 (by decide) _ rfl
              go_wp2_with (refine step_load rfl 27 _ rfl M 18 rfl (csL c) _ S2.out.m.range Tryd.underlying27 rfl (sizeCsL c) ?_)
              refine S2.out.opn.mono ?_
              rw [hp]
              rintro r v1 ⟨rfl, q⟩
              have SA : Hid (RS B M w.heap.size l s ev (c, ac) w v1) := q
              clear q
              have va := SA.out.ed
              have c18 : v1.cell? ⟨M, 18, none⟩ = some (.int .i64 c.st) := SA.out.m.cs 0 (by decide) _ rfl
              go_wp2_with fail
              go_ret
              exact Told.yes SA.out
      · rw [if_pos rfl]
        go_enter Tryd.func32, Tryd.ntmps32
        go_upto_region 1 with fail
        generalize w.alloc (.cells (evL ev).toArray 37) = w1 at *
        have ea := S1.out.ea
        have ed := S1.out.ed
        go_wp2_with fail
        refine S1.out.over.mono ?_
        rw [ho]
        rintro r w2 ⟨rfl, q⟩
        have S2 : Hid (RS B M w.heap.size l s ev (c, ac) w w2) := q
        clear q
        go_wp2_with fail
        go_ret
        exact Told.no (by decide) S2.out
end
end Go.Proofs.YtmbbigkpeefjjabDoor
