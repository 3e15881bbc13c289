/-
  Ours: the rule of a day.
-/
import Derived.Test.YtmbbigkpeefjjabDoorCoRS
import Derived.Deep.RegionHeld3
import Derived.Deep.RegionHeld
namespace Go.Proofs.YtmbbigkpeefjjabDoor
open Go.RowKit LedM PolM CoM

section
variable {B M : Nat} {l : List Int} {s : Value} {c : Cs} {ac : List Int} {w : World}
set_option maxRecDepth 20000 in
set_option maxHeartbeats 4000000 in
theorem age_rule (ev : Ev) (h : MAt B M l s (c, ac) w) (hn : ac.length ≤ 90) : Calls Tryd.prog 31 #[mptr M, evV ev] w (Told B M l s (ageR l ev (c, ac)) w) := by
  show Calls _ _ #[mptr M, .agg (evL ev).toArray] _ _
  have S1 : Hid (RS B M w.heap.size l s ev (c, ac) w (w.alloc (.cells (evL ev).toArray 37))) := RS.start h ev
  clear h
  have E : ageR l ev (c, ac) = if isD ev.t = false ∨ ev.d < 0 then (2, (c, ac)) else if ovr c then (130, (c, ac)) else (0, ageM l ev (c, ac)) := rfl
  rw [E]
  clear E
  cases hi : isD ev.t
  · rw [if_pos (.inl rfl)]
    go_enter Tryd.func31, Tryd.ntmps31
    go_upto_region 1 with fail
    generalize w.alloc (.cells (evL ev).toArray 37) = w1 at *
    have et := S1.out.et
    go_wp2_with fail
    refine S1.out.isD.mono ?_
    rw [hi]
    rintro r w2 ⟨rfl, q⟩
    have S2 : Hid (RS B M w.heap.size l s ev (c, ac) w w2) := q
    clear q
    go_wp2_with fail
    go_ret
    exact Told.no (by decide) S2.out
  · by_cases hd : ev.d < 0
    · rw [if_pos (.inr hd)]
      go_enter Tryd.func31, Tryd.ntmps31
      go_upto_region 1 with fail
      generalize w.alloc (.cells (evL ev).toArray 37) = w1 at *
      have et := S1.out.et
      go_wp2_with fail
      refine S1.out.isD.mono ?_
      rw [hi]
      rintro r w2 ⟨rfl, q⟩
      have S2 : Hid (RS B M w.heap.size l s ev (c, ac) w w2) := q
      clear q
      have ed := S2.out.ed
      go_wp2_with fail
      go_ret
      exact Told.no (by decide) S2.out
    · rw [if_neg (fun q => by rcases q with q | q; (cases q); exact hd q)]
      cases ho : ovr c
      · rw [if_neg (by decide)]
        generalize hr : ageM l ev (c, ac) = r9
        go_enter Tryd.func31, Tryd.ntmps31
        go_upto_region 1 with fail
        generalize w.alloc (.cells (evL ev).toArray 37) = w1 at *
        have et := S1.out.et
        go_wp2_with fail
        refine S1.out.isD.mono ?_
        rw [hi]
        rintro r w2 ⟨rfl, q⟩
        have S2 : Hid (RS B M w.heap.size l s ev (c, ac) w w2) := q
        clear q
        have ed := S2.out.ed
        go_wp2_with fail
        refine S2.out.over.mono ?_
        rw [ho]
        rintro r w3 ⟨rfl, q⟩
        have S3 : Hid (RS B M w.heap.size l s ev (c, ac) w w3) := q
        clear q S1 S2 et ed
        go_upto_region 5 with fail
        go_cut [33] from 16 to 100 (fun v wx => v = .bool (decide (c.st = 4 ∧ c.pd < ev.t)) ∧ Hid (RS B M w.heap.size l s ev (c, ac) w wx))
        case first =>
          have c18 : w3.cell? ⟨M, 18, none⟩ = some (.int .i64 c.st) := S3.out.m.cs 0 (by decide) _ rfl
          have c24 : w3.cell? ⟨M, 24, none⟩ = some (.int .i64 c.pd) := S3.out.m.cs 6 (by decide) _ rfl
          have lt := S3.out.m.lt
          have et := S3.out.et
          by_cases h4 : c.st = 4
          · have d4 : (c.st == 4) = true := by simpa using h4
            have H4 : Hid (c.st = 4) := h4
            clear h4
            go_quiet (fail)
            go_wp2_with fail
            go_meet
            case rel => exact ⟨by simp [H4.out], S3.out.drewN _⟩
          · have d4 : (c.st == 4) = false := by simpa using h4
            have H4 : Hid (¬ c.st = 4) := h4
            clear h4
            go_quiet (fail)
            go_wp2_with fail
            go_meet
            case rel => exact ⟨by simp [H4.out], S3.out.drewN _⟩
        case rest =>
          obtain ⟨rfl, S4⟩ := hcut
          clear S3
          go_upto_if 33 with fail
          go_cut [] from 16 to 100 (fun wx => Hid (RS B M w.heap.size l s ev (age1 ev (c, ac)) w wx))
          case first =>
            by_cases hA : c.st = 4 ∧ c.pd < ev.t
            · have HE : Hid (age1 ev (c, ac) = (CoM.brk c, ac ++ [1])) := if_pos hA
              rw [decide_eq_true hA]
              clear hA
              go_wp2_with fail
              refine (S4.out.brk (by omega)).mono ?_
              rintro r w5 ⟨rfl, q⟩
              have S5 : Hid (RS B M w.heap.size l s ev (CoM.brk c, ac ++ [1]) w w5) := q
              clear q
              go_wp2_with fail
              go_meet
              case rel =>
                show RS B M w.heap.size l s ev (age1 ev (c, ac)) w w5
                rw [HE.out]; exact S5.out
            · have HE : Hid (age1 ev (c, ac) = (c, ac)) := if_neg hA
              rw [decide_eq_false hA]
              clear hA
              go_wp2_with fail
              go_meet
              case rel =>
                show RS B M w.heap.size l s ev (age1 ev (c, ac)) w wc
                rw [HE.out]; exact S4.out
          case rest =>
            clear S4
            obtain ⟨c1, a1, hx⟩ : ∃ c1 a1, age1 ev (c, ac) = (c1, a1) := ⟨_, _, rfl⟩
            have al : a1.length ≤ 91 := by
              have e2 : a1 = (age1 ev (c, ac)).2 := by rw [hx]
              rw [e2, age1]; split <;> simp <;> omega
            have hr2 : (if opn c1 = true ∧ ev.d = 0 then (curd c1, a1 ++ [6]) else age5 ev (age4 (l.getD 2 0) ev (age3 (l.getD 1 0) (l.getD 3 0) ev (c1, a1)))) = r9 := by rw [← hr, ageM, hx]
            have HR : Hid ((if opn c1 = true ∧ ev.d = 0 then ((curd c1, a1 ++ [6]) : Mc) else age5 ev (age4 (l.getD 2 0) ev (age3 (l.getD 1 0) (l.getD 3 0) ev (c1, a1)))) = r9) := hr2
            have S5 : Hid (RS B M w.heap.size l s ev (c1, a1) w wc) := by rw [← hx]; exact hcut
            clear hr hr2 hx hcut
            go_upto_region 7 with fail
            go_cut [45] from 16 to 100 (fun v wx => v = .bool (decide (opn c1 = true ∧ ev.d = 0)) ∧ Hid (RS B M w.heap.size l s ev (c1, a1) w wx))
            case first =>
              go_wp2_with (refine step_load rfl 27 _ rfl M 18 rfl (csL c1) _ S5.out.m.range Tryd.underlying27 rfl (sizeCsL c1) ?_)
              refine S5.out.opn.mono ?_
              cases hp : opn c1
              · rintro r w6 ⟨rfl, q⟩
                have S6 : Hid (RS B M w.heap.size l s ev (c1, a1) w w6) := q
                clear q
                go_wp2_with fail
                go_meet
                case rel => exact ⟨by simp [hp], S6.out⟩
              · rintro r w6 ⟨rfl, q⟩
                have S6 : Hid (RS B M w.heap.size l s ev (c1, a1) w w6) := q
                clear q
                have ed := S6.out.ed
                go_wp2_with fail
                go_meet
                case rel => exact ⟨by simp [hp]; rfl, S6.out⟩
            case rest =>
              obtain ⟨rfl, S6⟩ := hcut
              clear S5
              by_cases hC : opn c1 = true ∧ ev.d = 0
              · rw [decide_eq_true hC]
                have HQ : Hid (((curd c1, a1 ++ [6]) : Mc) = r9) := by show (_ : Mc) = _; rw [← HR.out, if_pos hC]
                clear hC HR
                go_wp2_with fail
                refine (S6.out.cure (by omega)).mono ?_
                rintro r w7 ⟨rfl, q⟩
                have S7 : Hid (RS B M w.heap.size l s ev (curd c1, a1 ++ [6]) w w7) := q
                clear q
                go_wp2_with fail
                go_ret
                rw [← HQ.out]
                exact Told.yes S7.out
              · rw [decide_eq_false hC]
                have HQ : Hid (age5 ev (age4 (l.getD 2 0) ev (age3 (l.getD 1 0) (l.getD 3 0) ev (c1, a1))) = r9) := by show (_ : Mc) = _; rw [← HR.out, if_neg hC]
                clear hC HR
                go_upto_region 10 with fail
                go_cut [53] from 16 to 100 (fun v wx => v = .bool (!opn c1) ∧ Hid (RS B M w.heap.size l s ev (c1, a1) w wx))
                case first =>
                  go_wp2_with (refine step_load rfl 27 _ rfl M 18 rfl (csL c1) _ S6.out.m.range Tryd.underlying27 rfl (sizeCsL c1) ?_)
                  refine S6.out.opn.mono ?_
                  rintro r w7 ⟨rfl, q⟩
                  have S7 : Hid (RS B M w.heap.size l s ev (c1, a1) w w7) := q
                  clear q
                  go_wp2_with fail
                  go_meet
                  case rel => exact ⟨rfl, S7.out⟩
                case rest =>
                  obtain ⟨rfl, S7⟩ := hcut
                  clear S6
                  go_upto_if 53 with fail
                  go_cut [] from 16 to 100 (fun wx => Hid (RS B M w.heap.size l s ev (age3 (l.getD 1 0) (l.getD 3 0) ev (c1, a1)) w wx))
                  case first =>
                    cases hp : opn c1
                    · have HE : Hid (age3 (l.getD 1 0) (l.getD 3 0) ev (c1, a1) = lok (l.getD 1 0) (l.getD 3 0) ev (c1, a1)) := by show age3 (l.getD 1 0) (l.getD 3 0) ev (c1, a1) = _; rw [age3, hp]; rfl
                      go_wp2_with (refine step_load rfl 37 _ rfl w.heap.size 0 rfl (evL ev) _ (Blk.all S7.out.ev) Tryd.underlying37 rfl (sizeEvL ev) ?_)
                      refine (S7.out.look (by omega)).mono ?_
                      rintro r w8 ⟨rfl, q⟩
                      have S8 : Hid (RS B M w.heap.size l s ev (lok (l.getD 1 0) (l.getD 3 0) ev (c1, a1)) w w8) := q
                      clear q
                      go_wp2_with fail
                      go_meet
                      case rel =>
                        show RS B M w.heap.size l s ev (age3 (l.getD 1 0) (l.getD 3 0) ev (c1, a1)) w w8
                        rw [HE.out]; exact S8.out
                    · have HE : Hid (age3 (l.getD 1 0) (l.getD 3 0) ev (c1, a1) = (c1, a1)) := by show age3 (l.getD 1 0) (l.getD 3 0) ev (c1, a1) = _; rw [age3, hp]; rfl
                      go_wp2_with fail
                      go_meet
                      case rel =>
                        show RS B M w.heap.size l s ev (age3 (l.getD 1 0) (l.getD 3 0) ev (c1, a1)) w wc
                        rw [HE.out]; exact S7.out
                  case rest =>
                    clear S7
                    obtain ⟨c3, a3, hx⟩ : ∃ c3 a3, age3 (l.getD 1 0) (l.getD 3 0) ev (c1, a1) = (c3, a3) := ⟨_, _, rfl⟩
                    have al3 : a3.length ≤ 92 := by
                      have e2 : a3 = (age3 (l.getD 1 0) (l.getD 3 0) ev (c1, a1)).2 := by rw [hx]
                      rw [e2, age3]; split
                      · simp; omega
                      · unfold lok; split
                        · simp; omega
                        · split
                          · simp; omega
                          · split <;> simp <;> omega
                    have HQ3 : Hid (age5 ev (age4 (l.getD 2 0) ev (c3, a3)) = r9) := by rw [← hx]; exact HQ.out
                    have S12 : Hid (RS B M w.heap.size l s ev (c3, a3) w wc) := by rw [← hx]; exact hcut
                    clear HQ hx hcut al
                    go_upto_region 12 with fail
                    go_cut [79] from 16 to 100 (fun v wx => v = .bool (decide (opn c3 = true ∧ c3.su = false ∧ l.getD 2 0 ≤ ev.d)) ∧ Hid (RS B M w.heap.size l s ev (c3, a3) w wx))
                    case first =>
                      have hu := Tryd.underlying27
                      have hi2 := sizeCsL c3
                      cases hp : opn c3
                      · refine wp_region_held_drew (S := fun w' => RS B M w.heap.size l s ev (c3, a3) w w') (by kernel_rfl) (S12.out.drew) (fun hH => ?_)
                        refine wpAnyH_take (i := 0) (oi := { dst := some 57, op := Op.move (Operand.tmp 0), type := 68, pos := "machine.go:48", after := #[], guard := none }) (v := mptr M) rfl (by kernel_rfl) (by kernel_rfl) (by kernel_rfl) (fun _ _ _ h => h) (Or.inl ⟨by rfl, fun w' h => by go_simp⟩) hH ?_
                        try simp only [Act.put, List.setIfInBounds_toArray, List.set_cons_zero, List.set_cons_succ]
                        refine wpAnyH_take (i := 1) (oi := { dst := some 58, op := Op.nilCheck (Operand.tmp 57), type := 0, pos := "machine.go:48", after := #[{ on := 0, ground := Ground.data }], guard := none }) (v := .pointer (some ⟨M, 0, none⟩)) rfl (by kernel_rfl) (by kernel_rfl) (by kernel_rfl) (fun _ _ _ h => h) (Or.inl ⟨by rfl, fun w' h => by go_simp⟩) hH ?_
                        try simp only [Act.put, List.setIfInBounds_toArray, List.set_cons_zero, List.set_cons_succ]
                        refine wpAnyH_take (i := 2) (oi := { dst := some 59, op := Op.fieldAddr 67 (Operand.tmp 58) 1, type := 0, pos := "machine.go:48", after := #[{ on := 1, ground := Ground.data }], guard := none }) (v := .pointer (some ⟨M, 18, none⟩)) rfl (by kernel_rfl) (by kernel_rfl) (by kernel_rfl) (fun _ _ _ h => h) (Or.inl ⟨by rfl, fun w' h => by go_simp⟩) hH ?_
                        try simp only [Act.put, List.setIfInBounds_toArray, List.set_cons_zero, List.set_cons_succ]
                        refine wpAnyH_take (i := 3) (oi := { dst := some 60, op := Op.load 27 (Operand.tmp 59), type := 27, pos := "machine.go:48", after := #[{ on := 2, ground := Ground.data }], guard := none }) (v := .agg (csL c3).toArray) rfl (by kernel_rfl) (by kernel_rfl) (by kernel_rfl) (fun _ _ _ h => h) (yieldsIf_load_mid (by rfl) _ _ rfl M 18 rfl (csL c3) _ (fun w' h => h.m.range) hu rfl hi2) hH ?_
                        try simp only [Act.put, List.setIfInBounds_toArray, List.set_cons_zero, List.set_cons_succ]
                        refine wpAnyH_ready (rs := [4]) (by kernel_rfl) (by simp) ?_
                        refine AllReadyH.cons (o := { dst := some 61, op := Op.call { callee := Callee.value (Operand.func 5), args := #[Operand.tmp 60], argTypes := #[27] }, type := 4, pos := "machine.go:48", after := #[{ on := 3, ground := Ground.data }], guard := none }) rfl (fun K hK => ?_) AllReadyH.nil
                        go_simp
                        refine (hH.opn).mono ?_
                        rw [hp]
                        rintro r v1 ⟨rfl, q⟩
                        refine hK.out _ _ (q) (fun hH => ?_)
                        try simp only [Act.put, List.setIfInBounds_toArray, List.set_cons_zero, List.set_cons_succ]
                        refine wpAnyH_take (i := 5) (oi := { dst := some 62, op := Op.move (Operand.tmp 61), type := 4, pos := "machine.go:48", after := #[{ on := 4, ground := Ground.data }, { on := 4, ground := Ground.chain }], guard := none }) (v := .bool false) rfl (by kernel_rfl) (by kernel_rfl) (by kernel_rfl) (fun _ _ _ h => h) (Or.inl ⟨by rfl, fun w' h => by go_simp⟩) hH ?_
                        try simp only [Act.put, List.setIfInBounds_toArray, List.set_cons_zero, List.set_cons_succ]
                        refine wpAnyH_take (i := 6) (oi := { dst := some 63, op := Op.move (Operand.tmp 0), type := 68, pos := "machine.go:48", after := #[{ on := 5, ground := Ground.guard }], guard := some (5, true) }) (v := undef) rfl (by kernel_rfl) (by kernel_rfl) (by kernel_rfl) (fun _ _ _ h => h) (Or.inr ⟨by rfl, rfl⟩) hH ?_
                        try simp only [Act.put, List.setIfInBounds_toArray, List.set_cons_zero, List.set_cons_succ]
                        refine wpAnyH_take (i := 7) (oi := { dst := some 64, op := Op.nilCheck (Operand.tmp 63), type := 0, pos := "machine.go:48", after := #[{ on := 6, ground := Ground.data }, { on := 5, ground := Ground.guard }], guard := some (5, true) }) (v := undef) rfl (by kernel_rfl) (by kernel_rfl) (by kernel_rfl) (fun _ _ _ h => h) (Or.inr ⟨by rfl, rfl⟩) hH ?_
                        try simp only [Act.put, List.setIfInBounds_toArray, List.set_cons_zero, List.set_cons_succ]
                        refine wpAnyH_take (i := 8) (oi := { dst := some 65, op := Op.fieldAddr 67 (Operand.tmp 64) 1, type := 0, pos := "machine.go:48", after := #[{ on := 7, ground := Ground.data }, { on := 5, ground := Ground.guard }], guard := some (5, true) }) (v := undef) rfl (by kernel_rfl) (by kernel_rfl) (by kernel_rfl) (fun _ _ _ h => h) (Or.inr ⟨by rfl, rfl⟩) hH ?_
                        try simp only [Act.put, List.setIfInBounds_toArray, List.set_cons_zero, List.set_cons_succ]
                        refine wpAnyH_take (i := 9) (oi := { dst := some 66, op := Op.fieldAddr 27 (Operand.tmp 65) 1, type := 0, pos := "machine.go:48", after := #[{ on := 8, ground := Ground.data }, { on := 5, ground := Ground.guard }], guard := some (5, true) }) (v := undef) rfl (by kernel_rfl) (by kernel_rfl) (by kernel_rfl) (fun _ _ _ h => h) (Or.inr ⟨by rfl, rfl⟩) hH ?_
                        try simp only [Act.put, List.setIfInBounds_toArray, List.set_cons_zero, List.set_cons_succ]
                        refine wpAnyH_take (i := 10) (oi := { dst := some 67, op := Op.load 4 (Operand.tmp 66), type := 4, pos := "machine.go:48", after := #[{ on := 9, ground := Ground.data }, { on := 5, ground := Ground.guard }], guard := some (5, true) }) (v := undef) rfl (by kernel_rfl) (by kernel_rfl) (by kernel_rfl) (fun _ _ _ h => h) (Or.inr ⟨by rfl, rfl⟩) hH ?_
                        try simp only [Act.put, List.setIfInBounds_toArray, List.set_cons_zero, List.set_cons_succ]
                        refine wpAnyH_take (i := 11) (oi := { dst := some 68, op := Op.unOp UnOp.not 4 (Operand.tmp 67), type := 4, pos := "machine.go:48", after := #[{ on := 10, ground := Ground.data }, { on := 5, ground := Ground.guard }], guard := some (5, true) }) (v := undef) rfl (by kernel_rfl) (by kernel_rfl) (by kernel_rfl) (fun _ _ _ h => h) (Or.inr ⟨by rfl, rfl⟩) hH ?_
                        try simp only [Act.put, List.setIfInBounds_toArray, List.set_cons_zero, List.set_cons_succ]
                        refine wpAnyH_take (i := 12) (oi := { dst := some 69, op := Op.pick (Operand.tmp 62) (Operand.tmp 68) (Operand.const (Value.bool false)), type := 4, pos := "machine.go:48", after := #[{ on := 5, ground := Ground.data }, { on := 11, ground := Ground.data }], guard := none }) (v := .bool false) rfl (by kernel_rfl) (by kernel_rfl) (by kernel_rfl) (fun _ _ _ h => h) (Or.inl ⟨by rfl, fun w' h => by go_simp⟩) hH ?_
                        try simp only [Act.put, List.setIfInBounds_toArray, List.set_cons_zero, List.set_cons_succ]
                        refine wpAnyH_take (i := 13) (oi := { dst := some 70, op := Op.move (Operand.tmp 69), type := 4, pos := "machine.go:48", after := #[{ on := 12, ground := Ground.data }, { on := 5, ground := Ground.chain }], guard := none }) (v := .bool false) rfl (by kernel_rfl) (by kernel_rfl) (by kernel_rfl) (fun _ _ _ h => h) (Or.inl ⟨by rfl, fun w' h => by go_simp⟩) hH ?_
                        try simp only [Act.put, List.setIfInBounds_toArray, List.set_cons_zero, List.set_cons_succ]
                        refine wpAnyH_take (i := 14) (oi := { dst := some 71, op := Op.fieldAddr 37 (Operand.tmp 3) 2, type := 0, pos := "machine.go:48", after := #[{ on := 13, ground := Ground.guard }], guard := some (13, true) }) (v := undef) rfl (by kernel_rfl) (by kernel_rfl) (by kernel_rfl) (fun _ _ _ h => h) (Or.inr ⟨by rfl, rfl⟩) hH ?_
                        try simp only [Act.put, List.setIfInBounds_toArray, List.set_cons_zero, List.set_cons_succ]
                        refine wpAnyH_take (i := 15) (oi := { dst := some 72, op := Op.load 3 (Operand.tmp 71), type := 3, pos := "machine.go:48", after := #[{ on := 14, ground := Ground.data }, { on := 13, ground := Ground.guard }], guard := some (13, true) }) (v := undef) rfl (by kernel_rfl) (by kernel_rfl) (by kernel_rfl) (fun _ _ _ h => h) (Or.inr ⟨by rfl, rfl⟩) hH ?_
                        try simp only [Act.put, List.setIfInBounds_toArray, List.set_cons_zero, List.set_cons_succ]
                        refine wpAnyH_take (i := 16) (oi := { dst := some 73, op := Op.move (Operand.tmp 0), type := 68, pos := "machine.go:48", after := #[{ on := 13, ground := Ground.guard }], guard := some (13, true) }) (v := undef) rfl (by kernel_rfl) (by kernel_rfl) (by kernel_rfl) (fun _ _ _ h => h) (Or.inr ⟨by rfl, rfl⟩) hH ?_
                        try simp only [Act.put, List.setIfInBounds_toArray, List.set_cons_zero, List.set_cons_succ]
                        refine wpAnyH_take (i := 17) (oi := { dst := some 74, op := Op.nilCheck (Operand.tmp 73), type := 0, pos := "machine.go:48", after := #[{ on := 16, ground := Ground.data }, { on := 13, ground := Ground.guard }], guard := some (13, true) }) (v := undef) rfl (by kernel_rfl) (by kernel_rfl) (by kernel_rfl) (fun _ _ _ h => h) (Or.inr ⟨by rfl, rfl⟩) hH ?_
                        try simp only [Act.put, List.setIfInBounds_toArray, List.set_cons_zero, List.set_cons_succ]
                        refine wpAnyH_take (i := 18) (oi := { dst := some 75, op := Op.fieldAddr 67 (Operand.tmp 74) 0, type := 0, pos := "machine.go:48", after := #[{ on := 17, ground := Ground.data }, { on := 13, ground := Ground.guard }], guard := some (13, true) }) (v := undef) rfl (by kernel_rfl) (by kernel_rfl) (by kernel_rfl) (fun _ _ _ h => h) (Or.inr ⟨by rfl, rfl⟩) hH ?_
                        try simp only [Act.put, List.setIfInBounds_toArray, List.set_cons_zero, List.set_cons_succ]
                        refine wpAnyH_take (i := 19) (oi := { dst := some 76, op := Op.fieldAddr 24 (Operand.tmp 75) 2, type := 0, pos := "machine.go:48", after := #[{ on := 18, ground := Ground.data }, { on := 13, ground := Ground.guard }], guard := some (13, true) }) (v := undef) rfl (by kernel_rfl) (by kernel_rfl) (by kernel_rfl) (fun _ _ _ h => h) (Or.inr ⟨by rfl, rfl⟩) hH ?_
                        try simp only [Act.put, List.setIfInBounds_toArray, List.set_cons_zero, List.set_cons_succ]
                        refine wpAnyH_take (i := 20) (oi := { dst := some 77, op := Op.load 3 (Operand.tmp 76), type := 3, pos := "machine.go:48", after := #[{ on := 19, ground := Ground.data }, { on := 13, ground := Ground.guard }], guard := some (13, true) }) (v := undef) rfl (by kernel_rfl) (by kernel_rfl) (by kernel_rfl) (fun _ _ _ h => h) (Or.inr ⟨by rfl, rfl⟩) hH ?_
                        try simp only [Act.put, List.setIfInBounds_toArray, List.set_cons_zero, List.set_cons_succ]
                        refine wpAnyH_take (i := 21) (oi := { dst := some 78, op := Op.binOp BinOp.geq 3 (Operand.tmp 72) (Operand.tmp 77) 3, type := 4, pos := "machine.go:48", after := #[{ on := 15, ground := Ground.data }, { on := 20, ground := Ground.data }, { on := 13, ground := Ground.guard }], guard := some (13, true) }) (v := undef) rfl (by kernel_rfl) (by kernel_rfl) (by kernel_rfl) (fun _ _ _ h => h) (Or.inr ⟨by rfl, rfl⟩) hH ?_
                        try simp only [Act.put, List.setIfInBounds_toArray, List.set_cons_zero, List.set_cons_succ]
                        refine wpAnyH_take (i := 22) (oi := { dst := some 79, op := Op.pick (Operand.tmp 70) (Operand.tmp 78) (Operand.const (Value.bool false)), type := 4, pos := "machine.go:48", after := #[{ on := 13, ground := Ground.data }, { on := 21, ground := Ground.data }], guard := none }) (v := .bool false) rfl (by kernel_rfl) (by kernel_rfl) (by kernel_rfl) (fun _ _ _ h => h) (Or.inl ⟨by rfl, fun w' h => by go_simp⟩) hH ?_
                        try simp only [Act.put, List.setIfInBounds_toArray, List.set_cons_zero, List.set_cons_succ]
                        refine wpAnyH_done (by kernel_rfl) ?_ _
                        have SZ : Hid _ := hH
                        clear hH hK
                        go_wp2_with fail
                        go_meet
                        case rel => exact ⟨by simp [hp], SZ⟩
                      · cases hsu : c3.su
                        · have HSU : Hid (c3.su = false) := hsu
                          refine wp_region_held_drew (S := fun w' => RS B M w.heap.size l s ev (c3, a3) w w') (by kernel_rfl) (S12.out.drew) (fun hH => ?_)
                          refine wpAnyH_take (i := 0) (oi := { dst := some 57, op := Op.move (Operand.tmp 0), type := 68, pos := "machine.go:48", after := #[], guard := none }) (v := mptr M) rfl (by kernel_rfl) (by kernel_rfl) (by kernel_rfl) (fun _ _ _ h => h) (Or.inl ⟨by rfl, fun w' h => by go_simp⟩) hH ?_
                          try simp only [Act.put, List.setIfInBounds_toArray, List.set_cons_zero, List.set_cons_succ]
                          refine wpAnyH_take (i := 1) (oi := { dst := some 58, op := Op.nilCheck (Operand.tmp 57), type := 0, pos := "machine.go:48", after := #[{ on := 0, ground := Ground.data }], guard := none }) (v := .pointer (some ⟨M, 0, none⟩)) rfl (by kernel_rfl) (by kernel_rfl) (by kernel_rfl) (fun _ _ _ h => h) (Or.inl ⟨by rfl, fun w' h => by go_simp⟩) hH ?_
                          try simp only [Act.put, List.setIfInBounds_toArray, List.set_cons_zero, List.set_cons_succ]
                          refine wpAnyH_take (i := 2) (oi := { dst := some 59, op := Op.fieldAddr 67 (Operand.tmp 58) 1, type := 0, pos := "machine.go:48", after := #[{ on := 1, ground := Ground.data }], guard := none }) (v := .pointer (some ⟨M, 18, none⟩)) rfl (by kernel_rfl) (by kernel_rfl) (by kernel_rfl) (fun _ _ _ h => h) (Or.inl ⟨by rfl, fun w' h => by go_simp⟩) hH ?_
                          try simp only [Act.put, List.setIfInBounds_toArray, List.set_cons_zero, List.set_cons_succ]
                          refine wpAnyH_take (i := 3) (oi := { dst := some 60, op := Op.load 27 (Operand.tmp 59), type := 27, pos := "machine.go:48", after := #[{ on := 2, ground := Ground.data }], guard := none }) (v := .agg (csL c3).toArray) rfl (by kernel_rfl) (by kernel_rfl) (by kernel_rfl) (fun _ _ _ h => h) (yieldsIf_load_mid (by rfl) _ _ rfl M 18 rfl (csL c3) _ (fun w' h => h.m.range) hu rfl hi2) hH ?_
                          try simp only [Act.put, List.setIfInBounds_toArray, List.set_cons_zero, List.set_cons_succ]
                          refine wpAnyH_ready (rs := [4]) (by kernel_rfl) (by simp) ?_
                          refine AllReadyH.cons (o := { dst := some 61, op := Op.call { callee := Callee.value (Operand.func 5), args := #[Operand.tmp 60], argTypes := #[27] }, type := 4, pos := "machine.go:48", after := #[{ on := 3, ground := Ground.data }], guard := none }) rfl (fun K hK => ?_) AllReadyH.nil
                          go_simp
                          refine (hH.opn).mono ?_
                          rw [hp]
                          rintro r v1 ⟨rfl, q⟩
                          refine hK.out _ _ (q) (fun hH => ?_)
                          try simp only [Act.put, List.setIfInBounds_toArray, List.set_cons_zero, List.set_cons_succ]
                          refine wpAnyH_take (i := 5) (oi := { dst := some 62, op := Op.move (Operand.tmp 61), type := 4, pos := "machine.go:48", after := #[{ on := 4, ground := Ground.data }, { on := 4, ground := Ground.chain }], guard := none }) (v := .bool true) rfl (by kernel_rfl) (by kernel_rfl) (by kernel_rfl) (fun _ _ _ h => h) (Or.inl ⟨by rfl, fun w' h => by go_simp⟩) hH ?_
                          try simp only [Act.put, List.setIfInBounds_toArray, List.set_cons_zero, List.set_cons_succ]
                          refine wpAnyH_take (i := 6) (oi := { dst := some 63, op := Op.move (Operand.tmp 0), type := 68, pos := "machine.go:48", after := #[{ on := 5, ground := Ground.guard }], guard := some (5, true) }) (v := mptr M) rfl (by kernel_rfl) (by kernel_rfl) (by kernel_rfl) (fun _ _ _ h => h) (Or.inl ⟨by rfl, fun w' h => by go_simp⟩) hH ?_
                          try simp only [Act.put, List.setIfInBounds_toArray, List.set_cons_zero, List.set_cons_succ]
                          refine wpAnyH_take (i := 7) (oi := { dst := some 64, op := Op.nilCheck (Operand.tmp 63), type := 0, pos := "machine.go:48", after := #[{ on := 6, ground := Ground.data }, { on := 5, ground := Ground.guard }], guard := some (5, true) }) (v := .pointer (some ⟨M, 0, none⟩)) rfl (by kernel_rfl) (by kernel_rfl) (by kernel_rfl) (fun _ _ _ h => h) (Or.inl ⟨by rfl, fun w' h => by go_simp⟩) hH ?_
                          try simp only [Act.put, List.setIfInBounds_toArray, List.set_cons_zero, List.set_cons_succ]
                          refine wpAnyH_take (i := 8) (oi := { dst := some 65, op := Op.fieldAddr 67 (Operand.tmp 64) 1, type := 0, pos := "machine.go:48", after := #[{ on := 7, ground := Ground.data }, { on := 5, ground := Ground.guard }], guard := some (5, true) }) (v := .pointer (some ⟨M, 18, none⟩)) rfl (by kernel_rfl) (by kernel_rfl) (by kernel_rfl) (fun _ _ _ h => h) (Or.inl ⟨by rfl, fun w' h => by go_simp⟩) hH ?_
                          try simp only [Act.put, List.setIfInBounds_toArray, List.set_cons_zero, List.set_cons_succ]
                          refine wpAnyH_take (i := 9) (oi := { dst := some 66, op := Op.fieldAddr 27 (Operand.tmp 65) 1, type := 0, pos := "machine.go:48", after := #[{ on := 8, ground := Ground.data }, { on := 5, ground := Ground.guard }], guard := some (5, true) }) (v := .pointer (some ⟨M, 19, none⟩)) rfl (by kernel_rfl) (by kernel_rfl) (by kernel_rfl) (fun _ _ _ h => h) (Or.inl ⟨by rfl, fun w' h => by go_simp⟩) hH ?_
                          try simp only [Act.put, List.setIfInBounds_toArray, List.set_cons_zero, List.set_cons_succ]
                          refine wpAnyH_take (i := 10) (oi := { dst := some 67, op := Op.load 4 (Operand.tmp 66), type := 4, pos := "machine.go:48", after := #[{ on := 9, ground := Ground.data }, { on := 5, ground := Ground.guard }], guard := some (5, true) }) (v := .bool false) rfl (by kernel_rfl) (by kernel_rfl) (by kernel_rfl) (fun _ _ _ h => h) (Or.inl ⟨by rfl, fun w' h => by have q1 : w'.cell? ⟨M, 19, none⟩ = some (.bool c3.su) := h.m.cs 1 (by decide) _ rfl; rw [HSU.out] at q1; go_simp⟩) hH ?_
                          try simp only [Act.put, List.setIfInBounds_toArray, List.set_cons_zero, List.set_cons_succ]
                          refine wpAnyH_take (i := 11) (oi := { dst := some 68, op := Op.unOp UnOp.not 4 (Operand.tmp 67), type := 4, pos := "machine.go:48", after := #[{ on := 10, ground := Ground.data }, { on := 5, ground := Ground.guard }], guard := some (5, true) }) (v := .bool true) rfl (by kernel_rfl) (by kernel_rfl) (by kernel_rfl) (fun _ _ _ h => h) (Or.inl ⟨by rfl, fun w' h => by go_simp⟩) hH ?_
                          try simp only [Act.put, List.setIfInBounds_toArray, List.set_cons_zero, List.set_cons_succ]
                          refine wpAnyH_take (i := 12) (oi := { dst := some 69, op := Op.pick (Operand.tmp 62) (Operand.tmp 68) (Operand.const (Value.bool false)), type := 4, pos := "machine.go:48", after := #[{ on := 5, ground := Ground.data }, { on := 11, ground := Ground.data }], guard := none }) (v := .bool true) rfl (by kernel_rfl) (by kernel_rfl) (by kernel_rfl) (fun _ _ _ h => h) (Or.inl ⟨by rfl, fun w' h => by go_simp⟩) hH ?_
                          try simp only [Act.put, List.setIfInBounds_toArray, List.set_cons_zero, List.set_cons_succ]
                          refine wpAnyH_take (i := 13) (oi := { dst := some 70, op := Op.move (Operand.tmp 69), type := 4, pos := "machine.go:48", after := #[{ on := 12, ground := Ground.data }, { on := 5, ground := Ground.chain }], guard := none }) (v := .bool true) rfl (by kernel_rfl) (by kernel_rfl) (by kernel_rfl) (fun _ _ _ h => h) (Or.inl ⟨by rfl, fun w' h => by go_simp⟩) hH ?_
                          try simp only [Act.put, List.setIfInBounds_toArray, List.set_cons_zero, List.set_cons_succ]
                          refine wpAnyH_take (i := 14) (oi := { dst := some 71, op := Op.fieldAddr 37 (Operand.tmp 3) 2, type := 0, pos := "machine.go:48", after := #[{ on := 13, ground := Ground.guard }], guard := some (13, true) }) (v := .pointer (some ⟨w.heap.size, 2, none⟩)) rfl (by kernel_rfl) (by kernel_rfl) (by kernel_rfl) (fun _ _ _ h => h) (Or.inl ⟨by rfl, fun w' h => by go_simp⟩) hH ?_
                          try simp only [Act.put, List.setIfInBounds_toArray, List.set_cons_zero, List.set_cons_succ]
                          refine wpAnyH_take (i := 15) (oi := { dst := some 72, op := Op.load 3 (Operand.tmp 71), type := 3, pos := "machine.go:48", after := #[{ on := 14, ground := Ground.data }, { on := 13, ground := Ground.guard }], guard := some (13, true) }) (v := .int .i64 ev.d) rfl (by kernel_rfl) (by kernel_rfl) (by kernel_rfl) (fun _ _ _ h => h) (Or.inl ⟨by rfl, fun w' h => by have q1 := h.ed; go_simp⟩) hH ?_
                          try simp only [Act.put, List.setIfInBounds_toArray, List.set_cons_zero, List.set_cons_succ]
                          refine wpAnyH_take (i := 16) (oi := { dst := some 73, op := Op.move (Operand.tmp 0), type := 68, pos := "machine.go:48", after := #[{ on := 13, ground := Ground.guard }], guard := some (13, true) }) (v := mptr M) rfl (by kernel_rfl) (by kernel_rfl) (by kernel_rfl) (fun _ _ _ h => h) (Or.inl ⟨by rfl, fun w' h => by go_simp⟩) hH ?_
                          try simp only [Act.put, List.setIfInBounds_toArray, List.set_cons_zero, List.set_cons_succ]
                          refine wpAnyH_take (i := 17) (oi := { dst := some 74, op := Op.nilCheck (Operand.tmp 73), type := 0, pos := "machine.go:48", after := #[{ on := 16, ground := Ground.data }, { on := 13, ground := Ground.guard }], guard := some (13, true) }) (v := .pointer (some ⟨M, 0, none⟩)) rfl (by kernel_rfl) (by kernel_rfl) (by kernel_rfl) (fun _ _ _ h => h) (Or.inl ⟨by rfl, fun w' h => by go_simp⟩) hH ?_
                          try simp only [Act.put, List.setIfInBounds_toArray, List.set_cons_zero, List.set_cons_succ]
                          refine wpAnyH_take (i := 18) (oi := { dst := some 75, op := Op.fieldAddr 67 (Operand.tmp 74) 0, type := 0, pos := "machine.go:48", after := #[{ on := 17, ground := Ground.data }, { on := 13, ground := Ground.guard }], guard := some (13, true) }) (v := .pointer (some ⟨M, 0, none⟩)) rfl (by kernel_rfl) (by kernel_rfl) (by kernel_rfl) (fun _ _ _ h => h) (Or.inl ⟨by rfl, fun w' h => by go_simp⟩) hH ?_
                          try simp only [Act.put, List.setIfInBounds_toArray, List.set_cons_zero, List.set_cons_succ]
                          refine wpAnyH_take (i := 19) (oi := { dst := some 76, op := Op.fieldAddr 24 (Operand.tmp 75) 2, type := 0, pos := "machine.go:48", after := #[{ on := 18, ground := Ground.data }, { on := 13, ground := Ground.guard }], guard := some (13, true) }) (v := .pointer (some ⟨M, 2, none⟩)) rfl (by kernel_rfl) (by kernel_rfl) (by kernel_rfl) (fun _ _ _ h => h) (Or.inl ⟨by rfl, fun w' h => by go_simp⟩) hH ?_
                          try simp only [Act.put, List.setIfInBounds_toArray, List.set_cons_zero, List.set_cons_succ]
                          refine wpAnyH_take (i := 20) (oi := { dst := some 77, op := Op.load 3 (Operand.tmp 76), type := 3, pos := "machine.go:48", after := #[{ on := 19, ground := Ground.data }, { on := 13, ground := Ground.guard }], guard := some (13, true) }) (v := .int .i64 (l.getD 2 0)) rfl (by kernel_rfl) (by kernel_rfl) (by kernel_rfl) (fun _ _ _ h => h) (Or.inl ⟨by rfl, fun w' h => by have q1 : w'.cell? ⟨M, 2, none⟩ = some (.int .i64 (l.getD 2 0)) := h.m.pol 2 (by decide); go_simp⟩) hH ?_
                          try simp only [Act.put, List.setIfInBounds_toArray, List.set_cons_zero, List.set_cons_succ]
                          refine wpAnyH_take (i := 21) (oi := { dst := some 78, op := Op.binOp BinOp.geq 3 (Operand.tmp 72) (Operand.tmp 77) 3, type := 4, pos := "machine.go:48", after := #[{ on := 15, ground := Ground.data }, { on := 20, ground := Ground.data }, { on := 13, ground := Ground.guard }], guard := some (13, true) }) (v := .bool (decide (l.getD 2 0 ≤ ev.d))) rfl (by kernel_rfl) (by kernel_rfl) (by kernel_rfl) (fun _ _ _ h => h) (Or.inl ⟨by rfl, fun w' h => by go_simp⟩) hH ?_
                          try simp only [Act.put, List.setIfInBounds_toArray, List.set_cons_zero, List.set_cons_succ]
                          refine wpAnyH_take (i := 22) (oi := { dst := some 79, op := Op.pick (Operand.tmp 70) (Operand.tmp 78) (Operand.const (Value.bool false)), type := 4, pos := "machine.go:48", after := #[{ on := 13, ground := Ground.data }, { on := 21, ground := Ground.data }], guard := none }) (v := .bool (decide (l.getD 2 0 ≤ ev.d))) rfl (by kernel_rfl) (by kernel_rfl) (by kernel_rfl) (fun _ _ _ h => h) (Or.inl ⟨by rfl, fun w' h => by go_simp⟩) hH ?_
                          try simp only [Act.put, List.setIfInBounds_toArray, List.set_cons_zero, List.set_cons_succ]
                          refine wpAnyH_done (by kernel_rfl) ?_ _
                          have SZ : Hid _ := hH
                          clear hH hK
                          go_wp2_with fail
                          go_meet
                          case rel => exact ⟨by simp [hp, hsu], SZ⟩
                        · have HSU : Hid (c3.su = true) := hsu
                          refine wp_region_held_drew (S := fun w' => RS B M w.heap.size l s ev (c3, a3) w w') (by kernel_rfl) (S12.out.drew) (fun hH => ?_)
                          refine wpAnyH_take (i := 0) (oi := { dst := some 57, op := Op.move (Operand.tmp 0), type := 68, pos := "machine.go:48", after := #[], guard := none }) (v := mptr M) rfl (by kernel_rfl) (by kernel_rfl) (by kernel_rfl) (fun _ _ _ h => h) (Or.inl ⟨by rfl, fun w' h => by go_simp⟩) hH ?_
                          try simp only [Act.put, List.setIfInBounds_toArray, List.set_cons_zero, List.set_cons_succ]
                          refine wpAnyH_take (i := 1) (oi := { dst := some 58, op := Op.nilCheck (Operand.tmp 57), type := 0, pos := "machine.go:48", after := #[{ on := 0, ground := Ground.data }], guard := none }) (v := .pointer (some ⟨M, 0, none⟩)) rfl (by kernel_rfl) (by kernel_rfl) (by kernel_rfl) (fun _ _ _ h => h) (Or.inl ⟨by rfl, fun w' h => by go_simp⟩) hH ?_
                          try simp only [Act.put, List.setIfInBounds_toArray, List.set_cons_zero, List.set_cons_succ]
                          refine wpAnyH_take (i := 2) (oi := { dst := some 59, op := Op.fieldAddr 67 (Operand.tmp 58) 1, type := 0, pos := "machine.go:48", after := #[{ on := 1, ground := Ground.data }], guard := none }) (v := .pointer (some ⟨M, 18, none⟩)) rfl (by kernel_rfl) (by kernel_rfl) (by kernel_rfl) (fun _ _ _ h => h) (Or.inl ⟨by rfl, fun w' h => by go_simp⟩) hH ?_
                          try simp only [Act.put, List.setIfInBounds_toArray, List.set_cons_zero, List.set_cons_succ]
                          refine wpAnyH_take (i := 3) (oi := { dst := some 60, op := Op.load 27 (Operand.tmp 59), type := 27, pos := "machine.go:48", after := #[{ on := 2, ground := Ground.data }], guard := none }) (v := .agg (csL c3).toArray) rfl (by kernel_rfl) (by kernel_rfl) (by kernel_rfl) (fun _ _ _ h => h) (yieldsIf_load_mid (by rfl) _ _ rfl M 18 rfl (csL c3) _ (fun w' h => h.m.range) hu rfl hi2) hH ?_
                          try simp only [Act.put, List.setIfInBounds_toArray, List.set_cons_zero, List.set_cons_succ]
                          refine wpAnyH_ready (rs := [4]) (by kernel_rfl) (by simp) ?_
                          refine AllReadyH.cons (o := { dst := some 61, op := Op.call { callee := Callee.value (Operand.func 5), args := #[Operand.tmp 60], argTypes := #[27] }, type := 4, pos := "machine.go:48", after := #[{ on := 3, ground := Ground.data }], guard := none }) rfl (fun K hK => ?_) AllReadyH.nil
                          go_simp
                          refine (hH.opn).mono ?_
                          rw [hp]
                          rintro r v1 ⟨rfl, q⟩
                          refine hK.out _ _ (q) (fun hH => ?_)
                          try simp only [Act.put, List.setIfInBounds_toArray, List.set_cons_zero, List.set_cons_succ]
                          refine wpAnyH_take (i := 5) (oi := { dst := some 62, op := Op.move (Operand.tmp 61), type := 4, pos := "machine.go:48", after := #[{ on := 4, ground := Ground.data }, { on := 4, ground := Ground.chain }], guard := none }) (v := .bool true) rfl (by kernel_rfl) (by kernel_rfl) (by kernel_rfl) (fun _ _ _ h => h) (Or.inl ⟨by rfl, fun w' h => by go_simp⟩) hH ?_
                          try simp only [Act.put, List.setIfInBounds_toArray, List.set_cons_zero, List.set_cons_succ]
                          refine wpAnyH_take (i := 6) (oi := { dst := some 63, op := Op.move (Operand.tmp 0), type := 68, pos := "machine.go:48", after := #[{ on := 5, ground := Ground.guard }], guard := some (5, true) }) (v := mptr M) rfl (by kernel_rfl) (by kernel_rfl) (by kernel_rfl) (fun _ _ _ h => h) (Or.inl ⟨by rfl, fun w' h => by go_simp⟩) hH ?_
                          try simp only [Act.put, List.setIfInBounds_toArray, List.set_cons_zero, List.set_cons_succ]
                          refine wpAnyH_take (i := 7) (oi := { dst := some 64, op := Op.nilCheck (Operand.tmp 63), type := 0, pos := "machine.go:48", after := #[{ on := 6, ground := Ground.data }, { on := 5, ground := Ground.guard }], guard := some (5, true) }) (v := .pointer (some ⟨M, 0, none⟩)) rfl (by kernel_rfl) (by kernel_rfl) (by kernel_rfl) (fun _ _ _ h => h) (Or.inl ⟨by rfl, fun w' h => by go_simp⟩) hH ?_
                          try simp only [Act.put, List.setIfInBounds_toArray, List.set_cons_zero, List.set_cons_succ]
                          refine wpAnyH_take (i := 8) (oi := { dst := some 65, op := Op.fieldAddr 67 (Operand.tmp 64) 1, type := 0, pos := "machine.go:48", after := #[{ on := 7, ground := Ground.data }, { on := 5, ground := Ground.guard }], guard := some (5, true) }) (v := .pointer (some ⟨M, 18, none⟩)) rfl (by kernel_rfl) (by kernel_rfl) (by kernel_rfl) (fun _ _ _ h => h) (Or.inl ⟨by rfl, fun w' h => by go_simp⟩) hH ?_
                          try simp only [Act.put, List.setIfInBounds_toArray, List.set_cons_zero, List.set_cons_succ]
                          refine wpAnyH_take (i := 9) (oi := { dst := some 66, op := Op.fieldAddr 27 (Operand.tmp 65) 1, type := 0, pos := "machine.go:48", after := #[{ on := 8, ground := Ground.data }, { on := 5, ground := Ground.guard }], guard := some (5, true) }) (v := .pointer (some ⟨M, 19, none⟩)) rfl (by kernel_rfl) (by kernel_rfl) (by kernel_rfl) (fun _ _ _ h => h) (Or.inl ⟨by rfl, fun w' h => by go_simp⟩) hH ?_
                          try simp only [Act.put, List.setIfInBounds_toArray, List.set_cons_zero, List.set_cons_succ]
                          refine wpAnyH_take (i := 10) (oi := { dst := some 67, op := Op.load 4 (Operand.tmp 66), type := 4, pos := "machine.go:48", after := #[{ on := 9, ground := Ground.data }, { on := 5, ground := Ground.guard }], guard := some (5, true) }) (v := .bool true) rfl (by kernel_rfl) (by kernel_rfl) (by kernel_rfl) (fun _ _ _ h => h) (Or.inl ⟨by rfl, fun w' h => by have q1 : w'.cell? ⟨M, 19, none⟩ = some (.bool c3.su) := h.m.cs 1 (by decide) _ rfl; rw [HSU.out] at q1; go_simp⟩) hH ?_
                          try simp only [Act.put, List.setIfInBounds_toArray, List.set_cons_zero, List.set_cons_succ]
                          refine wpAnyH_take (i := 11) (oi := { dst := some 68, op := Op.unOp UnOp.not 4 (Operand.tmp 67), type := 4, pos := "machine.go:48", after := #[{ on := 10, ground := Ground.data }, { on := 5, ground := Ground.guard }], guard := some (5, true) }) (v := .bool false) rfl (by kernel_rfl) (by kernel_rfl) (by kernel_rfl) (fun _ _ _ h => h) (Or.inl ⟨by rfl, fun w' h => by go_simp⟩) hH ?_
                          try simp only [Act.put, List.setIfInBounds_toArray, List.set_cons_zero, List.set_cons_succ]
                          refine wpAnyH_take (i := 12) (oi := { dst := some 69, op := Op.pick (Operand.tmp 62) (Operand.tmp 68) (Operand.const (Value.bool false)), type := 4, pos := "machine.go:48", after := #[{ on := 5, ground := Ground.data }, { on := 11, ground := Ground.data }], guard := none }) (v := .bool false) rfl (by kernel_rfl) (by kernel_rfl) (by kernel_rfl) (fun _ _ _ h => h) (Or.inl ⟨by rfl, fun w' h => by go_simp⟩) hH ?_
                          try simp only [Act.put, List.setIfInBounds_toArray, List.set_cons_zero, List.set_cons_succ]
                          refine wpAnyH_take (i := 13) (oi := { dst := some 70, op := Op.move (Operand.tmp 69), type := 4, pos := "machine.go:48", after := #[{ on := 12, ground := Ground.data }, { on := 5, ground := Ground.chain }], guard := none }) (v := .bool false) rfl (by kernel_rfl) (by kernel_rfl) (by kernel_rfl) (fun _ _ _ h => h) (Or.inl ⟨by rfl, fun w' h => by go_simp⟩) hH ?_
                          try simp only [Act.put, List.setIfInBounds_toArray, List.set_cons_zero, List.set_cons_succ]
                          refine wpAnyH_take (i := 14) (oi := { dst := some 71, op := Op.fieldAddr 37 (Operand.tmp 3) 2, type := 0, pos := "machine.go:48", after := #[{ on := 13, ground := Ground.guard }], guard := some (13, true) }) (v := undef) rfl (by kernel_rfl) (by kernel_rfl) (by kernel_rfl) (fun _ _ _ h => h) (Or.inr ⟨by rfl, rfl⟩) hH ?_
                          try simp only [Act.put, List.setIfInBounds_toArray, List.set_cons_zero, List.set_cons_succ]
                          refine wpAnyH_take (i := 15) (oi := { dst := some 72, op := Op.load 3 (Operand.tmp 71), type := 3, pos := "machine.go:48", after := #[{ on := 14, ground := Ground.data }, { on := 13, ground := Ground.guard }], guard := some (13, true) }) (v := undef) rfl (by kernel_rfl) (by kernel_rfl) (by kernel_rfl) (fun _ _ _ h => h) (Or.inr ⟨by rfl, rfl⟩) hH ?_
                          try simp only [Act.put, List.setIfInBounds_toArray, List.set_cons_zero, List.set_cons_succ]
                          refine wpAnyH_take (i := 16) (oi := { dst := some 73, op := Op.move (Operand.tmp 0), type := 68, pos := "machine.go:48", after := #[{ on := 13, ground := Ground.guard }], guard := some (13, true) }) (v := undef) rfl (by kernel_rfl) (by kernel_rfl) (by kernel_rfl) (fun _ _ _ h => h) (Or.inr ⟨by rfl, rfl⟩) hH ?_
                          try simp only [Act.put, List.setIfInBounds_toArray, List.set_cons_zero, List.set_cons_succ]
                          refine wpAnyH_take (i := 17) (oi := { dst := some 74, op := Op.nilCheck (Operand.tmp 73), type := 0, pos := "machine.go:48", after := #[{ on := 16, ground := Ground.data }, { on := 13, ground := Ground.guard }], guard := some (13, true) }) (v := undef) rfl (by kernel_rfl) (by kernel_rfl) (by kernel_rfl) (fun _ _ _ h => h) (Or.inr ⟨by rfl, rfl⟩) hH ?_
                          try simp only [Act.put, List.setIfInBounds_toArray, List.set_cons_zero, List.set_cons_succ]
                          refine wpAnyH_take (i := 18) (oi := { dst := some 75, op := Op.fieldAddr 67 (Operand.tmp 74) 0, type := 0, pos := "machine.go:48", after := #[{ on := 17, ground := Ground.data }, { on := 13, ground := Ground.guard }], guard := some (13, true) }) (v := undef) rfl (by kernel_rfl) (by kernel_rfl) (by kernel_rfl) (fun _ _ _ h => h) (Or.inr ⟨by rfl, rfl⟩) hH ?_
                          try simp only [Act.put, List.setIfInBounds_toArray, List.set_cons_zero, List.set_cons_succ]
                          refine wpAnyH_take (i := 19) (oi := { dst := some 76, op := Op.fieldAddr 24 (Operand.tmp 75) 2, type := 0, pos := "machine.go:48", after := #[{ on := 18, ground := Ground.data }, { on := 13, ground := Ground.guard }], guard := some (13, true) }) (v := undef) rfl (by kernel_rfl) (by kernel_rfl) (by kernel_rfl) (fun _ _ _ h => h) (Or.inr ⟨by rfl, rfl⟩) hH ?_
                          try simp only [Act.put, List.setIfInBounds_toArray, List.set_cons_zero, List.set_cons_succ]
                          refine wpAnyH_take (i := 20) (oi := { dst := some 77, op := Op.load 3 (Operand.tmp 76), type := 3, pos := "machine.go:48", after := #[{ on := 19, ground := Ground.data }, { on := 13, ground := Ground.guard }], guard := some (13, true) }) (v := undef) rfl (by kernel_rfl) (by kernel_rfl) (by kernel_rfl) (fun _ _ _ h => h) (Or.inr ⟨by rfl, rfl⟩) hH ?_
                          try simp only [Act.put, List.setIfInBounds_toArray, List.set_cons_zero, List.set_cons_succ]
                          refine wpAnyH_take (i := 21) (oi := { dst := some 78, op := Op.binOp BinOp.geq 3 (Operand.tmp 72) (Operand.tmp 77) 3, type := 4, pos := "machine.go:48", after := #[{ on := 15, ground := Ground.data }, { on := 20, ground := Ground.data }, { on := 13, ground := Ground.guard }], guard := some (13, true) }) (v := undef) rfl (by kernel_rfl) (by kernel_rfl) (by kernel_rfl) (fun _ _ _ h => h) (Or.inr ⟨by rfl, rfl⟩) hH ?_
                          try simp only [Act.put, List.setIfInBounds_toArray, List.set_cons_zero, List.set_cons_succ]
                          refine wpAnyH_take (i := 22) (oi := { dst := some 79, op := Op.pick (Operand.tmp 70) (Operand.tmp 78) (Operand.const (Value.bool false)), type := 4, pos := "machine.go:48", after := #[{ on := 13, ground := Ground.data }, { on := 21, ground := Ground.data }], guard := none }) (v := .bool false) rfl (by kernel_rfl) (by kernel_rfl) (by kernel_rfl) (fun _ _ _ h => h) (Or.inl ⟨by rfl, fun w' h => by go_simp⟩) hH ?_
                          try simp only [Act.put, List.setIfInBounds_toArray, List.set_cons_zero, List.set_cons_succ]
                          refine wpAnyH_done (by kernel_rfl) ?_ _
                          have SZ : Hid _ := hH
                          clear hH hK
                          go_wp2_with fail
                          go_meet
                          case rel => exact ⟨by simp [hp, hsu], SZ⟩
                    case rest =>
                      obtain ⟨rfl, S13⟩ := hcut
                      clear S12
                      go_upto_if 79 with fail
                      go_cut [] from 16 to 100 (fun wx => Hid (RS B M w.heap.size l s ev (age4 (l.getD 2 0) ev (c3, a3)) w wx))
                      case first =>
                        by_cases hA : opn c3 = true ∧ c3.su = false ∧ l.getD 2 0 ≤ ev.d
                        · have HE : Hid (age4 (l.getD 2 0) ev (c3, a3) = (CoM.susp c3, a3 ++ [3])) := if_pos hA
                          rw [decide_eq_true hA]
                          clear hA
                          go_wp2_with fail
                          refine (S13.out.susp (by omega)).mono ?_
                          rintro r w9 ⟨rfl, q⟩
                          have S9 : Hid (RS B M w.heap.size l s ev (CoM.susp c3, a3 ++ [3]) w w9) := q
                          clear q
                          go_wp2_with fail
                          go_meet
                          case rel =>
                            show RS B M w.heap.size l s ev (age4 (l.getD 2 0) ev (c3, a3)) w w9
                            rw [HE.out]; exact S9.out
                        · have HE : Hid (age4 (l.getD 2 0) ev (c3, a3) = (c3, a3)) := if_neg hA
                          rw [decide_eq_false hA]
                          clear hA
                          go_wp2_with fail
                          go_meet
                          case rel =>
                            show RS B M w.heap.size l s ev (age4 (l.getD 2 0) ev (c3, a3)) w wc
                            rw [HE.out]; exact S13.out
                      case rest =>
                        clear S13
                        obtain ⟨c4, a4, hx⟩ : ∃ c4 a4, age4 (l.getD 2 0) ev (c3, a3) = (c4, a4) := ⟨_, _, rfl⟩
                        have al4 : a4.length ≤ 93 := by
                          have e2 : a4 = (age4 (l.getD 2 0) ev (c3, a3)).2 := by rw [hx]
                          rw [e2, age4]; split <;> simp <;> omega
                        have HQ4 : Hid (age5 ev (c4, a4) = r9) := by rw [← hx]; exact HQ3.out
                        have S14 : Hid (RS B M w.heap.size l s ev (c4, a4) w wc) := by rw [← hx]; exact hcut
                        clear HQ3 hx hcut al3
                        go_upto_region 14 with fail
                        go_cut [96] from 16 to 100 (fun v wx => v = .bool (decide (opn c4 = true ∧ c4.dl ≤ ev.t)) ∧ Hid (RS B M w.heap.size l s ev (c4, a4) w wx))
                        case first =>
                          have hu := Tryd.underlying27
                          have hi2 := sizeCsL c4
                          cases hp : opn c4
                          · refine wp_region_held_drew (S := fun w' => RS B M w.heap.size l s ev (c4, a4) w w') (by kernel_rfl) (S14.out.drew) (fun hH => ?_)
                            refine wpAnyH_take (i := 0) (oi := { dst := some 82, op := Op.move (Operand.tmp 0), type := 68, pos := "machine.go:51", after := #[], guard := none }) (v := mptr M) rfl (by kernel_rfl) (by kernel_rfl) (by kernel_rfl) (fun _ _ _ h => h) (Or.inl ⟨by rfl, fun w' h => by go_simp⟩) hH ?_
                            try simp only [Act.put, List.setIfInBounds_toArray, List.set_cons_zero, List.set_cons_succ]
                            refine wpAnyH_take (i := 1) (oi := { dst := some 83, op := Op.nilCheck (Operand.tmp 82), type := 0, pos := "machine.go:51", after := #[{ on := 0, ground := Ground.data }], guard := none }) (v := .pointer (some ⟨M, 0, none⟩)) rfl (by kernel_rfl) (by kernel_rfl) (by kernel_rfl) (fun _ _ _ h => h) (Or.inl ⟨by rfl, fun w' h => by go_simp⟩) hH ?_
                            try simp only [Act.put, List.setIfInBounds_toArray, List.set_cons_zero, List.set_cons_succ]
                            refine wpAnyH_take (i := 2) (oi := { dst := some 84, op := Op.fieldAddr 67 (Operand.tmp 83) 1, type := 0, pos := "machine.go:51", after := #[{ on := 1, ground := Ground.data }], guard := none }) (v := .pointer (some ⟨M, 18, none⟩)) rfl (by kernel_rfl) (by kernel_rfl) (by kernel_rfl) (fun _ _ _ h => h) (Or.inl ⟨by rfl, fun w' h => by go_simp⟩) hH ?_
                            try simp only [Act.put, List.setIfInBounds_toArray, List.set_cons_zero, List.set_cons_succ]
                            refine wpAnyH_take (i := 3) (oi := { dst := some 85, op := Op.load 27 (Operand.tmp 84), type := 27, pos := "machine.go:51", after := #[{ on := 2, ground := Ground.data }], guard := none }) (v := .agg (csL c4).toArray) rfl (by kernel_rfl) (by kernel_rfl) (by kernel_rfl) (fun _ _ _ h => h) (yieldsIf_load_mid (by rfl) _ _ rfl M 18 rfl (csL c4) _ (fun w' h => h.m.range) hu rfl hi2) hH ?_
                            try simp only [Act.put, List.setIfInBounds_toArray, List.set_cons_zero, List.set_cons_succ]
                            refine wpAnyH_ready (rs := [4]) (by kernel_rfl) (by simp) ?_
                            refine AllReadyH.cons (o := { dst := some 86, op := Op.call { callee := Callee.value (Operand.func 5), args := #[Operand.tmp 85], argTypes := #[27] }, type := 4, pos := "machine.go:51", after := #[{ on := 3, ground := Ground.data }], guard := none }) rfl (fun K hK => ?_) AllReadyH.nil
                            go_simp
                            refine (hH.opn).mono ?_
                            rw [hp]
                            rintro r v1 ⟨rfl, q⟩
                            refine hK.out _ _ (q) (fun hH => ?_)
                            try simp only [Act.put, List.setIfInBounds_toArray, List.set_cons_zero, List.set_cons_succ]
                            refine wpAnyH_take (i := 5) (oi := { dst := some 87, op := Op.move (Operand.tmp 86), type := 4, pos := "machine.go:51", after := #[{ on := 4, ground := Ground.data }, { on := 4, ground := Ground.chain }], guard := none }) (v := .bool false) rfl (by kernel_rfl) (by kernel_rfl) (by kernel_rfl) (fun _ _ _ h => h) (Or.inl ⟨by rfl, fun w' h => by go_simp⟩) hH ?_
                            try simp only [Act.put, List.setIfInBounds_toArray, List.set_cons_zero, List.set_cons_succ]
                            refine wpAnyH_take (i := 6) (oi := { dst := some 88, op := Op.fieldAddr 37 (Operand.tmp 3) 1, type := 0, pos := "machine.go:51", after := #[{ on := 5, ground := Ground.guard }], guard := some (5, true) }) (v := undef) rfl (by kernel_rfl) (by kernel_rfl) (by kernel_rfl) (fun _ _ _ h => h) (Or.inr ⟨by rfl, rfl⟩) hH ?_
                            try simp only [Act.put, List.setIfInBounds_toArray, List.set_cons_zero, List.set_cons_succ]
                            refine wpAnyH_take (i := 7) (oi := { dst := some 89, op := Op.load 3 (Operand.tmp 88), type := 3, pos := "machine.go:51", after := #[{ on := 6, ground := Ground.data }, { on := 5, ground := Ground.guard }], guard := some (5, true) }) (v := undef) rfl (by kernel_rfl) (by kernel_rfl) (by kernel_rfl) (fun _ _ _ h => h) (Or.inr ⟨by rfl, rfl⟩) hH ?_
                            try simp only [Act.put, List.setIfInBounds_toArray, List.set_cons_zero, List.set_cons_succ]
                            refine wpAnyH_take (i := 8) (oi := { dst := some 90, op := Op.move (Operand.tmp 0), type := 68, pos := "machine.go:51", after := #[{ on := 5, ground := Ground.guard }], guard := some (5, true) }) (v := undef) rfl (by kernel_rfl) (by kernel_rfl) (by kernel_rfl) (fun _ _ _ h => h) (Or.inr ⟨by rfl, rfl⟩) hH ?_
                            try simp only [Act.put, List.setIfInBounds_toArray, List.set_cons_zero, List.set_cons_succ]
                            refine wpAnyH_take (i := 9) (oi := { dst := some 91, op := Op.nilCheck (Operand.tmp 90), type := 0, pos := "machine.go:51", after := #[{ on := 8, ground := Ground.data }, { on := 5, ground := Ground.guard }], guard := some (5, true) }) (v := undef) rfl (by kernel_rfl) (by kernel_rfl) (by kernel_rfl) (fun _ _ _ h => h) (Or.inr ⟨by rfl, rfl⟩) hH ?_
                            try simp only [Act.put, List.setIfInBounds_toArray, List.set_cons_zero, List.set_cons_succ]
                            refine wpAnyH_take (i := 10) (oi := { dst := some 92, op := Op.fieldAddr 67 (Operand.tmp 91) 1, type := 0, pos := "machine.go:51", after := #[{ on := 9, ground := Ground.data }, { on := 5, ground := Ground.guard }], guard := some (5, true) }) (v := undef) rfl (by kernel_rfl) (by kernel_rfl) (by kernel_rfl) (fun _ _ _ h => h) (Or.inr ⟨by rfl, rfl⟩) hH ?_
                            try simp only [Act.put, List.setIfInBounds_toArray, List.set_cons_zero, List.set_cons_succ]
                            refine wpAnyH_take (i := 11) (oi := { dst := some 93, op := Op.fieldAddr 27 (Operand.tmp 92) 4, type := 0, pos := "machine.go:51", after := #[{ on := 10, ground := Ground.data }, { on := 5, ground := Ground.guard }], guard := some (5, true) }) (v := undef) rfl (by kernel_rfl) (by kernel_rfl) (by kernel_rfl) (fun _ _ _ h => h) (Or.inr ⟨by rfl, rfl⟩) hH ?_
                            try simp only [Act.put, List.setIfInBounds_toArray, List.set_cons_zero, List.set_cons_succ]
                            refine wpAnyH_take (i := 12) (oi := { dst := some 94, op := Op.load 3 (Operand.tmp 93), type := 3, pos := "machine.go:51", after := #[{ on := 11, ground := Ground.data }, { on := 5, ground := Ground.guard }], guard := some (5, true) }) (v := undef) rfl (by kernel_rfl) (by kernel_rfl) (by kernel_rfl) (fun _ _ _ h => h) (Or.inr ⟨by rfl, rfl⟩) hH ?_
                            try simp only [Act.put, List.setIfInBounds_toArray, List.set_cons_zero, List.set_cons_succ]
                            refine wpAnyH_take (i := 13) (oi := { dst := some 95, op := Op.binOp BinOp.geq 3 (Operand.tmp 89) (Operand.tmp 94) 3, type := 4, pos := "machine.go:51", after := #[{ on := 7, ground := Ground.data }, { on := 12, ground := Ground.data }, { on := 5, ground := Ground.guard }], guard := some (5, true) }) (v := undef) rfl (by kernel_rfl) (by kernel_rfl) (by kernel_rfl) (fun _ _ _ h => h) (Or.inr ⟨by rfl, rfl⟩) hH ?_
                            try simp only [Act.put, List.setIfInBounds_toArray, List.set_cons_zero, List.set_cons_succ]
                            refine wpAnyH_take (i := 14) (oi := { dst := some 96, op := Op.pick (Operand.tmp 87) (Operand.tmp 95) (Operand.const (Value.bool false)), type := 4, pos := "machine.go:51", after := #[{ on := 5, ground := Ground.data }, { on := 13, ground := Ground.data }], guard := none }) (v := .bool false) rfl (by kernel_rfl) (by kernel_rfl) (by kernel_rfl) (fun _ _ _ h => h) (Or.inl ⟨by rfl, fun w' h => by go_simp⟩) hH ?_
                            try simp only [Act.put, List.setIfInBounds_toArray, List.set_cons_zero, List.set_cons_succ]
                            refine wpAnyH_done (by kernel_rfl) ?_ _
                            have SZ : Hid _ := hH
                            clear hH hK
                            go_wp2_with fail
                            go_meet
                            case rel => exact ⟨by simp [hp], SZ⟩
                          · refine wp_region_held_drew (S := fun w' => RS B M w.heap.size l s ev (c4, a4) w w') (by kernel_rfl) (S14.out.drew) (fun hH => ?_)
                            refine wpAnyH_take (i := 0) (oi := { dst := some 82, op := Op.move (Operand.tmp 0), type := 68, pos := "machine.go:51", after := #[], guard := none }) (v := mptr M) rfl (by kernel_rfl) (by kernel_rfl) (by kernel_rfl) (fun _ _ _ h => h) (Or.inl ⟨by rfl, fun w' h => by go_simp⟩) hH ?_
                            try simp only [Act.put, List.setIfInBounds_toArray, List.set_cons_zero, List.set_cons_succ]
                            refine wpAnyH_take (i := 1) (oi := { dst := some 83, op := Op.nilCheck (Operand.tmp 82), type := 0, pos := "machine.go:51", after := #[{ on := 0, ground := Ground.data }], guard := none }) (v := .pointer (some ⟨M, 0, none⟩)) rfl (by kernel_rfl) (by kernel_rfl) (by kernel_rfl) (fun _ _ _ h => h) (Or.inl ⟨by rfl, fun w' h => by go_simp⟩) hH ?_
                            try simp only [Act.put, List.setIfInBounds_toArray, List.set_cons_zero, List.set_cons_succ]
                            refine wpAnyH_take (i := 2) (oi := { dst := some 84, op := Op.fieldAddr 67 (Operand.tmp 83) 1, type := 0, pos := "machine.go:51", after := #[{ on := 1, ground := Ground.data }], guard := none }) (v := .pointer (some ⟨M, 18, none⟩)) rfl (by kernel_rfl) (by kernel_rfl) (by kernel_rfl) (fun _ _ _ h => h) (Or.inl ⟨by rfl, fun w' h => by go_simp⟩) hH ?_
                            try simp only [Act.put, List.setIfInBounds_toArray, List.set_cons_zero, List.set_cons_succ]
                            refine wpAnyH_take (i := 3) (oi := { dst := some 85, op := Op.load 27 (Operand.tmp 84), type := 27, pos := "machine.go:51", after := #[{ on := 2, ground := Ground.data }], guard := none }) (v := .agg (csL c4).toArray) rfl (by kernel_rfl) (by kernel_rfl) (by kernel_rfl) (fun _ _ _ h => h) (yieldsIf_load_mid (by rfl) _ _ rfl M 18 rfl (csL c4) _ (fun w' h => h.m.range) hu rfl hi2) hH ?_
                            try simp only [Act.put, List.setIfInBounds_toArray, List.set_cons_zero, List.set_cons_succ]
                            refine wpAnyH_ready (rs := [4]) (by kernel_rfl) (by simp) ?_
                            refine AllReadyH.cons (o := { dst := some 86, op := Op.call { callee := Callee.value (Operand.func 5), args := #[Operand.tmp 85], argTypes := #[27] }, type := 4, pos := "machine.go:51", after := #[{ on := 3, ground := Ground.data }], guard := none }) rfl (fun K hK => ?_) AllReadyH.nil
                            go_simp
                            refine (hH.opn).mono ?_
                            rw [hp]
                            rintro r v1 ⟨rfl, q⟩
                            refine hK.out _ _ (q) (fun hH => ?_)
                            try simp only [Act.put, List.setIfInBounds_toArray, List.set_cons_zero, List.set_cons_succ]
                            refine wpAnyH_take (i := 5) (oi := { dst := some 87, op := Op.move (Operand.tmp 86), type := 4, pos := "machine.go:51", after := #[{ on := 4, ground := Ground.data }, { on := 4, ground := Ground.chain }], guard := none }) (v := .bool true) rfl (by kernel_rfl) (by kernel_rfl) (by kernel_rfl) (fun _ _ _ h => h) (Or.inl ⟨by rfl, fun w' h => by go_simp⟩) hH ?_
                            try simp only [Act.put, List.setIfInBounds_toArray, List.set_cons_zero, List.set_cons_succ]
                            refine wpAnyH_take (i := 6) (oi := { dst := some 88, op := Op.fieldAddr 37 (Operand.tmp 3) 1, type := 0, pos := "machine.go:51", after := #[{ on := 5, ground := Ground.guard }], guard := some (5, true) }) (v := .pointer (some ⟨w.heap.size, 1, none⟩)) rfl (by kernel_rfl) (by kernel_rfl) (by kernel_rfl) (fun _ _ _ h => h) (Or.inl ⟨by rfl, fun w' h => by go_simp⟩) hH ?_
                            try simp only [Act.put, List.setIfInBounds_toArray, List.set_cons_zero, List.set_cons_succ]
                            refine wpAnyH_take (i := 7) (oi := { dst := some 89, op := Op.load 3 (Operand.tmp 88), type := 3, pos := "machine.go:51", after := #[{ on := 6, ground := Ground.data }, { on := 5, ground := Ground.guard }], guard := some (5, true) }) (v := .int .i64 ev.t) rfl (by kernel_rfl) (by kernel_rfl) (by kernel_rfl) (fun _ _ _ h => h) (Or.inl ⟨by rfl, fun w' h => by have q1 := h.et; go_simp⟩) hH ?_
                            try simp only [Act.put, List.setIfInBounds_toArray, List.set_cons_zero, List.set_cons_succ]
                            refine wpAnyH_take (i := 8) (oi := { dst := some 90, op := Op.move (Operand.tmp 0), type := 68, pos := "machine.go:51", after := #[{ on := 5, ground := Ground.guard }], guard := some (5, true) }) (v := mptr M) rfl (by kernel_rfl) (by kernel_rfl) (by kernel_rfl) (fun _ _ _ h => h) (Or.inl ⟨by rfl, fun w' h => by go_simp⟩) hH ?_
                            try simp only [Act.put, List.setIfInBounds_toArray, List.set_cons_zero, List.set_cons_succ]
                            refine wpAnyH_take (i := 9) (oi := { dst := some 91, op := Op.nilCheck (Operand.tmp 90), type := 0, pos := "machine.go:51", after := #[{ on := 8, ground := Ground.data }, { on := 5, ground := Ground.guard }], guard := some (5, true) }) (v := .pointer (some ⟨M, 0, none⟩)) rfl (by kernel_rfl) (by kernel_rfl) (by kernel_rfl) (fun _ _ _ h => h) (Or.inl ⟨by rfl, fun w' h => by go_simp⟩) hH ?_
                            try simp only [Act.put, List.setIfInBounds_toArray, List.set_cons_zero, List.set_cons_succ]
                            refine wpAnyH_take (i := 10) (oi := { dst := some 92, op := Op.fieldAddr 67 (Operand.tmp 91) 1, type := 0, pos := "machine.go:51", after := #[{ on := 9, ground := Ground.data }, { on := 5, ground := Ground.guard }], guard := some (5, true) }) (v := .pointer (some ⟨M, 18, none⟩)) rfl (by kernel_rfl) (by kernel_rfl) (by kernel_rfl) (fun _ _ _ h => h) (Or.inl ⟨by rfl, fun w' h => by go_simp⟩) hH ?_
                            try simp only [Act.put, List.setIfInBounds_toArray, List.set_cons_zero, List.set_cons_succ]
                            refine wpAnyH_take (i := 11) (oi := { dst := some 93, op := Op.fieldAddr 27 (Operand.tmp 92) 4, type := 0, pos := "machine.go:51", after := #[{ on := 10, ground := Ground.data }, { on := 5, ground := Ground.guard }], guard := some (5, true) }) (v := .pointer (some ⟨M, 22, none⟩)) rfl (by kernel_rfl) (by kernel_rfl) (by kernel_rfl) (fun _ _ _ h => h) (Or.inl ⟨by rfl, fun w' h => by go_simp⟩) hH ?_
                            try simp only [Act.put, List.setIfInBounds_toArray, List.set_cons_zero, List.set_cons_succ]
                            refine wpAnyH_take (i := 12) (oi := { dst := some 94, op := Op.load 3 (Operand.tmp 93), type := 3, pos := "machine.go:51", after := #[{ on := 11, ground := Ground.data }, { on := 5, ground := Ground.guard }], guard := some (5, true) }) (v := .int .i64 c4.dl) rfl (by kernel_rfl) (by kernel_rfl) (by kernel_rfl) (fun _ _ _ h => h) (Or.inl ⟨by rfl, fun w' h => by have q1 : w'.cell? ⟨M, 22, none⟩ = some (.int .i64 c4.dl) := h.m.cs 4 (by decide) _ rfl; go_simp⟩) hH ?_
                            try simp only [Act.put, List.setIfInBounds_toArray, List.set_cons_zero, List.set_cons_succ]
                            refine wpAnyH_take (i := 13) (oi := { dst := some 95, op := Op.binOp BinOp.geq 3 (Operand.tmp 89) (Operand.tmp 94) 3, type := 4, pos := "machine.go:51", after := #[{ on := 7, ground := Ground.data }, { on := 12, ground := Ground.data }, { on := 5, ground := Ground.guard }], guard := some (5, true) }) (v := .bool (decide (c4.dl ≤ ev.t))) rfl (by kernel_rfl) (by kernel_rfl) (by kernel_rfl) (fun _ _ _ h => h) (Or.inl ⟨by rfl, fun w' h => by go_simp⟩) hH ?_
                            try simp only [Act.put, List.setIfInBounds_toArray, List.set_cons_zero, List.set_cons_succ]
                            refine wpAnyH_take (i := 14) (oi := { dst := some 96, op := Op.pick (Operand.tmp 87) (Operand.tmp 95) (Operand.const (Value.bool false)), type := 4, pos := "machine.go:51", after := #[{ on := 5, ground := Ground.data }, { on := 13, ground := Ground.data }], guard := none }) (v := .bool (decide (c4.dl ≤ ev.t))) rfl (by kernel_rfl) (by kernel_rfl) (by kernel_rfl) (fun _ _ _ h => h) (Or.inl ⟨by rfl, fun w' h => by go_simp⟩) hH ?_
                            try simp only [Act.put, List.setIfInBounds_toArray, List.set_cons_zero, List.set_cons_succ]
                            refine wpAnyH_done (by kernel_rfl) ?_ _
                            have SZ : Hid _ := hH
                            clear hH hK
                            go_wp2_with fail
                            go_meet
                            case rel => exact ⟨by simp [hp], SZ⟩
                        case rest =>
                          obtain ⟨rfl, S15⟩ := hcut
                          clear S14
                          by_cases hA : opn c4 = true ∧ c4.dl ≤ ev.t
                          · have HE : Hid (((CoM.endC 8 c4, a4 ++ [4]) : Mc) = r9) := by show (_ : Mc) = _; rw [← HQ4.out, age5, if_pos hA]
                            rw [decide_eq_true hA]
                            clear hA HQ4
                            go_wp2_with fail
                            refine (S15.out.endC 8).mono ?_
                            rintro r w16 ⟨rfl, q⟩
                            have S16 : Hid (RS B M w.heap.size l s ev (CoM.endC 8 c4, a4) w w16) := q
                            clear q
                            go_wp2_with fail
                            refine (S16.out.act 4 (by omega)).mono ?_
                            rintro r w17 ⟨rfl, q⟩
                            have S17 : Hid (RS B M w.heap.size l s ev (CoM.endC 8 c4, a4 ++ [4]) w w17) := q
                            clear q
                            go_wp2_with fail
                            go_ret
                            rw [← HE.out]
                            exact Told.yes S17.out
                          · have HE : Hid (((c4, a4) : Mc) = r9) := by show (_ : Mc) = _; rw [← HQ4.out, age5, if_neg hA]
                            rw [decide_eq_false hA]
                            clear hA HQ4
                            go_wp2_with fail
                            go_ret
                            rw [← HE.out]
                            exact Told.yes S15.out
      · rw [if_pos rfl]
        go_enter Tryd.func31, Tryd.ntmps31
        go_upto_region 1 with fail
        generalize w.alloc (.cells (evL ev).toArray 37) = w1 at *
        have et := S1.out.et
        go_wp2_with fail
        refine S1.out.isD.mono ?_
        rw [hi]
        rintro r w2 ⟨rfl, q⟩
        have S2 : Hid (RS B M w.heap.size l s ev (c, ac) w w2) := q
        clear q
        have ed := S2.out.ed
        go_wp2_with fail
        refine S2.out.over.mono ?_
        rw [ho]
        rintro r w3 ⟨rfl, q⟩
        have S3 : Hid (RS B M w.heap.size l s ev (c, ac) w w3) := q
        clear q
        go_wp2_with fail
        go_ret
        exact Told.no (by decide) S3.out
end
end Go.Proofs.YtmbbigkpeefjjabDoor
