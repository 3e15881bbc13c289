/-
  Ours: the reference's paid, age (gen_corf.py).
-/
import Derived.Test.YtmbbigkpeefjjabDoorCoRf2
namespace Go.Proofs.YtmbbigkpeefjjabDoor
open Go.RowKit LedM PolM CoM

theorem KR.past {w w1 w2 : World} {bs : List (Nat × TypeId × List Value)} {v : Value} {a : List Int} {cs : List Value} (h : KR w bs v a w1) {o : Obj} (hb : Blk w1.heap.size 27 cs (w1.alloc o)) (g : (w1.alloc o).grownBy w2 (some w1.heap.size)) : KR w bs v a w2 := by
  have h1 := h.call (below_alloc w1 o)
  refine ⟨⟨h1.kd.bb.grown g h1.kd.bb.size (fun x e => by injection e with e; have := h.kd.bb.size; omega), fun k q hq => ⟨(h1.kd.bk k q hq).1, (h1.kd.bk k q hq).2.grown g (fun e => by injection e with e; have := (h.kd.bk k q hq).2.lt; omega)⟩, h.kd.nd⟩, rowV_blk h1.r hb g int_ne_case⟩
namespace CoM
theorem lok_app (gr co : Int) (e : Ev) (c : Cs) (a : List Int) : lok gr co e (c, a) = ((lok gr co e (c, [])).1, a ++ (lok gr co e (c, [])).2) := by
  unfold lok
  split
  · simp
  · split
    · simp
    · split <;> simp
theorem lok_len (gr co : Int) (e : Ev) (c : Cs) : (lok gr co e (c, [])).2.length ≤ 1 := by
  unfold lok
  split
  · simp
  · split
    · simp
    · split <;> simp
end CoM

set_option maxRecDepth 20000 in
set_option maxHeartbeats 4000000 in
theorem rpaid_at (c : Cs) (ev : Ev) (w : World) : Calls Tryd.prog 41 #[csV c, evV ev] w (RunAns (paidM ev (c, [])) w) := by
  show Calls _ _ #[.agg (csL c).toArray, .agg (evL ev).toArray] _ _
  obtain ⟨i0, hi0, hz0, hz1, hz2⟩ := info_partsC infoInt
  have BK : Hid (∀ c w', Calls Tryd.prog 77 #[csV c] w' fun e w'' => e = .returned (csV (endP c)) ∧ Below w'.heap.size w' w'') := rback_at
  have CU : Hid (∀ c w', Calls Tryd.prog 44 #[csV c] w' fun e w'' => e = .returned (csV (curd c)) ∧ Below w'.heap.size w' w'') := rcure_at
  have OP : Hid (∀ c w', Calls Tryd.prog 6 #[csV c] w' fun e w'' => e = .returned (.bool (opn c)) ∧ Below w'.heap.size w' w'') := ropen_at
  have S1 : Hid (KD w [(w.heap.size, 27, csL c), (w.heap.size + 1, 37, evL ev), (w.heap.size + 1 + 1, 27, csL ⟨0, false, 0, 0, 0, 0, 0, 0, 0, 0, 0, 0, 0, 0, 0⟩)] (((w.alloc (.cells (csL c).toArray 27)).alloc (.cells (evL ev).toArray 37)).alloc (.cells #[.int .i64 0, .bool false, .int .i64 0, .int .i64 0, .int .i64 0, .int .i64 0, .int .i64 0, .int .i64 0, .int .i64 0, .int .i64 0, .int .i64 0, .int .i64 0, .int .i64 0, .int .i64 0, .int .i64 0] 27))) := KD.three w _ _ _ _ _ _
  go_enter Tryd.func41, Tryd.ntmps41
  go_upto_region 1 with fail
  generalize (((w.alloc (.cells (csL c).toArray 27)).alloc (.cells (evL ev).toArray 37)).alloc (.cells #[.int .i64 0, .bool false, .int .i64 0, .int .i64 0, .int .i64 0, .int .i64 0, .int .i64 0, .int .i64 0, .int .i64 0, .int .i64 0, .int .i64 0, .int .i64 0, .int .i64 0, .int .i64 0, .int .i64 0] 27)) = w1 at *
  have S2 : Hid (KR w [(w.heap.size, 27, csL c), (w.heap.size + 1, 37, evL ev), (w.heap.size + 1 + 1, 27, csL ⟨0, false, 0, 0, 0, 0, 0, 0, 0, 0, 0, 0, 0, 0, 0⟩)] (.slice none 0 0) [] w1) := ⟨S1.out, RowV.nil _ _ _⟩
  clear S1
  have c0 : w1.cell? ⟨w.heap.size, 0, none⟩ = some (.int .i64 c.st) := S2.out.kd.cell 0 0 rfl _ rfl
  have c7 : w1.cell? ⟨w.heap.size, 7, none⟩ = some (.int .i64 c.pa) := S2.out.kd.cell 0 7 rfl _ rfl
  have c8 : w1.cell? ⟨w.heap.size, 8, none⟩ = some (.int .i64 c.pg) := S2.out.kd.cell 0 8 rfl _ rfl
  have c9 : w1.cell? ⟨w.heap.size, 9, none⟩ = some (.int .i64 c.ke) := S2.out.kd.cell 0 9 rfl _ rfl
  have e3 : w1.cell? ⟨w.heap.size + 1, 3, none⟩ = some (.int .i64 ev.a) := S2.out.kd.cell 1 3 rfl _ rfl
  have f8 := S2.out.kd.fz 0 8 rfl
  have f9 := S2.out.kd.fz 0 9 rfl
  have lt := S2.out.kd.lt 0 rfl
  go_upto_if 9 with fail
  go_cut [6] from 7 to 56 (fun v  wx => ∃ va vn vc, v = .slice va vn vc ∧ Hid (KR w [(w.heap.size, 27, csL (pay1 ev.a (c, [])).1), (w.heap.size + 1, 37, evL ev), (w.heap.size + 1 + 1, 27, csL ⟨0, false, 0, 0, 0, 0, 0, 0, 0, 0, 0, 0, 0, 0, 0⟩)] (v) (pay1 ev.a (c, [])).2 wx))
  case first =>
    by_cases h4 : c.st = 4
    · by_cases hq : ev.a < wrap64 (c.pa - c.pg)
      · have HE : Hid (pay1 ev.a (c, []) = ({ c with pg := wrap64 (c.pg + ev.a) }, [])) := by show _ = _; unfold pay1; rw [if_pos h4, if_pos hq]
        have d4 : (c.st == 4) = true := by simpa using h4
        have dq : decide (wrap64 (c.pa - c.pg) ≤ ev.a) = false := decide_eq_false (by omega)
        clear h4 hq
        have q1 : KR w [(w.heap.size, 27, csL { c with pg := wrap64 (c.pg + ev.a) }), (w.heap.size + 1, 37, evL ev), (w.heap.size + 1 + 1, 27, csL ⟨0, false, 0, 0, 0, 0, 0, 0, 0, 0, 0, 0, 0, 0, 0⟩)] (.slice none 0 0) [] (w1.setCell ⟨w.heap.size, 8, none⟩ (.int .i64 (wrap64 (c.pg + ev.a)))) := S2.out.set 0 8 rfl int_ne_case (.int .i64 (wrap64 (c.pg + ev.a)))
        have S3 : Hid (KR w [(w.heap.size, 27, csL { c with pg := wrap64 (c.pg + ev.a) }), (w.heap.size + 1, 37, evL ev), (w.heap.size + 1 + 1, 27, csL ⟨0, false, 0, 0, 0, 0, 0, 0, 0, 0, 0, 0, 0, 0, 0⟩)] (.slice none 0 0) [] (w1.setCell ⟨w.heap.size, 8, none⟩ (.int .i64 (wrap64 (c.pg + ev.a))))) := q1
        clear q1
        go_wp2_with fail
        generalize (w1.setCell ⟨w.heap.size, 8, none⟩ (.int .i64 (wrap64 (c.pg + ev.a)))) = w3 at *
        go_meet
        case rel =>
          refine ⟨_, _, _, rfl, ?_⟩
          show KR w [(w.heap.size, 27, csL (pay1 ev.a (c, [])).1), (w.heap.size + 1, 37, evL ev), (w.heap.size + 1 + 1, 27, csL ⟨0, false, 0, 0, 0, 0, 0, 0, 0, 0, 0, 0, 0, 0, 0⟩)] (.slice none 0 0) (pay1 ev.a (c, [])).2 w3
          rw [HE.out]; exact S3.out
      · have HE : Hid (pay1 ev.a (c, []) = (kept c, [] ++ [5])) := by show _ = _; unfold pay1; rw [if_pos h4, if_neg hq]
        have d4 : (c.st == 4) = true := by simpa using h4
        have dq : decide (wrap64 (c.pa - c.pg) ≤ ev.a) = true := decide_eq_true (by omega)
        clear h4 hq
        have q1 : KR w [(w.heap.size, 27, csL { c with ke := wrap64 (c.ke + 1) }), (w.heap.size + 1, 37, evL ev), (w.heap.size + 1 + 1, 27, csL ⟨0, false, 0, 0, 0, 0, 0, 0, 0, 0, 0, 0, 0, 0, 0⟩)] (.slice none 0 0) [] (w1.setCell ⟨w.heap.size, 9, none⟩ (.int .i64 (wrap64 (c.ke + 1)))) := S2.out.set 0 9 rfl int_ne_case (.int .i64 (wrap64 (c.ke + 1)))
        have S3 : Hid (KR w [(w.heap.size, 27, csL { c with ke := wrap64 (c.ke + 1) }), (w.heap.size + 1, 37, evL ev), (w.heap.size + 1 + 1, 27, csL ⟨0, false, 0, 0, 0, 0, 0, 0, 0, 0, 0, 0, 0, 0, 0⟩)] (.slice none 0 0) [] (w1.setCell ⟨w.heap.size, 9, none⟩ (.int .i64 (wrap64 (c.ke + 1))))) := q1
        clear q1
        clear S2
        go_upto_region 5 with fail
        generalize (w1.setCell ⟨w.heap.size, 9, none⟩ (.int .i64 (wrap64 (c.ke + 1)))) = w3 at *
        clear c0 c7 c8 c9 e3 f8 f9 lt
        go_wp2_with ((with_reducible refine at_loadT 27 ?_); refine step_load rfl 27 _ rfl (w.heap.size) 0 rfl (csL { c with ke := wrap64 (c.ke + 1) }) _ (Blk.all (S3.out.kd.at 0 rfl)) Tryd.underlying27 rfl (sizeCsL _) ?_)
        refine (BK.out _ _).mono ?_
        rintro e w4 ⟨rfl, bX⟩
        have S4 : Hid (KR w [(w.heap.size, 27, csL { c with ke := wrap64 (c.ke + 1) }), (w.heap.size + 1, 37, evL ev), (w.heap.size + 1 + 1, 27, csL ⟨0, false, 0, 0, 0, 0, 0, 0, 0, 0, 0, 0, 0, 0, 0⟩)] (.slice none 0 0) [] w4) := S3.out.call bX
        clear bX S3
        go_upto_region 6 with ((with_reducible refine at_store ?_); refine step_store rfl 27 _ _ rfl (w.heap.size) 0 27 (csL { c with ke := wrap64 (c.ke + 1) }) (csL (kept c)) rfl rfl (S4.out.kd.at 0 rfl) (Nat.le_refl 15) (sizeCsL _) (csL_one _) ?_; intro w5 n3 g3)
        have S5 : Hid (KR w [(w.heap.size, 27, csL (kept c)), (w.heap.size + 1, 37, evL ev), (w.heap.size + 1 + 1, 27, csL ⟨0, false, 0, 0, 0, 0, 0, 0, 0, 0, 0, 0, 0, 0, 0⟩)] (.slice none 0 0) [] w5) := S4.out.store 0 rfl int_ne_case n3 g3
        clear n3 g3 S4
        go_wp2_with (at_builtin; refine wpList_pushS rfl (.tmp 24) (.tmp 25) 22 rfl 3 i0 (.int .i64 0) 8 Tryd.underlying22 hi0 hz0 hz1 hz2 rfl w.heap.size _ (bkL []) _ rfl rfl S5.out.r S5.out.kd.bb.size rfl (len1C (by simp)) (len2C (by simp)) ?_; intro ka kn kc wk rk gk)
        have S6 : Hid (KR w [(w.heap.size, 27, csL (kept c)), (w.heap.size + 1, 37, evL ev), (w.heap.size + 1 + 1, 27, csL ⟨0, false, 0, 0, 0, 0, 0, 0, 0, 0, 0, 0, 0, 0, 0⟩)] (.slice ka kn kc) ([] ++ [5]) wk) := S5.out.row (fun k q hq => by rcases k with _ | k; (· cases hq; first | exact int_ne_case | exact int_ne_ev | exact int_ne_pol); rcases k with _ | k; (· cases hq; first | exact int_ne_case | exact int_ne_ev | exact int_ne_pol); rcases k with _ | k; (· cases hq; first | exact int_ne_case | exact int_ne_ev | exact int_ne_pol); cases hq) gk (by rw [bkL_app]; exact rk)
        clear rk gk S5
        go_meet
        case rel =>
          refine ⟨_, _, _, rfl, ?_⟩
          show KR w [(w.heap.size, 27, csL (pay1 ev.a (c, [])).1), (w.heap.size + 1, 37, evL ev), (w.heap.size + 1 + 1, 27, csL ⟨0, false, 0, 0, 0, 0, 0, 0, 0, 0, 0, 0, 0, 0, 0⟩)] (.slice ka kn kc) (pay1 ev.a (c, [])).2 wk
          rw [HE.out]; exact S6.out
    · have HE : Hid (pay1 ev.a (c, []) = (c, [])) := by show _ = _; unfold pay1; rw [if_neg h4]
      have d4 : (c.st == 4) = false := by simpa using h4
      clear h4
      go_wp2_with fail
      go_meet
      case rel =>
        refine ⟨_, _, _, rfl, ?_⟩
        show KR w [(w.heap.size, 27, csL (pay1 ev.a (c, [])).1), (w.heap.size + 1, 37, evL ev), (w.heap.size + 1 + 1, 27, csL ⟨0, false, 0, 0, 0, 0, 0, 0, 0, 0, 0, 0, 0, 0, 0⟩)] (.slice none 0 0) (pay1 ev.a (c, [])).2 w1
        rw [HE.out]; exact S2.out
  case rest =>
    obtain ⟨va, vn, vc, rfl, S3⟩ := hcut
    clear S2 c0 c7 c8 c9 e3 f8 f9 lt
    obtain ⟨c1, a1, hx⟩ : ∃ c1 a1, pay1 ev.a (c, []) = (c1, a1) := ⟨_, _, rfl⟩
    have al : a1.length ≤ 1 := by
      have e2 : a1 = (pay1 ev.a (c, [])).2 := by rw [hx]
      rw [e2]; unfold pay1; split
      · split <;> simp
      · simp
    have HR : Hid (paidM ev (c, []) = if opn c1 = true ∧ ev.d = 0 then ((curd c1, a1 ++ [6]) : Mc) else if c1.st = 2 ∧ ev.d = 0 then ({ c1 with st := 1 }, a1) else (c1, a1)) := by show _ = _; unfold paidM; rw [hx]
    have S4 : Hid (KR w [(w.heap.size, 27, csL c1), (w.heap.size + 1, 37, evL ev), (w.heap.size + 1 + 1, 27, csL ⟨0, false, 0, 0, 0, 0, 0, 0, 0, 0, 0, 0, 0, 0, 0⟩)] (.slice va vn vc) a1 wc) := by have x := S3.out; rw [hx] at x; exact x
    clear S3 hx
    go_upto_region 8 with fail
    go_cut [39] from 7 to 56 (fun v wx => v = .bool (decide (opn c1 = true ∧ ev.d = 0)) ∧ Hid (KR w [(w.heap.size, 27, csL c1), (w.heap.size + 1, 37, evL ev), (w.heap.size + 1 + 1, 27, csL ⟨0, false, 0, 0, 0, 0, 0, 0, 0, 0, 0, 0, 0, 0, 0⟩)] (.slice va vn vc) a1 wx))
    case first =>
      go_wp2_with ((with_reducible refine at_loadT 27 ?_); refine step_load rfl 27 _ rfl (w.heap.size) 0 rfl (csL c1) _ (Blk.all (S4.out.kd.at 0 rfl)) Tryd.underlying27 rfl (sizeCsL _) ?_)
      refine (OP.out c1 _).mono ?_
      cases hp : opn c1
      · rintro e w6 ⟨rfl, bX⟩
        have S6 : Hid (KR w [(w.heap.size, 27, csL c1), (w.heap.size + 1, 37, evL ev), (w.heap.size + 1 + 1, 27, csL ⟨0, false, 0, 0, 0, 0, 0, 0, 0, 0, 0, 0, 0, 0, 0⟩)] (.slice va vn vc) a1 w6) := S4.out.call bX
        clear bX
        go_wp2_with fail
        go_meet
        case rel => exact ⟨by simp [hp], S6⟩
      · rintro e w6 ⟨rfl, bX⟩
        have S6 : Hid (KR w [(w.heap.size, 27, csL c1), (w.heap.size + 1, 37, evL ev), (w.heap.size + 1 + 1, 27, csL ⟨0, false, 0, 0, 0, 0, 0, 0, 0, 0, 0, 0, 0, 0, 0⟩)] (.slice va vn vc) a1 w6) := S4.out.call bX
        clear bX
        have e2 : w6.cell? ⟨w.heap.size + 1, 2, none⟩ = some (.int .i64 ev.d) := S6.out.kd.cell 1 2 rfl _ rfl
        go_wp2_with fail
        go_meet
        case rel => exact ⟨by first | (simp [hp]; done) | (simp [hp]; rfl), S6⟩
    case rest =>
      obtain ⟨rfl, S6⟩ := hcut
      clear S4
      by_cases hC : opn c1 = true ∧ ev.d = 0
      · have HE : Hid (paidM ev (c, []) = (curd c1, a1 ++ [6])) := by show _ = _; rw [HR.out, if_pos hC]
        rw [decide_eq_true hC]
        clear hC HR
        go_upto_region 10 with (at_builtin; refine wpList_pushS rfl (.tmp 40) (.tmp 41) 22 rfl 3 i0 (.int .i64 0) 8 Tryd.underlying22 hi0 hz0 hz1 hz2 rfl w.heap.size _ (bkL a1) _ rfl rfl S6.out.r S6.out.kd.bb.size rfl (len1C (by omega)) (len2C (by omega)) ?_; intro ka kn kc wk rk gk)
        have S7 : Hid (KR w [(w.heap.size, 27, csL c1), (w.heap.size + 1, 37, evL ev), (w.heap.size + 1 + 1, 27, csL ⟨0, false, 0, 0, 0, 0, 0, 0, 0, 0, 0, 0, 0, 0, 0⟩)] (.slice ka kn kc) (a1 ++ [6]) wk) := S6.out.row (fun k q hq => by rcases k with _ | k; (· cases hq; first | exact int_ne_case | exact int_ne_ev | exact int_ne_pol); rcases k with _ | k; (· cases hq; first | exact int_ne_case | exact int_ne_ev | exact int_ne_pol); rcases k with _ | k; (· cases hq; first | exact int_ne_case | exact int_ne_ev | exact int_ne_pol); cases hq) gk (by rw [bkL_app]; exact rk)
        clear rk gk S6
        go_wp2_with ((with_reducible refine at_loadT 27 ?_); refine step_load rfl 27 _ rfl (w.heap.size) 0 rfl (csL c1) _ (Blk.all (S7.out.kd.at 0 rfl)) Tryd.underlying27 rfl (sizeCsL _) ?_)
        refine (CU.out _ _).mono ?_
        rintro e w8 ⟨rfl, bX⟩
        have S8 : Hid (KR w [(w.heap.size, 27, csL c1), (w.heap.size + 1, 37, evL ev), (w.heap.size + 1 + 1, 27, csL ⟨0, false, 0, 0, 0, 0, 0, 0, 0, 0, 0, 0, 0, 0, 0⟩)] (.slice ka kn kc) (a1 ++ [6]) w8) := S7.out.call bX
        clear bX S7
        go_wp2_with ((with_reducible refine at_store ?_); refine step_store rfl 27 _ _ rfl (w.heap.size + 1 + 1) 0 27 (csL ⟨0, false, 0, 0, 0, 0, 0, 0, 0, 0, 0, 0, 0, 0, 0⟩) (csL (curd c1)) rfl rfl (S8.out.kd.at 2 rfl) (Nat.le_refl 15) (sizeCsL _) (csL_one _) ?_; intro wz nz gz)
        refine ret_blk_tmp rfl rfl (w.heap.size + 1 + 1) 27 (csL (curd c1)) _ rfl nz Tryd.underlying27 rfl (sizeCsL _) ?_
        rw [HE.out]
        exact ⟨_, _, _, rfl, (rowV_blk S8.out.r (S8.out.kd.at 2 rfl) gz int_ne_case), (S8.out.kd.store 2 rfl nz gz).bb⟩
      · by_cases h2 : c1.st = 2
        · by_cases h0 : ev.d = 0
          · have HE : Hid (paidM ev (c, []) = ({ c1 with st := 1 }, a1)) := by show _ = _; rw [HR.out, if_neg hC, if_pos ⟨h2, h0⟩]
            have d2 : (c1.st == 2) = true := by simpa using h2
            have d0 : (ev.d == 0) = true := by simpa using h0
            rw [decide_eq_false hC]
            clear hC HR h2 h0
            have c0 : wc.cell? ⟨w.heap.size, 0, none⟩ = some (.int .i64 c1.st) := S6.out.kd.cell 0 0 rfl _ rfl
            have e2 : wc.cell? ⟨w.heap.size + 1, 2, none⟩ = some (.int .i64 ev.d) := S6.out.kd.cell 1 2 rfl _ rfl
            have f0 := S6.out.kd.fz 0 0 rfl
            have lt := S6.out.kd.lt 0 rfl
            have q1 : KR w [(w.heap.size, 27, csL { c1 with st := 1 }), (w.heap.size + 1, 37, evL ev), (w.heap.size + 1 + 1, 27, csL ⟨0, false, 0, 0, 0, 0, 0, 0, 0, 0, 0, 0, 0, 0, 0⟩)] (.slice va vn vc) a1 (wc.setCell ⟨w.heap.size, 0, none⟩ (.int .i64 1)) := S6.out.set 0 0 rfl int_ne_case (.int .i64 1)
            have S7 : Hid (KR w [(w.heap.size, 27, csL { c1 with st := 1 }), (w.heap.size + 1, 37, evL ev), (w.heap.size + 1 + 1, 27, csL ⟨0, false, 0, 0, 0, 0, 0, 0, 0, 0, 0, 0, 0, 0, 0⟩)] (.slice va vn vc) a1 (wc.setCell ⟨w.heap.size, 0, none⟩ (.int .i64 1))) := q1
            clear q1
            clear S6
            go_upto_region 13 with fail
            generalize (wc.setCell ⟨w.heap.size, 0, none⟩ (.int .i64 1)) = w7 at *
            clear c0 e2 f0 lt
            go_wp2_with (first
            | ((with_reducible refine at_loadT 27 ?_); refine step_load rfl 27 _ rfl (w.heap.size) 0 rfl (csL ({ c1 with st := 1 })) _ (Blk.all (S7.out.kd.at 0 rfl)) Tryd.underlying27 rfl (sizeCsL _) ?_)
            | ((with_reducible refine at_store ?_); refine step_store rfl 27 _ _ rfl (w.heap.size + 1 + 1) 0 27 (csL ⟨0, false, 0, 0, 0, 0, 0, 0, 0, 0, 0, 0, 0, 0, 0⟩) (csL ({ c1 with st := 1 })) rfl rfl (S7.out.kd.at 2 rfl) (Nat.le_refl 15) (sizeCsL _) (csL_one _) ?_; intro wz nz gz))
            refine ret_blk_tmp rfl rfl (w.heap.size + 1 + 1) 27 (csL ({ c1 with st := 1 })) _ rfl nz Tryd.underlying27 rfl (sizeCsL _) ?_
            rw [HE.out]
            exact ⟨_, _, _, rfl, (rowV_blk S7.out.r (S7.out.kd.at 2 rfl) gz int_ne_case), (S7.out.kd.store 2 rfl nz gz).bb⟩
          · have HE : Hid (paidM ev (c, []) = (c1, a1)) := by show _ = _; rw [HR.out, if_neg hC, if_neg (fun h => h0 h.2)]
            have d2 : (c1.st == 2) = true := by simpa using h2
            have d0 : (ev.d == 0) = false := by simpa using h0
            rw [decide_eq_false hC]
            clear hC HR h2 h0
            have c0 : wc.cell? ⟨w.heap.size, 0, none⟩ = some (.int .i64 c1.st) := S6.out.kd.cell 0 0 rfl _ rfl
            have e2 : wc.cell? ⟨w.heap.size + 1, 2, none⟩ = some (.int .i64 ev.d) := S6.out.kd.cell 1 2 rfl _ rfl
            go_upto_region 13 with fail
            clear c0 e2
            go_wp2_with (first
            | ((with_reducible refine at_loadT 27 ?_); refine step_load rfl 27 _ rfl (w.heap.size) 0 rfl (csL c1) _ (Blk.all (S6.out.kd.at 0 rfl)) Tryd.underlying27 rfl (sizeCsL _) ?_)
            | ((with_reducible refine at_store ?_); refine step_store rfl 27 _ _ rfl (w.heap.size + 1 + 1) 0 27 (csL ⟨0, false, 0, 0, 0, 0, 0, 0, 0, 0, 0, 0, 0, 0, 0⟩) (csL c1) rfl rfl (S6.out.kd.at 2 rfl) (Nat.le_refl 15) (sizeCsL _) (csL_one _) ?_; intro wz nz gz))
            refine ret_blk_tmp rfl rfl (w.heap.size + 1 + 1) 27 (csL c1) _ rfl nz Tryd.underlying27 rfl (sizeCsL _) ?_
            rw [HE.out]
            exact ⟨_, _, _, rfl, (rowV_blk S6.out.r (S6.out.kd.at 2 rfl) gz int_ne_case), (S6.out.kd.store 2 rfl nz gz).bb⟩
        · have HE : Hid (paidM ev (c, []) = (c1, a1)) := by show _ = _; rw [HR.out, if_neg hC, if_neg (fun h => h2 h.1)]
          have d2 : (c1.st == 2) = false := by simpa using h2
          rw [decide_eq_false hC]
          clear hC HR h2
          have c0 : wc.cell? ⟨w.heap.size, 0, none⟩ = some (.int .i64 c1.st) := S6.out.kd.cell 0 0 rfl _ rfl
          have e2 : wc.cell? ⟨w.heap.size + 1, 2, none⟩ = some (.int .i64 ev.d) := S6.out.kd.cell 1 2 rfl _ rfl
          go_upto_region 13 with fail
          clear c0 e2
          go_wp2_with (first
          | ((with_reducible refine at_loadT 27 ?_); refine step_load rfl 27 _ rfl (w.heap.size) 0 rfl (csL c1) _ (Blk.all (S6.out.kd.at 0 rfl)) Tryd.underlying27 rfl (sizeCsL _) ?_)
          | ((with_reducible refine at_store ?_); refine step_store rfl 27 _ _ rfl (w.heap.size + 1 + 1) 0 27 (csL ⟨0, false, 0, 0, 0, 0, 0, 0, 0, 0, 0, 0, 0, 0, 0⟩) (csL c1) rfl rfl (S6.out.kd.at 2 rfl) (Nat.le_refl 15) (sizeCsL _) (csL_one _) ?_; intro wz nz gz))
          refine ret_blk_tmp rfl rfl (w.heap.size + 1 + 1) 27 (csL c1) _ rfl nz Tryd.underlying27 rfl (sizeCsL _) ?_
          rw [HE.out]
          exact ⟨_, _, _, rfl, (rowV_blk S6.out.r (S6.out.kd.at 2 rfl) gz int_ne_case), (S6.out.kd.store 2 rfl nz gz).bb⟩

set_option maxRecDepth 20000 in
set_option maxHeartbeats 8000000 in
theorem rage_at (l : List Int) (s : Value) (c : Cs) (ev : Ev) (hl : l.length = 17) (hd : 0 ≤ ev.d) (hgr : 0 ≤ l.getD 1 0) (w : World) : Calls Tryd.prog 40 #[PV l s, csV c, evV ev] w (RunAns (ageM l ev (c, [])) w) := by
  show Calls _ _ #[.agg (polL l s).toArray, .agg (csL c).toArray, .agg (evL ev).toArray] _ _
  obtain ⟨i0, hi0, hz0, hz1, hz2⟩ := info_partsC infoInt
  have BK : Hid (∀ c w', Calls Tryd.prog 77 #[csV c] w' fun e w'' => e = .returned (csV (endP c)) ∧ Below w'.heap.size w' w'') := rback_at
  have CU : Hid (∀ c w', Calls Tryd.prog 44 #[csV c] w' fun e w'' => e = .returned (csV (curd c)) ∧ Below w'.heap.size w' w'') := rcure_at
  have OP : Hid (∀ c w', Calls Tryd.prog 6 #[csV c] w' fun e w'' => e = .returned (.bool (opn c)) ∧ Below w'.heap.size w' w'') := ropen_at
  have ED : Hid (∀ st c w', Calls Tryd.prog 43 #[csV c, .int .i64 st] w' fun e w'' => e = .returned (csV (endC st c)) ∧ Below w'.heap.size w' w'') := rend_at
  have SZ : Hid ((Tryd.prog.info? 24).map (·.size) = some (polL l s).length) := by show _ = _; rw [polL_len hl]; exact sizeP
  have QU : Hid (∀ c w', Calls Tryd.prog 78 #[PV l s, csV c, evV ev] w' (RunAns (lok (l.getD 1 0) (l.getD 3 0) ev (c, [])) w')) := fun c w' => rquiet_at l s c ev hl hd hgr w'
  clear hd hgr
  have HR0 : Hid (ageM l ev (c, []) = if opn (age1 ev (c, [])).1 = true ∧ ev.d = 0 then ((curd (age1 ev (c, [])).1, (age1 ev (c, [])).2 ++ [6]) : Mc) else age5 ev (age4 (l.getD 2 0) ev (age3 (l.getD 1 0) (l.getD 3 0) ev (age1 ev (c, []))))) := rfl
  generalize ageM l ev (c, []) = r9 at *
  have P1 : Hid ((polL l s)[1]? = some (.int .i64 (l.getD 1 0))) := polL_at hl 1 (by decide)
  have P2 : Hid ((polL l s)[2]? = some (.int .i64 (l.getD 2 0))) := polL_at hl 2 (by decide)
  have P3 : Hid ((polL l s)[3]? = some (.int .i64 (l.getD 3 0))) := polL_at hl 3 (by decide)
  clear hl
  generalize l.getD 1 0 = GR at *
  generalize l.getD 2 0 = NA at *
  generalize l.getD 3 0 = CO at *
  have HR : Hid ((if opn (age1 ev (c, [])).1 = true ∧ ev.d = 0 then ((curd (age1 ev (c, [])).1, (age1 ev (c, [])).2 ++ [6]) : Mc) else age5 ev (age4 NA ev (age3 GR CO ev (age1 ev (c, []))))) = r9) := HR0.out.symm
  clear HR0
  have S1 : Hid (KD w [(w.heap.size, 24, polL l s), (w.heap.size + 1, 27, csL c), (w.heap.size + 1 + 1, 37, evL ev), (w.heap.size + 1 + 1 + 1, 27, csL ⟨0, false, 0, 0, 0, 0, 0, 0, 0, 0, 0, 0, 0, 0, 0⟩)] ((((w.alloc (.cells (polL l s).toArray 24)).alloc (.cells (csL c).toArray 27)).alloc (.cells (evL ev).toArray 37)).alloc (.cells #[.int .i64 0, .bool false, .int .i64 0, .int .i64 0, .int .i64 0, .int .i64 0, .int .i64 0, .int .i64 0, .int .i64 0, .int .i64 0, .int .i64 0, .int .i64 0, .int .i64 0, .int .i64 0, .int .i64 0] 27))) := KD.four w _ _ _ _ _ _ _ _
  go_enter Tryd.func40, Tryd.ntmps40
  go_upto_region 1 with fail
  generalize ((((w.alloc (.cells (polL l s).toArray 24)).alloc (.cells (csL c).toArray 27)).alloc (.cells (evL ev).toArray 37)).alloc (.cells #[.int .i64 0, .bool false, .int .i64 0, .int .i64 0, .int .i64 0, .int .i64 0, .int .i64 0, .int .i64 0, .int .i64 0, .int .i64 0, .int .i64 0, .int .i64 0, .int .i64 0, .int .i64 0, .int .i64 0] 27)) = w1 at *
  have S2 : Hid (KR w [(w.heap.size, 24, polL l s), (w.heap.size + 1, 27, csL c), (w.heap.size + 1 + 1, 37, evL ev), (w.heap.size + 1 + 1 + 1, 27, csL ⟨0, false, 0, 0, 0, 0, 0, 0, 0, 0, 0, 0, 0, 0, 0⟩)] (.slice none 0 0) [] w1) := ⟨S1.out, RowV.nil _ _ _⟩
  clear S1
  have c0 : w1.cell? ⟨w.heap.size + 1, 0, none⟩ = some (.int .i64 c.st) := S2.out.kd.cell 1 0 rfl _ rfl
  have c6 : w1.cell? ⟨w.heap.size + 1, 6, none⟩ = some (.int .i64 c.pd) := S2.out.kd.cell 1 6 rfl _ rfl
  have c10 : w1.cell? ⟨w.heap.size + 1, 10, none⟩ = some (.int .i64 c.br) := S2.out.kd.cell 1 10 rfl _ rfl
  have e1 : w1.cell? ⟨w.heap.size + 1 + 1, 1, none⟩ = some (.int .i64 ev.t) := S2.out.kd.cell 2 1 rfl _ rfl
  have f10 := S2.out.kd.fz 1 10 rfl
  have lt := S2.out.kd.lt 1 rfl
  go_upto_region 2 with fail
  go_cut [20] from 11 to 94 (fun v wx => v = .bool (decide (c.st = 4 ∧ c.pd < ev.t)) ∧ wx = w1)
  case first =>
    by_cases h4 : c.st = 4
    · have H4 : Hid (c.st = 4) := h4
      have d4 : (c.st == 4) = true := by simpa using h4
      clear h4
      go_wp2_with fail
      go_meet
      case rel => exact ⟨by first | (simp [H4.out]; done) | (simp [H4.out]; rfl), rfl⟩
    · have H4 : Hid (¬ c.st = 4) := h4
      have d4 : (c.st == 4) = false := by simpa using h4
      clear h4
      go_wp2_with fail
      go_meet
      case rel => exact ⟨by simp [H4.out], rfl⟩
  case rest =>
    obtain ⟨rfl, rfl⟩ := hcut
    go_upto_if 20 with fail
    go_cut [8] from 11 to 94 (fun v  wx => ∃ va vn vc, v = .slice va vn vc ∧ Hid (KR w [(w.heap.size, 24, polL l s), (w.heap.size + 1, 27, csL (age1 ev (c, [])).1), (w.heap.size + 1 + 1, 37, evL ev), (w.heap.size + 1 + 1 + 1, 27, csL ⟨0, false, 0, 0, 0, 0, 0, 0, 0, 0, 0, 0, 0, 0, 0⟩)] (v) (age1 ev (c, [])).2 wx))
    case first =>
      by_cases hA : c.st = 4 ∧ c.pd < ev.t
      · have HE : Hid (age1 ev (c, []) = (brk c, [] ++ [1])) := if_pos hA
        rw [decide_eq_true hA]
        clear hA
        have q1 : KR w [(w.heap.size, 24, polL l s), (w.heap.size + 1, 27, csL { c with br := wrap64 (c.br + 1) }), (w.heap.size + 1 + 1, 37, evL ev), (w.heap.size + 1 + 1 + 1, 27, csL ⟨0, false, 0, 0, 0, 0, 0, 0, 0, 0, 0, 0, 0, 0, 0⟩)] (.slice none 0 0) [] (wc.setCell ⟨w.heap.size + 1, 10, none⟩ (.int .i64 (wrap64 (c.br + 1)))) := S2.out.set 1 10 rfl int_ne_case (.int .i64 (wrap64 (c.br + 1)))
        have S3 : Hid (KR w [(w.heap.size, 24, polL l s), (w.heap.size + 1, 27, csL { c with br := wrap64 (c.br + 1) }), (w.heap.size + 1 + 1, 37, evL ev), (w.heap.size + 1 + 1 + 1, 27, csL ⟨0, false, 0, 0, 0, 0, 0, 0, 0, 0, 0, 0, 0, 0, 0⟩)] (.slice none 0 0) [] (wc.setCell ⟨w.heap.size + 1, 10, none⟩ (.int .i64 (wrap64 (c.br + 1))))) := q1
        clear q1
        clear S2
        go_upto_region 4 with fail
        generalize (wc.setCell ⟨w.heap.size + 1, 10, none⟩ (.int .i64 (wrap64 (c.br + 1)))) = w3 at *
        clear c0 c6 c10 e1 f10 lt
        go_wp2_with ((with_reducible refine at_loadT 27 ?_); refine step_load rfl 27 _ rfl (w.heap.size + 1) 0 rfl (csL { c with br := wrap64 (c.br + 1) }) _ (Blk.all (S3.out.kd.at 1 rfl)) Tryd.underlying27 rfl (sizeCsL _) ?_)
        refine (BK.out _ _).mono ?_
        rintro e w4 ⟨rfl, bX⟩
        have S4 : Hid (KR w [(w.heap.size, 24, polL l s), (w.heap.size + 1, 27, csL { c with br := wrap64 (c.br + 1) }), (w.heap.size + 1 + 1, 37, evL ev), (w.heap.size + 1 + 1 + 1, 27, csL ⟨0, false, 0, 0, 0, 0, 0, 0, 0, 0, 0, 0, 0, 0, 0⟩)] (.slice none 0 0) [] w4) := S3.out.call bX
        clear bX S3
        go_upto_region 5 with ((with_reducible refine at_store ?_); refine step_store rfl 27 _ _ rfl (w.heap.size + 1) 0 27 (csL { c with br := wrap64 (c.br + 1) }) (csL (brk c)) rfl rfl (S4.out.kd.at 1 rfl) (Nat.le_refl 15) (sizeCsL _) (csL_one _) ?_; intro w5 n3 g3)
        have S5 : Hid (KR w [(w.heap.size, 24, polL l s), (w.heap.size + 1, 27, csL (brk c)), (w.heap.size + 1 + 1, 37, evL ev), (w.heap.size + 1 + 1 + 1, 27, csL ⟨0, false, 0, 0, 0, 0, 0, 0, 0, 0, 0, 0, 0, 0, 0⟩)] (.slice none 0 0) [] w5) := S4.out.store 1 rfl int_ne_case n3 g3
        clear n3 g3 S4
        go_wp2_with (at_builtin; refine wpList_pushS rfl (.tmp 27) (.tmp 28) 22 rfl 3 i0 (.int .i64 0) 8 Tryd.underlying22 hi0 hz0 hz1 hz2 rfl w.heap.size _ (bkL []) _ rfl rfl S5.out.r S5.out.kd.bb.size rfl (len1C (by simp)) (len2C (by simp)) ?_; intro ka kn kc wk rk gk)
        have S6 : Hid (KR w [(w.heap.size, 24, polL l s), (w.heap.size + 1, 27, csL (brk c)), (w.heap.size + 1 + 1, 37, evL ev), (w.heap.size + 1 + 1 + 1, 27, csL ⟨0, false, 0, 0, 0, 0, 0, 0, 0, 0, 0, 0, 0, 0, 0⟩)] (.slice ka kn kc) ([] ++ [1]) wk) := S5.out.row (fun k q hq => by rcases k with _ | k; (· cases hq; first | exact int_ne_case | exact int_ne_ev | exact int_ne_pol); rcases k with _ | k; (· cases hq; first | exact int_ne_case | exact int_ne_ev | exact int_ne_pol); rcases k with _ | k; (· cases hq; first | exact int_ne_case | exact int_ne_ev | exact int_ne_pol); rcases k with _ | k; (· cases hq; first | exact int_ne_case | exact int_ne_ev | exact int_ne_pol); cases hq) gk (by rw [bkL_app]; exact rk)
        clear rk gk S5
        go_meet
        case rel =>
          refine ⟨_, _, _, rfl, ?_⟩
          show KR w [(w.heap.size, 24, polL l s), (w.heap.size + 1, 27, csL (age1 ev (c, [])).1), (w.heap.size + 1 + 1, 37, evL ev), (w.heap.size + 1 + 1 + 1, 27, csL ⟨0, false, 0, 0, 0, 0, 0, 0, 0, 0, 0, 0, 0, 0, 0⟩)] (.slice ka kn kc) (age1 ev (c, [])).2 wk
          rw [HE.out]; exact S6.out
      · have HE : Hid (age1 ev (c, []) = (c, [])) := if_neg hA
        rw [decide_eq_false hA]
        clear hA
        go_wp2_with fail
        go_meet
        case rel =>
          refine ⟨_, _, _, rfl, ?_⟩
          show KR w [(w.heap.size, 24, polL l s), (w.heap.size + 1, 27, csL (age1 ev (c, [])).1), (w.heap.size + 1 + 1, 37, evL ev), (w.heap.size + 1 + 1 + 1, 27, csL ⟨0, false, 0, 0, 0, 0, 0, 0, 0, 0, 0, 0, 0, 0, 0⟩)] (.slice none 0 0) (age1 ev (c, [])).2 wc
          rw [HE.out]; exact S2.out
    case rest =>
      obtain ⟨va, vn, vc, rfl, S3⟩ := hcut
      clear S2 c0 c6 c10 e1 f10 lt
      obtain ⟨c1, a1, hx⟩ : ∃ c1 a1, age1 ev (c, []) = (c1, a1) := ⟨_, _, rfl⟩
      have al : a1.length ≤ 1 := by
        have e2 : a1 = (age1 ev (c, [])).2 := by rw [hx]
        rw [e2]; unfold age1; split <;> simp
      have HR1 : Hid (r9 = if opn c1 = true ∧ ev.d = 0 then ((curd c1, a1 ++ [6]) : Mc) else age5 ev (age4 NA ev (age3 GR CO ev (c1, a1)))) := by show _ = _; rw [← HR.out, hx]
      have S4 : Hid (KR w [(w.heap.size, 24, polL l s), (w.heap.size + 1, 27, csL c1), (w.heap.size + 1 + 1, 37, evL ev), (w.heap.size + 1 + 1 + 1, 27, csL ⟨0, false, 0, 0, 0, 0, 0, 0, 0, 0, 0, 0, 0, 0, 0⟩)] (.slice va vn vc) a1 wc) := by have x := S3.out; rw [hx] at x; exact x
      clear S3 hx HR
      go_upto_region 6 with fail
      go_cut [36] from 11 to 94 (fun v wx => v = .bool (decide (opn c1 = true ∧ ev.d = 0)) ∧ Hid (KR w [(w.heap.size, 24, polL l s), (w.heap.size + 1, 27, csL c1), (w.heap.size + 1 + 1, 37, evL ev), (w.heap.size + 1 + 1 + 1, 27, csL ⟨0, false, 0, 0, 0, 0, 0, 0, 0, 0, 0, 0, 0, 0, 0⟩)] (.slice va vn vc) a1 wx))
      case first =>
        go_wp2_with ((with_reducible refine at_loadT 27 ?_); refine step_load rfl 27 _ rfl (w.heap.size + 1) 0 rfl (csL c1) _ (Blk.all (S4.out.kd.at 1 rfl)) Tryd.underlying27 rfl (sizeCsL _) ?_)
        refine (OP.out c1 _).mono ?_
        cases hp : opn c1
        · rintro e w6 ⟨rfl, bX⟩
          have S6 : Hid (KR w [(w.heap.size, 24, polL l s), (w.heap.size + 1, 27, csL c1), (w.heap.size + 1 + 1, 37, evL ev), (w.heap.size + 1 + 1 + 1, 27, csL ⟨0, false, 0, 0, 0, 0, 0, 0, 0, 0, 0, 0, 0, 0, 0⟩)] (.slice va vn vc) a1 w6) := S4.out.call bX
          clear bX
          go_wp2_with fail
          go_meet
          case rel => exact ⟨by simp [hp], S6⟩
        · rintro e w6 ⟨rfl, bX⟩
          have S6 : Hid (KR w [(w.heap.size, 24, polL l s), (w.heap.size + 1, 27, csL c1), (w.heap.size + 1 + 1, 37, evL ev), (w.heap.size + 1 + 1 + 1, 27, csL ⟨0, false, 0, 0, 0, 0, 0, 0, 0, 0, 0, 0, 0, 0, 0⟩)] (.slice va vn vc) a1 w6) := S4.out.call bX
          clear bX
          have e2 : w6.cell? ⟨w.heap.size + 1 + 1, 2, none⟩ = some (.int .i64 ev.d) := S6.out.kd.cell 2 2 rfl _ rfl
          go_wp2_with fail
          go_meet
          case rel => exact ⟨by first | (simp [hp]; done) | (simp [hp]; rfl), S6⟩
      case rest =>
        obtain ⟨rfl, S6⟩ := hcut
        clear S4
        by_cases hC : opn c1 = true ∧ ev.d = 0
        · have HE : Hid (r9 = (curd c1, a1 ++ [6])) := by show _ = _; rw [HR1.out, if_pos hC]
          rw [decide_eq_true hC]
          clear hC HR1
          go_upto_region 8 with (at_builtin; refine wpList_pushS rfl (.tmp 37) (.tmp 38) 22 rfl 3 i0 (.int .i64 0) 8 Tryd.underlying22 hi0 hz0 hz1 hz2 rfl w.heap.size _ (bkL a1) _ rfl rfl S6.out.r S6.out.kd.bb.size rfl (len1C (by omega)) (len2C (by omega)) ?_; intro ka kn kc wk rk gk)
          have S7 : Hid (KR w [(w.heap.size, 24, polL l s), (w.heap.size + 1, 27, csL c1), (w.heap.size + 1 + 1, 37, evL ev), (w.heap.size + 1 + 1 + 1, 27, csL ⟨0, false, 0, 0, 0, 0, 0, 0, 0, 0, 0, 0, 0, 0, 0⟩)] (.slice ka kn kc) (a1 ++ [6]) wk) := S6.out.row (fun k q hq => by rcases k with _ | k; (· cases hq; first | exact int_ne_case | exact int_ne_ev | exact int_ne_pol); rcases k with _ | k; (· cases hq; first | exact int_ne_case | exact int_ne_ev | exact int_ne_pol); rcases k with _ | k; (· cases hq; first | exact int_ne_case | exact int_ne_ev | exact int_ne_pol); rcases k with _ | k; (· cases hq; first | exact int_ne_case | exact int_ne_ev | exact int_ne_pol); cases hq) gk (by rw [bkL_app]; exact rk)
          clear rk gk S6
          go_wp2_with ((with_reducible refine at_loadT 27 ?_); refine step_load rfl 27 _ rfl (w.heap.size + 1) 0 rfl (csL c1) _ (Blk.all (S7.out.kd.at 1 rfl)) Tryd.underlying27 rfl (sizeCsL _) ?_)
          refine (CU.out _ _).mono ?_
          rintro e w8 ⟨rfl, bX⟩
          have S8 : Hid (KR w [(w.heap.size, 24, polL l s), (w.heap.size + 1, 27, csL c1), (w.heap.size + 1 + 1, 37, evL ev), (w.heap.size + 1 + 1 + 1, 27, csL ⟨0, false, 0, 0, 0, 0, 0, 0, 0, 0, 0, 0, 0, 0, 0⟩)] (.slice ka kn kc) (a1 ++ [6]) w8) := S7.out.call bX
          clear bX S7
          go_wp2_with ((with_reducible refine at_store ?_); refine step_store rfl 27 _ _ rfl (w.heap.size + 1 + 1 + 1) 0 27 (csL ⟨0, false, 0, 0, 0, 0, 0, 0, 0, 0, 0, 0, 0, 0, 0⟩) (csL (curd c1)) rfl rfl (S8.out.kd.at 3 rfl) (Nat.le_refl 15) (sizeCsL _) (csL_one _) ?_; intro wz nz gz)
          refine ret_blk_tmp rfl rfl (w.heap.size + 1 + 1 + 1) 27 (csL (curd c1)) _ rfl nz Tryd.underlying27 rfl (sizeCsL _) ?_
          rw [HE.out]
          exact ⟨_, _, _, rfl, (rowV_blk S8.out.r (S8.out.kd.at 3 rfl) gz int_ne_case), (S8.out.kd.store 3 rfl nz gz).bb⟩
        · have HQ : Hid (r9 = age5 ev (age4 NA ev (age3 GR CO ev (c1, a1)))) := by show _ = _; rw [HR1.out, if_neg hC]
          rw [decide_eq_false hC]
          clear hC HR1
          go_wp2_with ((with_reducible refine at_loadT 27 ?_); refine step_load rfl 27 _ rfl (w.heap.size + 1) 0 rfl (csL c1) _ (Blk.all (S6.out.kd.at 1 rfl)) Tryd.underlying27 rfl (sizeCsL _) ?_)
          refine (OP.out c1 _).mono ?_
          rintro e w7 ⟨rfl, bX⟩
          have S7 : Hid (KR w [(w.heap.size, 24, polL l s), (w.heap.size + 1, 27, csL c1), (w.heap.size + 1 + 1, 37, evL ev), (w.heap.size + 1 + 1 + 1, 27, csL ⟨0, false, 0, 0, 0, 0, 0, 0, 0, 0, 0, 0, 0, 0, 0⟩)] (.slice va vn vc) a1 w7) := S6.out.call bX
          clear bX S6
          go_upto_if 45 with fail
          go_cut [8, 9, 10] from 11 to 94 (fun v _ _ wx => ∃ va vn vc, v = .slice va vn vc ∧ Hid (KR w [(w.heap.size, 24, polL l s), (w.heap.size + 1, 27, csL (age3 GR CO ev (c1, a1)).1), (w.heap.size + 1 + 1, 37, evL ev), (w.heap.size + 1 + 1 + 1, 27, csL ⟨0, false, 0, 0, 0, 0, 0, 0, 0, 0, 0, 0, 0, 0, 0⟩)] (v) (age3 GR CO ev (c1, a1)).2 wx))
          case first =>
            cases hp : opn c1
            · have HE : Hid (age3 GR CO ev (c1, a1) = ((lok GR CO ev (c1, [])).1, a1 ++ (lok GR CO ev (c1, [])).2)) := by show _ = _; rw [age3, hp, if_neg (by decide), lok_app]
              have LL : Hid ((lok GR CO ev (c1, [])).2.length ≤ 1) := lok_len _ _ _ _
              have QQ : Hid (∀ w', Calls Tryd.prog 78 #[PV l s, csV c1, evV ev] w' (RunAns (lok GR CO ev (c1, [])) w')) := fun w' => QU.out c1 w'
              generalize (lok GR CO ev (c1, [])) = qq at *
              obtain ⟨cq, aq⟩ := qq
              dsimp only at LL HE
              go_wp2_with (first
              | ((with_reducible refine at_loadT 24 ?_); refine step_load rfl 24 _ rfl (w.heap.size) 0 rfl (polL l s) _ (Blk.all (S7.out.kd.at 0 rfl)) Tryd.underlying24 rfl SZ.out ?_)
              | ((with_reducible refine at_loadT 27 ?_); refine step_load rfl 27 _ rfl (w.heap.size + 1) 0 rfl (csL c1) _ (Blk.all (S7.out.kd.at 1 rfl)) Tryd.underlying27 rfl (sizeCsL _) ?_)
              | ((with_reducible refine at_loadT 37 ?_); refine step_load rfl 37 _ rfl (w.heap.size + 1 + 1) 0 rfl (evL ev) _ (Blk.all (S7.out.kd.at 2 rfl)) Tryd.underlying37 rfl (sizeEvL _) ?_))
              refine (QQ.out _).mono ?_
              rintro e w8 ⟨ra, rn, rc, rfl, rrow, bX⟩
              have S8 : Hid (KR w [(w.heap.size, 24, polL l s), (w.heap.size + 1, 27, csL c1), (w.heap.size + 1 + 1, 37, evL ev), (w.heap.size + 1 + 1 + 1, 27, csL ⟨0, false, 0, 0, 0, 0, 0, 0, 0, 0, 0, 0, 0, 0, 0⟩)] (.slice va vn vc) a1 w8) := S7.out.call bX
              have RR : Hid (RowV 3 w.heap.size w8 (.slice ra rn rc) (bkL aq)) := rrow.mono S7.out.kd.bb.size
              clear bX S7 rrow
              have NZ : Hid (Blk w8.heap.size 27 (csL ⟨0, false, 0, 0, 0, 0, 0, 0, 0, 0, 0, 0, 0, 0, 0⟩) (w8.alloc (.cells #[.int .i64 0, .bool false, .int .i64 0, .int .i64 0, .int .i64 0, .int .i64 0, .int .i64 0, .int .i64 0, .int .i64 0, .int .i64 0, .int .i64 0, .int .i64 0, .int .i64 0, .int .i64 0, .int .i64 0] 27))) := Blk.new _ _ _
              go_upto_region 11 with ((with_reducible refine at_store ?_); refine step_store rfl 27 _ _ rfl w8.heap.size 0 27 (csL ⟨0, false, 0, 0, 0, 0, 0, 0, 0, 0, 0, 0, 0, 0, 0⟩) (csL cq) rfl rfl NZ.out (Nat.le_refl 15) (sizeCsL _) (csL_one _) ?_; intro w9 n9 g9)
              have S9 : Hid (KR w [(w.heap.size, 24, polL l s), (w.heap.size + 1, 27, csL c1), (w.heap.size + 1 + 1, 37, evL ev), (w.heap.size + 1 + 1 + 1, 27, csL ⟨0, false, 0, 0, 0, 0, 0, 0, 0, 0, 0, 0, 0, 0, 0⟩)] (.slice va vn vc) a1 w9) := S8.out.past NZ.out g9
              have N9 : Hid (Blk w8.heap.size 27 (csL cq) w9) := n9
              have R9 : Hid (RowV 3 w.heap.size w9 (.slice ra rn rc) (bkL aq)) := rowV_blk (RR.out.later (below_alloc _ _)) NZ.out g9 int_ne_case
              clear n9 g9 NZ S8 RR
              obtain ⟨DB, hDB⟩ : ∃ DB, w8.heap.size = DB := ⟨_, rfl⟩
              rw [hDB] at N9
              rw [hDB]
              clear hDB
              go_upto_region 12 with (first
              | ((with_reducible refine at_loadT 27 ?_); refine step_load rfl 27 _ rfl DB 0 rfl (csL cq) _ (Blk.all N9.out) Tryd.underlying27 rfl (sizeCsL _) ?_)
              | ((with_reducible refine at_store ?_); refine step_store rfl 27 _ _ rfl (w.heap.size + 1) 0 27 (csL c1) (csL cq) rfl rfl (S9.out.kd.at 1 rfl) (Nat.le_refl 15) (sizeCsL _) (csL_one _) ?_; intro w5 n3 g3))
              have R5 : Hid (Rd w5 (.slice ra rn rc) (bkL aq)) := (rowV_blk R9.out (S9.out.kd.at 1 rfl) g3 int_ne_case).rd
              have S5 : Hid (KR w [(w.heap.size, 24, polL l s), (w.heap.size + 1, 27, csL cq), (w.heap.size + 1 + 1, 37, evL ev), (w.heap.size + 1 + 1 + 1, 27, csL ⟨0, false, 0, 0, 0, 0, 0, 0, 0, 0, 0, 0, 0, 0, 0⟩)] (.slice va vn vc) a1 w5) := S9.out.store 1 rfl int_ne_case n3 g3
              clear n3 g3 S9
              clear N9 R9
              have L1 : Hid ((bkL a1).length + (bkL aq).length ≤ maxLen) := by show _ ≤ _; have := LL.out; rw [bkL_len, bkL_len]; unfold maxLen; omega
              have L2 : Hid (((bkL a1).length + (bkL aq).length) * 8 ≤ 140737488355328) := by show _ ≤ _; have := LL.out; rw [bkL_len, bkL_len]; omega
              go_wp2_with (at_builtin; refine wpList_catS rfl (.tmp 54) (.tmp 55) 22 rfl 3 i0 (.int .i64 0) 8 Tryd.underlying22 hi0 hz0 hz1 hz2 rfl w.heap.size _ _ (bkL a1) (bkL aq) (bkL_one _) rfl S5.out.r S5.out.kd.bb.size rfl R5.out L1.out L2.out ?_; intro ka kn kc wk rk gk)
              have S6 : Hid (KR w [(w.heap.size, 24, polL l s), (w.heap.size + 1, 27, csL cq), (w.heap.size + 1 + 1, 37, evL ev), (w.heap.size + 1 + 1 + 1, 27, csL ⟨0, false, 0, 0, 0, 0, 0, 0, 0, 0, 0, 0, 0, 0, 0⟩)] (.slice ka kn kc) (a1 ++ aq) wk) := S5.out.row (fun k q hq => by rcases k with _ | k; (· cases hq; first | exact int_ne_case | exact int_ne_ev | exact int_ne_pol); rcases k with _ | k; (· cases hq; first | exact int_ne_case | exact int_ne_ev | exact int_ne_pol); rcases k with _ | k; (· cases hq; first | exact int_ne_case | exact int_ne_ev | exact int_ne_pol); rcases k with _ | k; (· cases hq; first | exact int_ne_case | exact int_ne_ev | exact int_ne_pol); cases hq) gk (by rw [show bkL (a1 ++ aq) = bkL a1 ++ bkL aq from by simp [bkL]]; exact rk)
              clear rk gk S5 R5 L1 L2
              go_meet
              case rel =>
                refine ⟨_, _, _, rfl, ?_⟩
                show KR w [(w.heap.size, 24, polL l s), (w.heap.size + 1, 27, csL (age3 GR CO ev (c1, a1)).1), (w.heap.size + 1 + 1, 37, evL ev), (w.heap.size + 1 + 1 + 1, 27, csL ⟨0, false, 0, 0, 0, 0, 0, 0, 0, 0, 0, 0, 0, 0, 0⟩)] (.slice ka kn kc) (age3 GR CO ev (c1, a1)).2 wk
                rw [HE.out]; exact S6.out
            · have HE : Hid (age3 GR CO ev (c1, a1) = (c1, a1)) := by show _ = _; rw [age3, hp]; rfl
              go_wp2_with fail
              go_meet
              case rel =>
                refine ⟨_, _, _, rfl, ?_⟩
                show KR w [(w.heap.size, 24, polL l s), (w.heap.size + 1, 27, csL (age3 GR CO ev (c1, a1)).1), (w.heap.size + 1 + 1, 37, evL ev), (w.heap.size + 1 + 1 + 1, 27, csL ⟨0, false, 0, 0, 0, 0, 0, 0, 0, 0, 0, 0, 0, 0, 0⟩)] (.slice va vn vc) (age3 GR CO ev (c1, a1)).2 w7
                rw [HE.out]; exact S7.out
          case rest =>
            obtain ⟨va, vn, vc, rfl, S8⟩ := hcut
            clear S7
            obtain ⟨c3, a3, hx⟩ : ∃ c3 a3, age3 GR CO ev (c1, a1) = (c3, a3) := ⟨_, _, rfl⟩
            have al3 : a3.length ≤ 2 := by
              have e2 : a3 = (age3 GR CO ev (c1, a1)).2 := by rw [hx]
              rw [e2, age3]; split
              · simp; omega
              · rw [lok_app]; have := lok_len GR CO ev c1; simp; omega
            have HQ3 : Hid (r9 = age5 ev (age4 NA ev (c3, a3))) := by show _ = _; rw [HQ.out, hx]
            have S12 : Hid (KR w [(w.heap.size, 24, polL l s), (w.heap.size + 1, 27, csL c3), (w.heap.size + 1 + 1, 37, evL ev), (w.heap.size + 1 + 1 + 1, 27, csL ⟨0, false, 0, 0, 0, 0, 0, 0, 0, 0, 0, 0, 0, 0, 0⟩)] (.slice va vn vc) a3 wc) := by have x := S8.out; rw [hx] at x; exact x
            clear HQ hx S8 al
            go_upto_region 13 with fail
            go_cut [70] from 11 to 94 (fun v wx => v = .bool (decide (opn c3 = true ∧ c3.su = false ∧ NA ≤ ev.d)) ∧ Hid (KR w [(w.heap.size, 24, polL l s), (w.heap.size + 1, 27, csL c3), (w.heap.size + 1 + 1, 37, evL ev), (w.heap.size + 1 + 1 + 1, 27, csL ⟨0, false, 0, 0, 0, 0, 0, 0, 0, 0, 0, 0, 0, 0, 0⟩)] (.slice va vn vc) a3 wx))
            case first =>
              go_wp2_with ((with_reducible refine at_loadT 27 ?_); refine step_load rfl 27 _ rfl (w.heap.size + 1) 0 rfl (csL c3) _ (Blk.all (S12.out.kd.at 1 rfl)) Tryd.underlying27 rfl (sizeCsL _) ?_)
              refine (OP.out c3 _).mono ?_
              cases hp : opn c3
              · rintro e w6 ⟨rfl, bX⟩
                have S6 : Hid (KR w [(w.heap.size, 24, polL l s), (w.heap.size + 1, 27, csL c3), (w.heap.size + 1 + 1, 37, evL ev), (w.heap.size + 1 + 1 + 1, 27, csL ⟨0, false, 0, 0, 0, 0, 0, 0, 0, 0, 0, 0, 0, 0, 0⟩)] (.slice va vn vc) a3 w6) := S12.out.call bX
                clear bX
                go_wp2_with fail
                go_meet
                case rel => exact ⟨by simp [hp], S6⟩
              · cases hs : c3.su
                · rintro e w6 ⟨rfl, bX⟩
                  have S6 : Hid (KR w [(w.heap.size, 24, polL l s), (w.heap.size + 1, 27, csL c3), (w.heap.size + 1 + 1, 37, evL ev), (w.heap.size + 1 + 1 + 1, 27, csL ⟨0, false, 0, 0, 0, 0, 0, 0, 0, 0, 0, 0, 0, 0, 0⟩)] (.slice va vn vc) a3 w6) := S12.out.call bX
                  clear bX
                  have HS : Hid (c3.su = false) := hs
                  have c1' : w6.cell? ⟨w.heap.size + 1, 1, none⟩ = some (.bool false) := by rw [← hs]; exact S6.out.kd.cell 1 1 rfl _ rfl
                  clear hs
                  have e2 : w6.cell? ⟨w.heap.size + 1 + 1, 2, none⟩ = some (.int .i64 ev.d) := S6.out.kd.cell 2 2 rfl _ rfl
                  have p2 : w6.cell? ⟨w.heap.size, 2, none⟩ = some (.int .i64 NA) := S6.out.kd.cell 0 2 rfl _ P2.out
                  go_wp2_with fail
                  go_meet
                  case rel => exact ⟨by first | (simp [hp, HS.out]; done) | (simp [hp, HS.out]; rfl), S6⟩
                · rintro e w6 ⟨rfl, bX⟩
                  have S6 : Hid (KR w [(w.heap.size, 24, polL l s), (w.heap.size + 1, 27, csL c3), (w.heap.size + 1 + 1, 37, evL ev), (w.heap.size + 1 + 1 + 1, 27, csL ⟨0, false, 0, 0, 0, 0, 0, 0, 0, 0, 0, 0, 0, 0, 0⟩)] (.slice va vn vc) a3 w6) := S12.out.call bX
                  clear bX
                  have HS : Hid (c3.su = true) := hs
                  have c1' : w6.cell? ⟨w.heap.size + 1, 1, none⟩ = some (.bool true) := by rw [← hs]; exact S6.out.kd.cell 1 1 rfl _ rfl
                  clear hs
                  have e2 : w6.cell? ⟨w.heap.size + 1 + 1, 2, none⟩ = some (.int .i64 ev.d) := S6.out.kd.cell 2 2 rfl _ rfl
                  have p2 : w6.cell? ⟨w.heap.size, 2, none⟩ = some (.int .i64 NA) := S6.out.kd.cell 0 2 rfl _ P2.out
                  go_wp2_with fail
                  go_meet
                  case rel => exact ⟨by first | (simp [hp, HS.out]; done) | (simp [hp, HS.out]; rfl), S6⟩
            case rest =>
              obtain ⟨rfl, S13⟩ := hcut
              clear S12
              go_upto_if 70 with fail
              go_cut [8] from 11 to 94 (fun v  wx => ∃ va vn vc, v = .slice va vn vc ∧ Hid (KR w [(w.heap.size, 24, polL l s), (w.heap.size + 1, 27, csL (age4 NA ev (c3, a3)).1), (w.heap.size + 1 + 1, 37, evL ev), (w.heap.size + 1 + 1 + 1, 27, csL ⟨0, false, 0, 0, 0, 0, 0, 0, 0, 0, 0, 0, 0, 0, 0⟩)] (v) (age4 NA ev (c3, a3)).2 wx))
              case first =>
                by_cases hA : opn c3 = true ∧ c3.su = false ∧ NA ≤ ev.d
                · by_cases h3 : c3.st = 3
                  · have HE : Hid (age4 NA ev (c3, a3) = ({ c3 with su := true, st := 5 }, a3 ++ [3])) := by show _ = _; rw [age4, if_pos hA]; simp [susp, h3]
                    have d3 : (c3.st == 3) = true := by simpa using h3
                    rw [decide_eq_true hA]
                    clear hA h3
                    have c0 : wc.cell? ⟨w.heap.size + 1, 0, none⟩ = some (.int .i64 c3.st) := S13.out.kd.cell 1 0 rfl _ rfl
                    have c1q : wc.cell? ⟨w.heap.size + 1, 1, none⟩ = some (.bool c3.su) := S13.out.kd.cell 1 1 rfl _ rfl
                    have f0 := S13.out.kd.fz 1 0 rfl
                    have f1 := S13.out.kd.fz 1 1 rfl
                    have lt := S13.out.kd.lt 1 rfl
                    have q1 : KR w [(w.heap.size, 24, polL l s), (w.heap.size + 1, 27, csL { c3 with su := true }), (w.heap.size + 1 + 1, 37, evL ev), (w.heap.size + 1 + 1 + 1, 27, csL ⟨0, false, 0, 0, 0, 0, 0, 0, 0, 0, 0, 0, 0, 0, 0⟩)] (.slice va vn vc) a3 (wc.setCell ⟨w.heap.size + 1, 1, none⟩ (.bool true)) := S13.out.set 1 1 rfl int_ne_case (.bool true)
                    have q2 : KR w [(w.heap.size, 24, polL l s), (w.heap.size + 1, 27, csL { c3 with su := true, st := 5 }), (w.heap.size + 1 + 1, 37, evL ev), (w.heap.size + 1 + 1 + 1, 27, csL ⟨0, false, 0, 0, 0, 0, 0, 0, 0, 0, 0, 0, 0, 0, 0⟩)] (.slice va vn vc) a3 ((wc.setCell ⟨w.heap.size + 1, 1, none⟩ (.bool true)).setCell ⟨w.heap.size + 1, 0, none⟩ (.int .i64 5)) := q1.set 1 0 rfl int_ne_case (.int .i64 5)
                    have S14 : Hid (KR w [(w.heap.size, 24, polL l s), (w.heap.size + 1, 27, csL { c3 with su := true, st := 5 }), (w.heap.size + 1 + 1, 37, evL ev), (w.heap.size + 1 + 1 + 1, 27, csL ⟨0, false, 0, 0, 0, 0, 0, 0, 0, 0, 0, 0, 0, 0, 0⟩)] (.slice va vn vc) a3 ((wc.setCell ⟨w.heap.size + 1, 1, none⟩ (.bool true)).setCell ⟨w.heap.size + 1, 0, none⟩ (.int .i64 5))) := q2
                    clear q1 q2
                    clear S13
                    go_upto_region 17 with fail
                    generalize ((wc.setCell ⟨w.heap.size + 1, 1, none⟩ (.bool true)).setCell ⟨w.heap.size + 1, 0, none⟩ (.int .i64 5)) = w7 at *
                    clear c0 c1q f0 f1 lt
                    go_wp2_with (at_builtin; refine wpList_pushS rfl (.tmp 76) (.tmp 77) 22 rfl 3 i0 (.int .i64 0) 8 Tryd.underlying22 hi0 hz0 hz1 hz2 rfl w.heap.size _ (bkL a3) _ rfl rfl S14.out.r S14.out.kd.bb.size rfl (len1C (by omega)) (len2C (by omega)) ?_; intro ka kn kc wk rk gk)
                    have S15 : Hid (KR w [(w.heap.size, 24, polL l s), (w.heap.size + 1, 27, csL ({ c3 with su := true, st := 5 })), (w.heap.size + 1 + 1, 37, evL ev), (w.heap.size + 1 + 1 + 1, 27, csL ⟨0, false, 0, 0, 0, 0, 0, 0, 0, 0, 0, 0, 0, 0, 0⟩)] (.slice ka kn kc) (a3 ++ [3]) wk) := S14.out.row (fun k q hq => by rcases k with _ | k; (· cases hq; first | exact int_ne_case | exact int_ne_ev | exact int_ne_pol); rcases k with _ | k; (· cases hq; first | exact int_ne_case | exact int_ne_ev | exact int_ne_pol); rcases k with _ | k; (· cases hq; first | exact int_ne_case | exact int_ne_ev | exact int_ne_pol); rcases k with _ | k; (· cases hq; first | exact int_ne_case | exact int_ne_ev | exact int_ne_pol); cases hq) gk (by rw [bkL_app]; exact rk)
                    clear rk gk S14
                    go_meet
                    case rel =>
                      refine ⟨_, _, _, rfl, ?_⟩
                      show KR w [(w.heap.size, 24, polL l s), (w.heap.size + 1, 27, csL (age4 NA ev (c3, a3)).1), (w.heap.size + 1 + 1, 37, evL ev), (w.heap.size + 1 + 1 + 1, 27, csL ⟨0, false, 0, 0, 0, 0, 0, 0, 0, 0, 0, 0, 0, 0, 0⟩)] (.slice ka kn kc) (age4 NA ev (c3, a3)).2 wk
                      rw [HE.out]; exact S15.out
                  · have HE : Hid (age4 NA ev (c3, a3) = ({ c3 with su := true }, a3 ++ [3])) := by show _ = _; rw [age4, if_pos hA]; simp [susp, h3]
                    have d3 : (c3.st == 3) = false := by simpa using h3
                    rw [decide_eq_true hA]
                    clear hA h3
                    have c0 : wc.cell? ⟨w.heap.size + 1, 0, none⟩ = some (.int .i64 c3.st) := S13.out.kd.cell 1 0 rfl _ rfl
                    have c1q : wc.cell? ⟨w.heap.size + 1, 1, none⟩ = some (.bool c3.su) := S13.out.kd.cell 1 1 rfl _ rfl
                    have f0 := S13.out.kd.fz 1 0 rfl
                    have f1 := S13.out.kd.fz 1 1 rfl
                    have lt := S13.out.kd.lt 1 rfl
                    have q1 : KR w [(w.heap.size, 24, polL l s), (w.heap.size + 1, 27, csL { c3 with su := true }), (w.heap.size + 1 + 1, 37, evL ev), (w.heap.size + 1 + 1 + 1, 27, csL ⟨0, false, 0, 0, 0, 0, 0, 0, 0, 0, 0, 0, 0, 0, 0⟩)] (.slice va vn vc) a3 (wc.setCell ⟨w.heap.size + 1, 1, none⟩ (.bool true)) := S13.out.set 1 1 rfl int_ne_case (.bool true)
                    have S14 : Hid (KR w [(w.heap.size, 24, polL l s), (w.heap.size + 1, 27, csL { c3 with su := true }), (w.heap.size + 1 + 1, 37, evL ev), (w.heap.size + 1 + 1 + 1, 27, csL ⟨0, false, 0, 0, 0, 0, 0, 0, 0, 0, 0, 0, 0, 0, 0⟩)] (.slice va vn vc) a3 (wc.setCell ⟨w.heap.size + 1, 1, none⟩ (.bool true))) := q1
                    clear q1
                    clear S13
                    go_upto_region 17 with fail
                    generalize (wc.setCell ⟨w.heap.size + 1, 1, none⟩ (.bool true)) = w7 at *
                    clear c0 c1q f0 f1 lt
                    go_wp2_with (at_builtin; refine wpList_pushS rfl (.tmp 76) (.tmp 77) 22 rfl 3 i0 (.int .i64 0) 8 Tryd.underlying22 hi0 hz0 hz1 hz2 rfl w.heap.size _ (bkL a3) _ rfl rfl S14.out.r S14.out.kd.bb.size rfl (len1C (by omega)) (len2C (by omega)) ?_; intro ka kn kc wk rk gk)
                    have S15 : Hid (KR w [(w.heap.size, 24, polL l s), (w.heap.size + 1, 27, csL ({ c3 with su := true })), (w.heap.size + 1 + 1, 37, evL ev), (w.heap.size + 1 + 1 + 1, 27, csL ⟨0, false, 0, 0, 0, 0, 0, 0, 0, 0, 0, 0, 0, 0, 0⟩)] (.slice ka kn kc) (a3 ++ [3]) wk) := S14.out.row (fun k q hq => by rcases k with _ | k; (· cases hq; first | exact int_ne_case | exact int_ne_ev | exact int_ne_pol); rcases k with _ | k; (· cases hq; first | exact int_ne_case | exact int_ne_ev | exact int_ne_pol); rcases k with _ | k; (· cases hq; first | exact int_ne_case | exact int_ne_ev | exact int_ne_pol); rcases k with _ | k; (· cases hq; first | exact int_ne_case | exact int_ne_ev | exact int_ne_pol); cases hq) gk (by rw [bkL_app]; exact rk)
                    clear rk gk S14
                    go_meet
                    case rel =>
                      refine ⟨_, _, _, rfl, ?_⟩
                      show KR w [(w.heap.size, 24, polL l s), (w.heap.size + 1, 27, csL (age4 NA ev (c3, a3)).1), (w.heap.size + 1 + 1, 37, evL ev), (w.heap.size + 1 + 1 + 1, 27, csL ⟨0, false, 0, 0, 0, 0, 0, 0, 0, 0, 0, 0, 0, 0, 0⟩)] (.slice ka kn kc) (age4 NA ev (c3, a3)).2 wk
                      rw [HE.out]; exact S15.out
                · have HE : Hid (age4 NA ev (c3, a3) = (c3, a3)) := if_neg hA
                  rw [decide_eq_false hA]
                  clear hA
                  go_wp2_with fail
                  go_meet
                  case rel =>
                    refine ⟨_, _, _, rfl, ?_⟩
                    show KR w [(w.heap.size, 24, polL l s), (w.heap.size + 1, 27, csL (age4 NA ev (c3, a3)).1), (w.heap.size + 1 + 1, 37, evL ev), (w.heap.size + 1 + 1 + 1, 27, csL ⟨0, false, 0, 0, 0, 0, 0, 0, 0, 0, 0, 0, 0, 0, 0⟩)] (.slice va vn vc) (age4 NA ev (c3, a3)).2 wc
                    rw [HE.out]; exact S13.out
              case rest =>
                obtain ⟨va, vn, vc, rfl, S14⟩ := hcut
                clear S13
                obtain ⟨c4, a4, hx⟩ : ∃ c4 a4, age4 NA ev (c3, a3) = (c4, a4) := ⟨_, _, rfl⟩
                have al4 : a4.length ≤ 3 := by
                  have e2 : a4 = (age4 NA ev (c3, a3)).2 := by rw [hx]
                  rw [e2, age4]; split <;> simp <;> omega
                have HQ4 : Hid (r9 = age5 ev (c4, a4)) := by show _ = _; rw [HQ3.out, hx]
                have S15 : Hid (KR w [(w.heap.size, 24, polL l s), (w.heap.size + 1, 27, csL c4), (w.heap.size + 1 + 1, 37, evL ev), (w.heap.size + 1 + 1 + 1, 27, csL ⟨0, false, 0, 0, 0, 0, 0, 0, 0, 0, 0, 0, 0, 0, 0⟩)] (.slice va vn vc) a4 wc) := by have x := S14.out; rw [hx] at x; exact x
                clear HQ3 hx S14 al3
                go_upto_region 18 with fail
                go_cut [87] from 11 to 94 (fun v wx => v = .bool (decide (opn c4 = true ∧ c4.dl ≤ ev.t)) ∧ Hid (KR w [(w.heap.size, 24, polL l s), (w.heap.size + 1, 27, csL c4), (w.heap.size + 1 + 1, 37, evL ev), (w.heap.size + 1 + 1 + 1, 27, csL ⟨0, false, 0, 0, 0, 0, 0, 0, 0, 0, 0, 0, 0, 0, 0⟩)] (.slice va vn vc) a4 wx))
                case first =>
                  go_wp2_with ((with_reducible refine at_loadT 27 ?_); refine step_load rfl 27 _ rfl (w.heap.size + 1) 0 rfl (csL c4) _ (Blk.all (S15.out.kd.at 1 rfl)) Tryd.underlying27 rfl (sizeCsL _) ?_)
                  refine (OP.out c4 _).mono ?_
                  cases hp : opn c4
                  · rintro e w6 ⟨rfl, bX⟩
                    have S6 : Hid (KR w [(w.heap.size, 24, polL l s), (w.heap.size + 1, 27, csL c4), (w.heap.size + 1 + 1, 37, evL ev), (w.heap.size + 1 + 1 + 1, 27, csL ⟨0, false, 0, 0, 0, 0, 0, 0, 0, 0, 0, 0, 0, 0, 0⟩)] (.slice va vn vc) a4 w6) := S15.out.call bX
                    clear bX
                    go_wp2_with fail
                    go_meet
                    case rel => exact ⟨by simp [hp], S6⟩
                  · rintro e w6 ⟨rfl, bX⟩
                    have S6 : Hid (KR w [(w.heap.size, 24, polL l s), (w.heap.size + 1, 27, csL c4), (w.heap.size + 1 + 1, 37, evL ev), (w.heap.size + 1 + 1 + 1, 27, csL ⟨0, false, 0, 0, 0, 0, 0, 0, 0, 0, 0, 0, 0, 0, 0⟩)] (.slice va vn vc) a4 w6) := S15.out.call bX
                    clear bX
                    have e1 : w6.cell? ⟨w.heap.size + 1 + 1, 1, none⟩ = some (.int .i64 ev.t) := S6.out.kd.cell 2 1 rfl _ rfl
                    have c4 : w6.cell? ⟨w.heap.size + 1, 4, none⟩ = some (.int .i64 c4.dl) := S6.out.kd.cell 1 4 rfl _ rfl
                    go_wp2_with fail
                    go_meet
                    case rel => exact ⟨by first | (simp [hp]; done) | (simp [hp]; rfl), S6⟩
                case rest =>
                  obtain ⟨rfl, S16⟩ := hcut
                  clear S15
                  by_cases hA : opn c4 = true ∧ c4.dl ≤ ev.t
                  · have HE : Hid (r9 = (endC 8 c4, a4 ++ [4])) := by show _ = _; rw [HQ4.out, age5, if_pos hA]
                    rw [decide_eq_true hA]
                    clear hA HQ4
                    go_wp2_with ((with_reducible refine at_loadT 27 ?_); refine step_load rfl 27 _ rfl (w.heap.size + 1) 0 rfl (csL c4) _ (Blk.all (S16.out.kd.at 1 rfl)) Tryd.underlying27 rfl (sizeCsL _) ?_)
                    refine (ED.out _ _ _).mono ?_
                    rintro e w8 ⟨rfl, bX⟩
                    have S17 : Hid (KR w [(w.heap.size, 24, polL l s), (w.heap.size + 1, 27, csL c4), (w.heap.size + 1 + 1, 37, evL ev), (w.heap.size + 1 + 1 + 1, 27, csL ⟨0, false, 0, 0, 0, 0, 0, 0, 0, 0, 0, 0, 0, 0, 0⟩)] (.slice va vn vc) a4 w8) := S16.out.call bX
                    clear bX S16
                    go_upto_region 20 with ((with_reducible refine at_store ?_); refine step_store rfl 27 _ _ rfl (w.heap.size + 1) 0 27 (csL c4) (csL (endC 8 c4)) rfl rfl (S17.out.kd.at 1 rfl) (Nat.le_refl 15) (sizeCsL _) (csL_one _) ?_; intro w5 n3 g3)
                    have S18 : Hid (KR w [(w.heap.size, 24, polL l s), (w.heap.size + 1, 27, csL (endC 8 c4)), (w.heap.size + 1 + 1, 37, evL ev), (w.heap.size + 1 + 1 + 1, 27, csL ⟨0, false, 0, 0, 0, 0, 0, 0, 0, 0, 0, 0, 0, 0, 0⟩)] (.slice va vn vc) a4 w5) := S17.out.store 1 rfl int_ne_case n3 g3
                    clear n3 g3 S17
                    go_upto_region 21 with (at_builtin; refine wpList_pushS rfl (.tmp 90) (.tmp 91) 22 rfl 3 i0 (.int .i64 0) 8 Tryd.underlying22 hi0 hz0 hz1 hz2 rfl w.heap.size _ (bkL a4) _ rfl rfl S18.out.r S18.out.kd.bb.size rfl (len1C (by omega)) (len2C (by omega)) ?_; intro ka kn kc wk rk gk)
                    have S19 : Hid (KR w [(w.heap.size, 24, polL l s), (w.heap.size + 1, 27, csL (endC 8 c4)), (w.heap.size + 1 + 1, 37, evL ev), (w.heap.size + 1 + 1 + 1, 27, csL ⟨0, false, 0, 0, 0, 0, 0, 0, 0, 0, 0, 0, 0, 0, 0⟩)] (.slice ka kn kc) (a4 ++ [4]) wk) := S18.out.row (fun k q hq => by rcases k with _ | k; (· cases hq; first | exact int_ne_case | exact int_ne_ev | exact int_ne_pol); rcases k with _ | k; (· cases hq; first | exact int_ne_case | exact int_ne_ev | exact int_ne_pol); rcases k with _ | k; (· cases hq; first | exact int_ne_case | exact int_ne_ev | exact int_ne_pol); rcases k with _ | k; (· cases hq; first | exact int_ne_case | exact int_ne_ev | exact int_ne_pol); cases hq) gk (by rw [bkL_app]; exact rk)
                    clear rk gk S18
                    go_wp2_with (first
                    | ((with_reducible refine at_loadT 27 ?_); refine step_load rfl 27 _ rfl (w.heap.size + 1) 0 rfl (csL (endC 8 c4)) _ (Blk.all (S19.out.kd.at 1 rfl)) Tryd.underlying27 rfl (sizeCsL _) ?_)
                    | ((with_reducible refine at_store ?_); refine step_store rfl 27 _ _ rfl (w.heap.size + 1 + 1 + 1) 0 27 (csL ⟨0, false, 0, 0, 0, 0, 0, 0, 0, 0, 0, 0, 0, 0, 0⟩) (csL (endC 8 c4)) rfl rfl (S19.out.kd.at 3 rfl) (Nat.le_refl 15) (sizeCsL _) (csL_one _) ?_; intro wz nz gz))
                    refine ret_blk_tmp rfl rfl (w.heap.size + 1 + 1 + 1) 27 (csL (endC 8 c4)) _ rfl nz Tryd.underlying27 rfl (sizeCsL _) ?_
                    rw [HE.out]
                    exact ⟨_, _, _, rfl, (rowV_blk S19.out.r (S19.out.kd.at 3 rfl) gz int_ne_case), (S19.out.kd.store 3 rfl nz gz).bb⟩
                  · have HE : Hid (r9 = (c4, a4)) := by show _ = _; rw [HQ4.out, age5, if_neg hA]
                    rw [decide_eq_false hA]
                    clear hA HQ4
                    go_upto_region 21 with fail
                    go_wp2_with (first
                    | ((with_reducible refine at_loadT 27 ?_); refine step_load rfl 27 _ rfl (w.heap.size + 1) 0 rfl (csL c4) _ (Blk.all (S16.out.kd.at 1 rfl)) Tryd.underlying27 rfl (sizeCsL _) ?_)
                    | ((with_reducible refine at_store ?_); refine step_store rfl 27 _ _ rfl (w.heap.size + 1 + 1 + 1) 0 27 (csL ⟨0, false, 0, 0, 0, 0, 0, 0, 0, 0, 0, 0, 0, 0, 0⟩) (csL c4) rfl rfl (S16.out.kd.at 3 rfl) (Nat.le_refl 15) (sizeCsL _) (csL_one _) ?_; intro wz nz gz))
                    refine ret_blk_tmp rfl rfl (w.heap.size + 1 + 1 + 1) 27 (csL c4) _ rfl nz Tryd.underlying27 rfl (sizeCsL _) ?_
                    rw [HE.out]
                    exact ⟨_, _, _, rfl, (rowV_blk S16.out.r (S16.out.kd.at 3 rfl) gz int_ne_case), (S16.out.kd.store 3 rfl nz gz).bb⟩
end Go.Proofs.YtmbbigkpeefjjabDoor
