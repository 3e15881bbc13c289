/-
  Ours: the reference's numbers, standing, taken, Step (gen_corf.py).
-/
import Derived.Test.YtmbbigkpeefjjabDoorCoRf3
import Derived.Test.YtmbbigkpeefjjabDoorCoRfM
namespace Go.Proofs.YtmbbigkpeefjjabDoor
open Go.RowKit LedM PolM CoM

set_option linter.unusedSimpArgs false in
set_option maxRecDepth 20000 in
set_option maxHeartbeats 4000000 in
theorem rnum_at (l : List Int) (s : Value) (ev : Ev) (hl : l.length = 17) (w : World) : Calls Tryd.prog 26 #[PV l s, evV ev] w fun e w' => e = .returned (.int .i64 (numR (l.getD 10 0) ev)) ∧ Below w.heap.size w w' := by
  show Calls _ _ #[.agg (polL l s).toArray, .agg (evL ev).toArray] _ _
  have P10 : Hid ((polL l s)[10]? = some (.int .i64 (l.getD 10 0))) := polL_at hl 10 (by decide)
  clear hl
  generalize l.getD 10 0 = PD at *
  have S1 : Hid (KD w [(w.heap.size, 24, polL l s), (w.heap.size + 1, 37, evL ev)] ((w.alloc (.cells (polL l s).toArray 24)).alloc (.cells (evL ev).toArray 37))) := KD.two w _ _ _ _
  go_enter Tryd.func26, Tryd.ntmps26
  go_upto_region 1 with fail
  generalize ((w.alloc (.cells (polL l s).toArray 24)).alloc (.cells (evL ev).toArray 37)) = w1 at *
  have e0 : w1.cell? ⟨w.heap.size + 1, 0, none⟩ = some (.int .i64 ev.k) := S1.out.cell 1 0 rfl _ rfl
  have e1 : w1.cell? ⟨w.heap.size + 1, 1, none⟩ = some (.int .i64 ev.t) := S1.out.cell 1 1 rfl _ rfl
  have e2 : w1.cell? ⟨w.heap.size + 1, 2, none⟩ = some (.int .i64 ev.d) := S1.out.cell 1 2 rfl _ rfl
  have e3 : w1.cell? ⟨w.heap.size + 1, 3, none⟩ = some (.int .i64 ev.a) := S1.out.cell 1 3 rfl _ rfl
  have p10 : w1.cell? ⟨w.heap.size, 10, none⟩ = some (.int .i64 PD) := S1.out.cell 0 10 rfl _ P10.out
  go_cut [5] from 6 to 57 (fun v wx => v = .bool (isD ev.t) ∧ wx = w1)
  case first =>
    by_cases h1 : 1 ≤ ev.t
    · have HV : Hid (isD ev.t = decide (ev.t ≤ 3652059)) := by show _ = _; simp [isD, h1]
      have d1 : decide (1 ≤ ev.t) = true := decide_eq_true h1
      clear h1
      go_wp2_with fail
      go_meet
      case rel => exact ⟨by rw [HV.out], rfl⟩
    · have HV : Hid (isD ev.t = false) := by show _ = _; unfold isD; exact decide_eq_false (by omega)
      have d1 : decide (1 ≤ ev.t) = false := decide_eq_false h1
      clear h1
      go_wp2_with fail
      go_meet
      case rel => exact ⟨by rw [HV.out], rfl⟩
  case rest =>
    obtain ⟨rfl, rfl⟩ := hcut
    by_cases h1q : ev.k = 1
    · have hk := h1q
      clear h1q
      have k1 : (ev.k == 1) = true := by simp [hk]
      cases hd : isD ev.t
      · have HE : Hid (numR PD ev = 2) := by show _ = _; simp [numR, hk, hd]
        clear hk hd
        go_wp2_with fail
        go_ret
        exact ⟨by rw [HE.out]; rfl, S1.out.bb⟩
      · by_cases h0 : ev.d < 0
        · have HE : Hid (numR PD ev = 2) := by show _ = _; simp [numR, hk, hd, h0]
          have d0 : decide (ev.d < 0) = true := decide_eq_true h0
          clear hk hd h0
          go_wp2_with fail
          go_ret
          exact ⟨by rw [HE.out]; rfl, S1.out.bb⟩
        · have HE : Hid (numR PD ev = 0) := by show _ = _; simp [numR, hk, hd, h0]
          have d0 : decide (ev.d < 0) = false := decide_eq_false h0
          clear hk hd h0
          go_wp2_with fail
          go_ret
          exact ⟨by rw [HE.out]; rfl, S1.out.bb⟩
    · by_cases h2q : ev.k = 2
      · have hk := h2q
        clear h2q
        have k1 : (ev.k == 1) = false := by simp [hk]
        have k2 : (ev.k == 2) = true := by simp [hk]
        by_cases ha : ev.a < 1
        · have HE : Hid (numR PD ev = 4) := by show _ = _; simp [numR, hk, ha]
          have da : decide (ev.a < 1) = true := decide_eq_true ha
          clear hk ha
          go_wp2_with fail
          go_ret
          exact ⟨by rw [HE.out]; rfl, S1.out.bb⟩
        · by_cases h0 : ev.d < 0
          · have HE : Hid (numR PD ev = 2) := by show _ = _; simp [numR, hk, ha, h0]
            have da : decide (ev.a < 1) = false := decide_eq_false ha
            have d0 : decide (ev.d < 0) = true := decide_eq_true h0
            clear hk ha h0
            go_wp2_with fail
            go_ret
            exact ⟨by rw [HE.out]; rfl, S1.out.bb⟩
          · have HE : Hid (numR PD ev = 0) := by show _ = _; simp [numR, hk, ha, h0]
            have da : decide (ev.a < 1) = false := decide_eq_false ha
            have d0 : decide (ev.d < 0) = false := decide_eq_false h0
            clear hk ha h0
            go_wp2_with fail
            go_ret
            exact ⟨by rw [HE.out]; rfl, S1.out.bb⟩
      · by_cases h3q : ev.k = 3
        · have hk := h3q
          clear h3q
          have k1 : (ev.k == 1) = false := by simp [hk]
          have k2 : (ev.k == 2) = false := by simp [hk]
          have k3 : (ev.k == 3) = true := by simp [hk]
          by_cases ha : ev.a < 1
          · have HE : Hid (numR PD ev = 4) := by show _ = _; simp [numR, hk, ha]
            have da : decide (ev.a < 1) = true := decide_eq_true ha
            clear hk ha
            go_wp2_with fail
            go_ret
            exact ⟨by rw [HE.out]; rfl, S1.out.bb⟩
          · have HE : Hid (numR PD ev = 0) := by show _ = _; simp [numR, hk, ha]
            have da : decide (ev.a < 1) = false := decide_eq_false ha
            clear hk ha
            go_wp2_with fail
            go_ret
            exact ⟨by rw [HE.out]; rfl, S1.out.bb⟩
        · by_cases h4q : ev.k = 4
          · have hk := h4q
            clear h4q
            have k1 : (ev.k == 1) = false := by simp [hk]
            have k2 : (ev.k == 2) = false := by simp [hk]
            have k3 : (ev.k == 3) = false := by simp [hk]
            have k6 : (ev.k == 6) = false := by simp [hk]
            have k4 : (ev.k == 4) = true := by simp [hk]
            cases hd : isD ev.t
            · have HE : Hid (numR PD ev = 2) := by show _ = _; simp [numR, hk, hd]
              clear hk hd
              go_wp2_with fail
              go_ret
              exact ⟨by rw [HE.out]; rfl, S1.out.bb⟩
            · by_cases h1 : ev.d < 1
              · have HE : Hid (numR PD ev = 2) := by show _ = _; simp [numR, hk, hd, h1]
                have d1 : decide (ev.d < 1) = true := decide_eq_true h1
                clear hk hd h1
                go_wp2_with fail
                go_ret
                exact ⟨by rw [HE.out]; rfl, S1.out.bb⟩
              · by_cases h2 : PD < ev.d
                · have HE : Hid (numR PD ev = 2) := by show _ = _; simp [numR, hk, hd, h1, h2]
                  have d1 : decide (ev.d < 1) = false := decide_eq_false h1
                  have d2 : decide (PD < ev.d) = true := decide_eq_true h2
                  clear hk hd h1 h2
                  go_wp2_with fail
                  go_ret
                  exact ⟨by rw [HE.out]; rfl, S1.out.bb⟩
                · by_cases ha : ev.a < 1
                  · have HE : Hid (numR PD ev = 4) := by show _ = _; simp [numR, hk, hd, h1, h2, ha]
                    have d1 : decide (ev.d < 1) = false := decide_eq_false h1
                    have d2 : decide (PD < ev.d) = false := decide_eq_false h2
                    have da : decide (ev.a < 1) = true := decide_eq_true ha
                    clear hk hd h1 h2 ha
                    go_wp2_with fail
                    go_ret
                    exact ⟨by rw [HE.out]; rfl, S1.out.bb⟩
                  · have HE : Hid (numR PD ev = 0) := by show _ = _; simp [numR, hk, hd, h1, h2, ha]
                    have d1 : decide (ev.d < 1) = false := decide_eq_false h1
                    have d2 : decide (PD < ev.d) = false := decide_eq_false h2
                    have da : decide (ev.a < 1) = false := decide_eq_false ha
                    clear hk hd h1 h2 ha
                    go_wp2_with fail
                    go_ret
                    exact ⟨by rw [HE.out]; rfl, S1.out.bb⟩
          · by_cases h6q : ev.k = 6
            · have hk := h6q
              clear h6q
              have k1 : (ev.k == 1) = false := by simp [hk]
              have k2 : (ev.k == 2) = false := by simp [hk]
              have k3 : (ev.k == 3) = false := by simp [hk]
              have k6 : (ev.k == 6) = true := by simp [hk]
              by_cases ha : ev.a < 1
              · have HE : Hid (numR PD ev = 4) := by show _ = _; simp [numR, hk, ha]
                have da : decide (ev.a < 1) = true := decide_eq_true ha
                clear hk ha
                go_wp2_with fail
                go_ret
                exact ⟨by rw [HE.out]; rfl, S1.out.bb⟩
              · have HE : Hid (numR PD ev = 0) := by show _ = _; simp [numR, hk, ha]
                have da : decide (ev.a < 1) = false := decide_eq_false ha
                clear hk ha
                go_wp2_with fail
                go_ret
                exact ⟨by rw [HE.out]; rfl, S1.out.bb⟩
            · have k1 : (ev.k == 1) = false := by simp [h1q]
              have k2 : (ev.k == 2) = false := by simp [h2q]
              have k3 : (ev.k == 3) = false := by simp [h3q]
              have k4 : (ev.k == 4) = false := by simp [h4q]
              have k6 : (ev.k == 6) = false := by simp [h6q]
              have HE : Hid (numR PD ev = 0) := by show _ = _; simp [numR, h1q, h2q, h3q, h4q, h6q]
              clear h1q h2q h3q h4q h6q
              go_wp2_with fail
              go_ret
              exact ⟨by rw [HE.out]; rfl, S1.out.bb⟩

set_option linter.unusedSimpArgs false in
set_option maxRecDepth 20000 in
set_option maxHeartbeats 4000000 in
theorem rsta_at (l : List Int) (s : Value) (c : Cs) (ev : Ev) (hl : l.length = 17) (h7 : ev.k = 6 → c.cf ≤ l.getD 7 0 ∨ wrap64 (l.getD 7 0 - c.cf) < ev.a) (h8 : ev.k = 6 → c.lf ≤ l.getD 8 0 ∨ wrap64 (l.getD 8 0 - c.lf) < ev.a) (w : World) : Calls Tryd.prog 27 #[PV l s, csV c, evV ev] w fun e w' => e = .returned (.int .i64 (staR (l.getD 9 0) (l.getD 11 0) (l.getD 7 0) (l.getD 8 0) c ev)) ∧ Below w.heap.size w w' := by
  show Calls _ _ #[.agg (polL l s).toArray, .agg (csL c).toArray, .agg (evL ev).toArray] _ _
  have OP : Hid (∀ c w', Calls Tryd.prog 6 #[csV c] w' fun e w'' => e = .returned (.bool (opn c)) ∧ Below w'.heap.size w' w'') := ropen_at
  have FT6 : Hid (ev.k = 6 → (∀ w', Calls Tryd.prog 39 #[.int .i64 c.cf, .int .i64 ev.a, .int .i64 (l.getD 7 0)] w' fun e w'' => e = .returned (.bool (decide (ev.a ≤ wrap64 (l.getD 7 0 - c.cf)))) ∧ w' = w'') ∧ (∀ w', Calls Tryd.prog 39 #[.int .i64 c.lf, .int .i64 ev.a, .int .i64 (l.getD 8 0)] w' fun e w'' => e = .returned (.bool (decide (ev.a ≤ wrap64 (l.getD 8 0 - c.lf)))) ∧ w' = w'')) := fun h6 => ⟨fun w' => (rfits_at _ _ _ w' (h7 h6)).mono fun e w'' h => ⟨h.1, h.2.symm⟩, fun w' => (rfits_at _ _ _ w' (h8 h6)).mono fun e w'' h => ⟨h.1, h.2.symm⟩⟩
  clear h7 h8
  have SZ : Hid True := trivial
  have P7 : Hid ((polL l s)[7]? = some (.int .i64 (l.getD 7 0))) := polL_at hl 7 (by decide)
  have P8 : Hid ((polL l s)[8]? = some (.int .i64 (l.getD 8 0))) := polL_at hl 8 (by decide)
  have P9 : Hid ((polL l s)[9]? = some (.int .i64 (l.getD 9 0))) := polL_at hl 9 (by decide)
  have P11 : Hid ((polL l s)[11]? = some (.int .i64 (l.getD 11 0))) := polL_at hl 11 (by decide)
  clear hl
  generalize l.getD 7 0 = CC at *
  generalize l.getD 8 0 = LC at *
  generalize l.getD 9 0 = PM at *
  generalize l.getD 11 0 = RM at *
  have S1 : Hid (KD w [(w.heap.size, 24, polL l s), (w.heap.size + 1, 27, csL c), (w.heap.size + 1 + 1, 37, evL ev)] (((w.alloc (.cells (polL l s).toArray 24)).alloc (.cells (csL c).toArray 27)).alloc (.cells (evL ev).toArray 37))) := KD.three w _ _ _ _ _ _
  go_enter Tryd.func27, Tryd.ntmps27
  go_upto_region 1 with fail
  generalize (((w.alloc (.cells (polL l s).toArray 24)).alloc (.cells (csL c).toArray 27)).alloc (.cells (evL ev).toArray 37)) = w1 at *
  have c0 : w1.cell? ⟨w.heap.size + 1, 0, none⟩ = some (.int .i64 c.st) := S1.out.cell 1 0 rfl _ rfl
  have c5 : w1.cell? ⟨w.heap.size + 1, 5, none⟩ = some (.int .i64 c.pr) := S1.out.cell 1 5 rfl _ rfl
  have c12 : w1.cell? ⟨w.heap.size + 1, 12, none⟩ = some (.int .i64 c.re) := S1.out.cell 1 12 rfl _ rfl
  have c13 : w1.cell? ⟨w.heap.size + 1, 13, none⟩ = some (.int .i64 c.cf) := S1.out.cell 1 13 rfl _ rfl
  have c14 : w1.cell? ⟨w.heap.size + 1, 14, none⟩ = some (.int .i64 c.lf) := S1.out.cell 1 14 rfl _ rfl
  have e0 : w1.cell? ⟨w.heap.size + 1 + 1, 0, none⟩ = some (.int .i64 ev.k) := S1.out.cell 2 0 rfl _ rfl
  have e3 : w1.cell? ⟨w.heap.size + 1 + 1, 3, none⟩ = some (.int .i64 ev.a) := S1.out.cell 2 3 rfl _ rfl
  have p9 : w1.cell? ⟨w.heap.size, 9, none⟩ = some (.int .i64 PM) := S1.out.cell 0 9 rfl _ P9.out
  have p11 : w1.cell? ⟨w.heap.size, 11, none⟩ = some (.int .i64 RM) := S1.out.cell 0 11 rfl _ P11.out
  have p7 : w1.cell? ⟨w.heap.size, 7, none⟩ = some (.int .i64 CC) := S1.out.cell 0 7 rfl _ P7.out
  have p8 : w1.cell? ⟨w.heap.size, 8, none⟩ = some (.int .i64 LC) := S1.out.cell 0 8 rfl _ P8.out
  go_cut [14] from 7 to 88 (fun v wx => v = .bool (ovr c) ∧ wx = w1)
  case first =>
    by_cases h8 : c.st = 8
    · have HV : Hid (ovr c = true) := by show _ = _; simp [ovr, h8]
      have d8 : (c.st == 8) = true := by simpa using h8
      clear h8
      go_wp2_with fail
      go_meet
      case rel => exact ⟨by rw [HV.out], rfl⟩
    · have HV : Hid (ovr c = (c.st == 9)) := by show _ = _; by_cases h9 : c.st = 9 <;> simp [ovr, h8, h9]
      have d8 : (c.st == 8) = false := by simpa using h8
      clear h8
      go_wp2_with fail
      go_meet
      case rel => exact ⟨by rw [HV.out], rfl⟩
  case rest =>
    obtain ⟨rfl, rfl⟩ := hcut
    cases ho : ovr c
    · by_cases h4q : ev.k = 4
      · have hk := h4q
        clear h4q
        have k4 : (ev.k == 4) = true := by simp [hk]
        have k5 : (ev.k == 5) = false := by simp [hk]
        have k6 : (ev.k == 6) = false := by simp [hk]
        cases hp : opn c
        · have HE : Hid (staR PM RM CC LC c ev = 131) := by show _ = _; simp [staR, ho, hk, hp]
          clear hk
          go_wp2_with ((with_reducible refine at_loadG 27 ?_); refine step_loadG rfl 27 _ rfl (w.heap.size + 1) 0 rfl (csL c) _ (Blk.all (S1.out.at 1 rfl)) Tryd.underlying27 rfl (sizeCsL _) ?_)
          refine (OP.out c _).mono ?_
          rw [hp]
          rintro e w2 ⟨rfl, bX⟩
          have S2 : Hid (KD w [(w.heap.size, 24, polL l s), (w.heap.size + 1, 27, csL c), (w.heap.size + 1 + 1, 37, evL ev)] w2) := S1.out.call bX
          clear bX S1 c0 c5 c12 c13 c14 e0 e3 p9 p11 p7 p8
          go_wp2_with fail
          go_ret
          exact ⟨by rw [HE.out]; rfl, S2.out.bb⟩
        · by_cases h4 : c.st = 4
          · have HE : Hid (staR PM RM CC LC c ev = 132) := by show _ = _; simp [staR, ho, hk, hp, h4]
            have d4 : (c.st == 4) = true := by simpa using h4
            clear hk h4
            go_wp2_with ((with_reducible refine at_loadG 27 ?_); refine step_loadG rfl 27 _ rfl (w.heap.size + 1) 0 rfl (csL c) _ (Blk.all (S1.out.at 1 rfl)) Tryd.underlying27 rfl (sizeCsL _) ?_)
            refine (OP.out c _).mono ?_
            rw [hp]
            rintro e w2 ⟨rfl, bX⟩
            have S2 : Hid (KD w [(w.heap.size, 24, polL l s), (w.heap.size + 1, 27, csL c), (w.heap.size + 1 + 1, 37, evL ev)] w2) := S1.out.call bX
            clear bX S1 c0 c5 c12 c13 c14 e0 e3 p9 p11 p7 p8
            have c0 : w2.cell? ⟨w.heap.size + 1, 0, none⟩ = some (.int .i64 c.st) := S2.out.cell 1 0 rfl _ rfl
            have c5 : w2.cell? ⟨w.heap.size + 1, 5, none⟩ = some (.int .i64 c.pr) := S2.out.cell 1 5 rfl _ rfl
            have c12 : w2.cell? ⟨w.heap.size + 1, 12, none⟩ = some (.int .i64 c.re) := S2.out.cell 1 12 rfl _ rfl
            have c13 : w2.cell? ⟨w.heap.size + 1, 13, none⟩ = some (.int .i64 c.cf) := S2.out.cell 1 13 rfl _ rfl
            have c14 : w2.cell? ⟨w.heap.size + 1, 14, none⟩ = some (.int .i64 c.lf) := S2.out.cell 1 14 rfl _ rfl
            have e0 : w2.cell? ⟨w.heap.size + 1 + 1, 0, none⟩ = some (.int .i64 ev.k) := S2.out.cell 2 0 rfl _ rfl
            have e3 : w2.cell? ⟨w.heap.size + 1 + 1, 3, none⟩ = some (.int .i64 ev.a) := S2.out.cell 2 3 rfl _ rfl
            have p9 : w2.cell? ⟨w.heap.size, 9, none⟩ = some (.int .i64 PM) := S2.out.cell 0 9 rfl _ P9.out
            have p11 : w2.cell? ⟨w.heap.size, 11, none⟩ = some (.int .i64 RM) := S2.out.cell 0 11 rfl _ P11.out
            have p7 : w2.cell? ⟨w.heap.size, 7, none⟩ = some (.int .i64 CC) := S2.out.cell 0 7 rfl _ P7.out
            have p8 : w2.cell? ⟨w.heap.size, 8, none⟩ = some (.int .i64 LC) := S2.out.cell 0 8 rfl _ P8.out
            go_wp2_with fail
            go_ret
            exact ⟨by rw [HE.out]; rfl, S2.out.bb⟩
          · by_cases hb : PM ≤ c.pr
            · have HE : Hid (staR PM RM CC LC c ev = 133) := by show _ = _; simp [staR, ho, hk, hp, h4, hb]
              have d4 : (c.st == 4) = false := by simpa using h4
              have db : decide (PM ≤ c.pr) = true := decide_eq_true hb
              clear hk h4 hb
              go_wp2_with ((with_reducible refine at_loadG 27 ?_); refine step_loadG rfl 27 _ rfl (w.heap.size + 1) 0 rfl (csL c) _ (Blk.all (S1.out.at 1 rfl)) Tryd.underlying27 rfl (sizeCsL _) ?_)
              refine (OP.out c _).mono ?_
              rw [hp]
              rintro e w2 ⟨rfl, bX⟩
              have S2 : Hid (KD w [(w.heap.size, 24, polL l s), (w.heap.size + 1, 27, csL c), (w.heap.size + 1 + 1, 37, evL ev)] w2) := S1.out.call bX
              clear bX S1 c0 c5 c12 c13 c14 e0 e3 p9 p11 p7 p8
              have c0 : w2.cell? ⟨w.heap.size + 1, 0, none⟩ = some (.int .i64 c.st) := S2.out.cell 1 0 rfl _ rfl
              have c5 : w2.cell? ⟨w.heap.size + 1, 5, none⟩ = some (.int .i64 c.pr) := S2.out.cell 1 5 rfl _ rfl
              have c12 : w2.cell? ⟨w.heap.size + 1, 12, none⟩ = some (.int .i64 c.re) := S2.out.cell 1 12 rfl _ rfl
              have c13 : w2.cell? ⟨w.heap.size + 1, 13, none⟩ = some (.int .i64 c.cf) := S2.out.cell 1 13 rfl _ rfl
              have c14 : w2.cell? ⟨w.heap.size + 1, 14, none⟩ = some (.int .i64 c.lf) := S2.out.cell 1 14 rfl _ rfl
              have e0 : w2.cell? ⟨w.heap.size + 1 + 1, 0, none⟩ = some (.int .i64 ev.k) := S2.out.cell 2 0 rfl _ rfl
              have e3 : w2.cell? ⟨w.heap.size + 1 + 1, 3, none⟩ = some (.int .i64 ev.a) := S2.out.cell 2 3 rfl _ rfl
              have p9 : w2.cell? ⟨w.heap.size, 9, none⟩ = some (.int .i64 PM) := S2.out.cell 0 9 rfl _ P9.out
              have p11 : w2.cell? ⟨w.heap.size, 11, none⟩ = some (.int .i64 RM) := S2.out.cell 0 11 rfl _ P11.out
              have p7 : w2.cell? ⟨w.heap.size, 7, none⟩ = some (.int .i64 CC) := S2.out.cell 0 7 rfl _ P7.out
              have p8 : w2.cell? ⟨w.heap.size, 8, none⟩ = some (.int .i64 LC) := S2.out.cell 0 8 rfl _ P8.out
              go_wp2_with fail
              go_ret
              exact ⟨by rw [HE.out]; rfl, S2.out.bb⟩
            · have HE : Hid (staR PM RM CC LC c ev = 0) := by show _ = _; simp [staR, ho, hk, hp, h4, hb]
              have d4 : (c.st == 4) = false := by simpa using h4
              have db : decide (PM ≤ c.pr) = false := decide_eq_false hb
              clear hk h4 hb
              go_wp2_with ((with_reducible refine at_loadG 27 ?_); refine step_loadG rfl 27 _ rfl (w.heap.size + 1) 0 rfl (csL c) _ (Blk.all (S1.out.at 1 rfl)) Tryd.underlying27 rfl (sizeCsL _) ?_)
              refine (OP.out c _).mono ?_
              rw [hp]
              rintro e w2 ⟨rfl, bX⟩
              have S2 : Hid (KD w [(w.heap.size, 24, polL l s), (w.heap.size + 1, 27, csL c), (w.heap.size + 1 + 1, 37, evL ev)] w2) := S1.out.call bX
              clear bX S1 c0 c5 c12 c13 c14 e0 e3 p9 p11 p7 p8
              have c0 : w2.cell? ⟨w.heap.size + 1, 0, none⟩ = some (.int .i64 c.st) := S2.out.cell 1 0 rfl _ rfl
              have c5 : w2.cell? ⟨w.heap.size + 1, 5, none⟩ = some (.int .i64 c.pr) := S2.out.cell 1 5 rfl _ rfl
              have c12 : w2.cell? ⟨w.heap.size + 1, 12, none⟩ = some (.int .i64 c.re) := S2.out.cell 1 12 rfl _ rfl
              have c13 : w2.cell? ⟨w.heap.size + 1, 13, none⟩ = some (.int .i64 c.cf) := S2.out.cell 1 13 rfl _ rfl
              have c14 : w2.cell? ⟨w.heap.size + 1, 14, none⟩ = some (.int .i64 c.lf) := S2.out.cell 1 14 rfl _ rfl
              have e0 : w2.cell? ⟨w.heap.size + 1 + 1, 0, none⟩ = some (.int .i64 ev.k) := S2.out.cell 2 0 rfl _ rfl
              have e3 : w2.cell? ⟨w.heap.size + 1 + 1, 3, none⟩ = some (.int .i64 ev.a) := S2.out.cell 2 3 rfl _ rfl
              have p9 : w2.cell? ⟨w.heap.size, 9, none⟩ = some (.int .i64 PM) := S2.out.cell 0 9 rfl _ P9.out
              have p11 : w2.cell? ⟨w.heap.size, 11, none⟩ = some (.int .i64 RM) := S2.out.cell 0 11 rfl _ P11.out
              have p7 : w2.cell? ⟨w.heap.size, 7, none⟩ = some (.int .i64 CC) := S2.out.cell 0 7 rfl _ P7.out
              have p8 : w2.cell? ⟨w.heap.size, 8, none⟩ = some (.int .i64 LC) := S2.out.cell 0 8 rfl _ P8.out
              go_wp2_with fail
              go_ret
              exact ⟨by rw [HE.out]; rfl, S2.out.bb⟩
      · by_cases h5q : ev.k = 5
        · have hk := h5q
          clear h5q
          have k4 : (ev.k == 4) = false := by simp [hk]
          have k5 : (ev.k == 5) = true := by simp [hk]
          have k6 : (ev.k == 6) = false := by simp [hk]
          cases hp : opn c
          · have HE : Hid (staR PM RM CC LC c ev = 131) := by show _ = _; simp [staR, ho, hk, hp]
            clear hk
            go_wp2_with ((with_reducible refine at_loadG 27 ?_); refine step_loadG rfl 27 _ rfl (w.heap.size + 1) 0 rfl (csL c) _ (Blk.all (S1.out.at 1 rfl)) Tryd.underlying27 rfl (sizeCsL _) ?_)
            refine (OP.out c _).mono ?_
            rw [hp]
            rintro e w2 ⟨rfl, bX⟩
            have S2 : Hid (KD w [(w.heap.size, 24, polL l s), (w.heap.size + 1, 27, csL c), (w.heap.size + 1 + 1, 37, evL ev)] w2) := S1.out.call bX
            clear bX S1 c0 c5 c12 c13 c14 e0 e3 p9 p11 p7 p8
            go_wp2_with fail
            go_ret
            exact ⟨by rw [HE.out]; rfl, S2.out.bb⟩
          · by_cases hb : RM ≤ c.re
            · have HE : Hid (staR PM RM CC LC c ev = 133) := by show _ = _; simp [staR, ho, hk, hp, hb]
              have db : decide (RM ≤ c.re) = true := decide_eq_true hb
              clear hk hb
              go_wp2_with ((with_reducible refine at_loadG 27 ?_); refine step_loadG rfl 27 _ rfl (w.heap.size + 1) 0 rfl (csL c) _ (Blk.all (S1.out.at 1 rfl)) Tryd.underlying27 rfl (sizeCsL _) ?_)
              refine (OP.out c _).mono ?_
              rw [hp]
              rintro e w2 ⟨rfl, bX⟩
              have S2 : Hid (KD w [(w.heap.size, 24, polL l s), (w.heap.size + 1, 27, csL c), (w.heap.size + 1 + 1, 37, evL ev)] w2) := S1.out.call bX
              clear bX S1 c0 c5 c12 c13 c14 e0 e3 p9 p11 p7 p8
              have c0 : w2.cell? ⟨w.heap.size + 1, 0, none⟩ = some (.int .i64 c.st) := S2.out.cell 1 0 rfl _ rfl
              have c5 : w2.cell? ⟨w.heap.size + 1, 5, none⟩ = some (.int .i64 c.pr) := S2.out.cell 1 5 rfl _ rfl
              have c12 : w2.cell? ⟨w.heap.size + 1, 12, none⟩ = some (.int .i64 c.re) := S2.out.cell 1 12 rfl _ rfl
              have c13 : w2.cell? ⟨w.heap.size + 1, 13, none⟩ = some (.int .i64 c.cf) := S2.out.cell 1 13 rfl _ rfl
              have c14 : w2.cell? ⟨w.heap.size + 1, 14, none⟩ = some (.int .i64 c.lf) := S2.out.cell 1 14 rfl _ rfl
              have e0 : w2.cell? ⟨w.heap.size + 1 + 1, 0, none⟩ = some (.int .i64 ev.k) := S2.out.cell 2 0 rfl _ rfl
              have e3 : w2.cell? ⟨w.heap.size + 1 + 1, 3, none⟩ = some (.int .i64 ev.a) := S2.out.cell 2 3 rfl _ rfl
              have p9 : w2.cell? ⟨w.heap.size, 9, none⟩ = some (.int .i64 PM) := S2.out.cell 0 9 rfl _ P9.out
              have p11 : w2.cell? ⟨w.heap.size, 11, none⟩ = some (.int .i64 RM) := S2.out.cell 0 11 rfl _ P11.out
              have p7 : w2.cell? ⟨w.heap.size, 7, none⟩ = some (.int .i64 CC) := S2.out.cell 0 7 rfl _ P7.out
              have p8 : w2.cell? ⟨w.heap.size, 8, none⟩ = some (.int .i64 LC) := S2.out.cell 0 8 rfl _ P8.out
              go_wp2_with fail
              go_ret
              exact ⟨by rw [HE.out]; rfl, S2.out.bb⟩
            · have HE : Hid (staR PM RM CC LC c ev = 0) := by show _ = _; simp [staR, ho, hk, hp, hb]
              have db : decide (RM ≤ c.re) = false := decide_eq_false hb
              clear hk hb
              go_wp2_with ((with_reducible refine at_loadG 27 ?_); refine step_loadG rfl 27 _ rfl (w.heap.size + 1) 0 rfl (csL c) _ (Blk.all (S1.out.at 1 rfl)) Tryd.underlying27 rfl (sizeCsL _) ?_)
              refine (OP.out c _).mono ?_
              rw [hp]
              rintro e w2 ⟨rfl, bX⟩
              have S2 : Hid (KD w [(w.heap.size, 24, polL l s), (w.heap.size + 1, 27, csL c), (w.heap.size + 1 + 1, 37, evL ev)] w2) := S1.out.call bX
              clear bX S1 c0 c5 c12 c13 c14 e0 e3 p9 p11 p7 p8
              have c0 : w2.cell? ⟨w.heap.size + 1, 0, none⟩ = some (.int .i64 c.st) := S2.out.cell 1 0 rfl _ rfl
              have c5 : w2.cell? ⟨w.heap.size + 1, 5, none⟩ = some (.int .i64 c.pr) := S2.out.cell 1 5 rfl _ rfl
              have c12 : w2.cell? ⟨w.heap.size + 1, 12, none⟩ = some (.int .i64 c.re) := S2.out.cell 1 12 rfl _ rfl
              have c13 : w2.cell? ⟨w.heap.size + 1, 13, none⟩ = some (.int .i64 c.cf) := S2.out.cell 1 13 rfl _ rfl
              have c14 : w2.cell? ⟨w.heap.size + 1, 14, none⟩ = some (.int .i64 c.lf) := S2.out.cell 1 14 rfl _ rfl
              have e0 : w2.cell? ⟨w.heap.size + 1 + 1, 0, none⟩ = some (.int .i64 ev.k) := S2.out.cell 2 0 rfl _ rfl
              have e3 : w2.cell? ⟨w.heap.size + 1 + 1, 3, none⟩ = some (.int .i64 ev.a) := S2.out.cell 2 3 rfl _ rfl
              have p9 : w2.cell? ⟨w.heap.size, 9, none⟩ = some (.int .i64 PM) := S2.out.cell 0 9 rfl _ P9.out
              have p11 : w2.cell? ⟨w.heap.size, 11, none⟩ = some (.int .i64 RM) := S2.out.cell 0 11 rfl _ P11.out
              have p7 : w2.cell? ⟨w.heap.size, 7, none⟩ = some (.int .i64 CC) := S2.out.cell 0 7 rfl _ P7.out
              have p8 : w2.cell? ⟨w.heap.size, 8, none⟩ = some (.int .i64 LC) := S2.out.cell 0 8 rfl _ P8.out
              go_wp2_with fail
              go_ret
              exact ⟨by rw [HE.out]; rfl, S2.out.bb⟩
        · by_cases h6q : ev.k = 6
          · have hk := h6q
            clear h6q
            have FT : Hid _ := FT6.out hk
            clear FT6
            have k4 : (ev.k == 4) = false := by simp [hk]
            have k5 : (ev.k == 5) = false := by simp [hk]
            have k6 : (ev.k == 6) = true := by simp [hk]
            cases hp : opn c
            · have HE : Hid (staR PM RM CC LC c ev = 131) := by show _ = _; simp [staR, ho, hk, hp]
              clear hk
              go_wp2_with ((with_reducible refine at_loadG 27 ?_); refine step_loadG rfl 27 _ rfl (w.heap.size + 1) 0 rfl (csL c) _ (Blk.all (S1.out.at 1 rfl)) Tryd.underlying27 rfl (sizeCsL _) ?_)
              refine (OP.out c _).mono ?_
              rw [hp]
              rintro e w2 ⟨rfl, bX⟩
              have S2 : Hid (KD w [(w.heap.size, 24, polL l s), (w.heap.size + 1, 27, csL c), (w.heap.size + 1 + 1, 37, evL ev)] w2) := S1.out.call bX
              clear bX S1 c0 c5 c12 c13 c14 e0 e3 p9 p11 p7 p8
              go_wp2_with fail
              go_ret
              exact ⟨by rw [HE.out]; rfl, S2.out.bb⟩
            · by_cases h4 : c.st = 4
              · have HE : Hid (staR PM RM CC LC c ev = 132) := by show _ = _; simp [staR, ho, hk, hp, h4]
                have d4 : (c.st == 4) = true := by simpa using h4
                clear hk h4
                go_wp2_with ((with_reducible refine at_loadG 27 ?_); refine step_loadG rfl 27 _ rfl (w.heap.size + 1) 0 rfl (csL c) _ (Blk.all (S1.out.at 1 rfl)) Tryd.underlying27 rfl (sizeCsL _) ?_)
                refine (OP.out c _).mono ?_
                rw [hp]
                rintro e w2 ⟨rfl, bX⟩
                have S2 : Hid (KD w [(w.heap.size, 24, polL l s), (w.heap.size + 1, 27, csL c), (w.heap.size + 1 + 1, 37, evL ev)] w2) := S1.out.call bX
                clear bX S1 c0 c5 c12 c13 c14 e0 e3 p9 p11 p7 p8
                have c0 : w2.cell? ⟨w.heap.size + 1, 0, none⟩ = some (.int .i64 c.st) := S2.out.cell 1 0 rfl _ rfl
                have c5 : w2.cell? ⟨w.heap.size + 1, 5, none⟩ = some (.int .i64 c.pr) := S2.out.cell 1 5 rfl _ rfl
                have c12 : w2.cell? ⟨w.heap.size + 1, 12, none⟩ = some (.int .i64 c.re) := S2.out.cell 1 12 rfl _ rfl
                have c13 : w2.cell? ⟨w.heap.size + 1, 13, none⟩ = some (.int .i64 c.cf) := S2.out.cell 1 13 rfl _ rfl
                have c14 : w2.cell? ⟨w.heap.size + 1, 14, none⟩ = some (.int .i64 c.lf) := S2.out.cell 1 14 rfl _ rfl
                have e0 : w2.cell? ⟨w.heap.size + 1 + 1, 0, none⟩ = some (.int .i64 ev.k) := S2.out.cell 2 0 rfl _ rfl
                have e3 : w2.cell? ⟨w.heap.size + 1 + 1, 3, none⟩ = some (.int .i64 ev.a) := S2.out.cell 2 3 rfl _ rfl
                have p9 : w2.cell? ⟨w.heap.size, 9, none⟩ = some (.int .i64 PM) := S2.out.cell 0 9 rfl _ P9.out
                have p11 : w2.cell? ⟨w.heap.size, 11, none⟩ = some (.int .i64 RM) := S2.out.cell 0 11 rfl _ P11.out
                have p7 : w2.cell? ⟨w.heap.size, 7, none⟩ = some (.int .i64 CC) := S2.out.cell 0 7 rfl _ P7.out
                have p8 : w2.cell? ⟨w.heap.size, 8, none⟩ = some (.int .i64 LC) := S2.out.cell 0 8 rfl _ P8.out
                go_wp2_with fail
                go_ret
                exact ⟨by rw [HE.out]; rfl, S2.out.bb⟩
              · by_cases hb1 : wrap64 (CC - c.cf) < ev.a
                · have FA1 : Hid (∀ w', Calls Tryd.prog 39 #[.int .i64 c.cf, .int .i64 ev.a, .int .i64 CC] w' fun e w'' => e = .returned (.bool false) ∧ w' = w'') := fun w' => (FT.out.1 w').mono fun e w'' h => ⟨by rw [h.1, decide_eq_false (by omega)], h.2⟩
                  have HE : Hid (staR PM RM CC LC c ev = 133) := by show _ = _; simp [staR, ho, hk, hp, h4, hb1]
                  have d4 : (c.st == 4) = false := by simpa using h4
                  clear hk h4 hb1 FT
                  go_wp2_with ((with_reducible refine at_loadG 27 ?_); refine step_loadG rfl 27 _ rfl (w.heap.size + 1) 0 rfl (csL c) _ (Blk.all (S1.out.at 1 rfl)) Tryd.underlying27 rfl (sizeCsL _) ?_)
                  refine (OP.out c _).mono ?_
                  rw [hp]
                  rintro e w2 ⟨rfl, bX⟩
                  have S2 : Hid (KD w [(w.heap.size, 24, polL l s), (w.heap.size + 1, 27, csL c), (w.heap.size + 1 + 1, 37, evL ev)] w2) := S1.out.call bX
                  clear bX S1 c0 c5 c12 c13 c14 e0 e3 p9 p11 p7 p8
                  have c0 : w2.cell? ⟨w.heap.size + 1, 0, none⟩ = some (.int .i64 c.st) := S2.out.cell 1 0 rfl _ rfl
                  have c5 : w2.cell? ⟨w.heap.size + 1, 5, none⟩ = some (.int .i64 c.pr) := S2.out.cell 1 5 rfl _ rfl
                  have c12 : w2.cell? ⟨w.heap.size + 1, 12, none⟩ = some (.int .i64 c.re) := S2.out.cell 1 12 rfl _ rfl
                  have c13 : w2.cell? ⟨w.heap.size + 1, 13, none⟩ = some (.int .i64 c.cf) := S2.out.cell 1 13 rfl _ rfl
                  have c14 : w2.cell? ⟨w.heap.size + 1, 14, none⟩ = some (.int .i64 c.lf) := S2.out.cell 1 14 rfl _ rfl
                  have e0 : w2.cell? ⟨w.heap.size + 1 + 1, 0, none⟩ = some (.int .i64 ev.k) := S2.out.cell 2 0 rfl _ rfl
                  have e3 : w2.cell? ⟨w.heap.size + 1 + 1, 3, none⟩ = some (.int .i64 ev.a) := S2.out.cell 2 3 rfl _ rfl
                  have p9 : w2.cell? ⟨w.heap.size, 9, none⟩ = some (.int .i64 PM) := S2.out.cell 0 9 rfl _ P9.out
                  have p11 : w2.cell? ⟨w.heap.size, 11, none⟩ = some (.int .i64 RM) := S2.out.cell 0 11 rfl _ P11.out
                  have p7 : w2.cell? ⟨w.heap.size, 7, none⟩ = some (.int .i64 CC) := S2.out.cell 0 7 rfl _ P7.out
                  have p8 : w2.cell? ⟨w.heap.size, 8, none⟩ = some (.int .i64 LC) := S2.out.cell 0 8 rfl _ P8.out
                  go_wp2_with fail
                  refine (FA1.out _).mono ?_
                  rintro e w3 ⟨rfl, hw⟩
                  subst hw
                  go_wp2_with fail
                  go_ret
                  exact ⟨by rw [HE.out]; rfl, S2.out.bb⟩
                · have FA0 : Hid (∀ w', Calls Tryd.prog 39 #[.int .i64 c.cf, .int .i64 ev.a, .int .i64 CC] w' fun e w'' => e = .returned (.bool true) ∧ w' = w'') := fun w' => (FT.out.1 w').mono fun e w'' h => ⟨by rw [h.1, decide_eq_true (by omega)], h.2⟩
                  by_cases hb2 : wrap64 (LC - c.lf) < ev.a
                  · have FB1 : Hid (∀ w', Calls Tryd.prog 39 #[.int .i64 c.lf, .int .i64 ev.a, .int .i64 LC] w' fun e w'' => e = .returned (.bool false) ∧ w' = w'') := fun w' => (FT.out.2 w').mono fun e w'' h => ⟨by rw [h.1, decide_eq_false (by omega)], h.2⟩
                    have HE : Hid (staR PM RM CC LC c ev = 133) := by show _ = _; simp [staR, ho, hk, hp, h4, hb1, hb2]
                    have d4 : (c.st == 4) = false := by simpa using h4
                    clear hk h4 hb1 hb2 FT
                    go_wp2_with ((with_reducible refine at_loadG 27 ?_); refine step_loadG rfl 27 _ rfl (w.heap.size + 1) 0 rfl (csL c) _ (Blk.all (S1.out.at 1 rfl)) Tryd.underlying27 rfl (sizeCsL _) ?_)
                    refine (OP.out c _).mono ?_
                    rw [hp]
                    rintro e w2 ⟨rfl, bX⟩
                    have S2 : Hid (KD w [(w.heap.size, 24, polL l s), (w.heap.size + 1, 27, csL c), (w.heap.size + 1 + 1, 37, evL ev)] w2) := S1.out.call bX
                    clear bX S1 c0 c5 c12 c13 c14 e0 e3 p9 p11 p7 p8
                    have c0 : w2.cell? ⟨w.heap.size + 1, 0, none⟩ = some (.int .i64 c.st) := S2.out.cell 1 0 rfl _ rfl
                    have c5 : w2.cell? ⟨w.heap.size + 1, 5, none⟩ = some (.int .i64 c.pr) := S2.out.cell 1 5 rfl _ rfl
                    have c12 : w2.cell? ⟨w.heap.size + 1, 12, none⟩ = some (.int .i64 c.re) := S2.out.cell 1 12 rfl _ rfl
                    have c13 : w2.cell? ⟨w.heap.size + 1, 13, none⟩ = some (.int .i64 c.cf) := S2.out.cell 1 13 rfl _ rfl
                    have c14 : w2.cell? ⟨w.heap.size + 1, 14, none⟩ = some (.int .i64 c.lf) := S2.out.cell 1 14 rfl _ rfl
                    have e0 : w2.cell? ⟨w.heap.size + 1 + 1, 0, none⟩ = some (.int .i64 ev.k) := S2.out.cell 2 0 rfl _ rfl
                    have e3 : w2.cell? ⟨w.heap.size + 1 + 1, 3, none⟩ = some (.int .i64 ev.a) := S2.out.cell 2 3 rfl _ rfl
                    have p9 : w2.cell? ⟨w.heap.size, 9, none⟩ = some (.int .i64 PM) := S2.out.cell 0 9 rfl _ P9.out
                    have p11 : w2.cell? ⟨w.heap.size, 11, none⟩ = some (.int .i64 RM) := S2.out.cell 0 11 rfl _ P11.out
                    have p7 : w2.cell? ⟨w.heap.size, 7, none⟩ = some (.int .i64 CC) := S2.out.cell 0 7 rfl _ P7.out
                    have p8 : w2.cell? ⟨w.heap.size, 8, none⟩ = some (.int .i64 LC) := S2.out.cell 0 8 rfl _ P8.out
                    go_wp2_with fail
                    refine (FA0.out _).mono ?_
                    rintro e w3 ⟨rfl, hw⟩
                    subst hw
                    go_wp2_with fail
                    refine (FB1.out _).mono ?_
                    rintro e w4 ⟨rfl, hw⟩
                    subst hw
                    go_wp2_with fail
                    go_ret
                    exact ⟨by rw [HE.out]; rfl, S2.out.bb⟩
                  · have FB0 : Hid (∀ w', Calls Tryd.prog 39 #[.int .i64 c.lf, .int .i64 ev.a, .int .i64 LC] w' fun e w'' => e = .returned (.bool true) ∧ w' = w'') := fun w' => (FT.out.2 w').mono fun e w'' h => ⟨by rw [h.1, decide_eq_true (by omega)], h.2⟩
                    have HE : Hid (staR PM RM CC LC c ev = 0) := by show _ = _; simp [staR, ho, hk, hp, h4, hb1, hb2]
                    have d4 : (c.st == 4) = false := by simpa using h4
                    clear hk h4 hb1 hb2 FT
                    go_wp2_with ((with_reducible refine at_loadG 27 ?_); refine step_loadG rfl 27 _ rfl (w.heap.size + 1) 0 rfl (csL c) _ (Blk.all (S1.out.at 1 rfl)) Tryd.underlying27 rfl (sizeCsL _) ?_)
                    refine (OP.out c _).mono ?_
                    rw [hp]
                    rintro e w2 ⟨rfl, bX⟩
                    have S2 : Hid (KD w [(w.heap.size, 24, polL l s), (w.heap.size + 1, 27, csL c), (w.heap.size + 1 + 1, 37, evL ev)] w2) := S1.out.call bX
                    clear bX S1 c0 c5 c12 c13 c14 e0 e3 p9 p11 p7 p8
                    have c0 : w2.cell? ⟨w.heap.size + 1, 0, none⟩ = some (.int .i64 c.st) := S2.out.cell 1 0 rfl _ rfl
                    have c5 : w2.cell? ⟨w.heap.size + 1, 5, none⟩ = some (.int .i64 c.pr) := S2.out.cell 1 5 rfl _ rfl
                    have c12 : w2.cell? ⟨w.heap.size + 1, 12, none⟩ = some (.int .i64 c.re) := S2.out.cell 1 12 rfl _ rfl
                    have c13 : w2.cell? ⟨w.heap.size + 1, 13, none⟩ = some (.int .i64 c.cf) := S2.out.cell 1 13 rfl _ rfl
                    have c14 : w2.cell? ⟨w.heap.size + 1, 14, none⟩ = some (.int .i64 c.lf) := S2.out.cell 1 14 rfl _ rfl
                    have e0 : w2.cell? ⟨w.heap.size + 1 + 1, 0, none⟩ = some (.int .i64 ev.k) := S2.out.cell 2 0 rfl _ rfl
                    have e3 : w2.cell? ⟨w.heap.size + 1 + 1, 3, none⟩ = some (.int .i64 ev.a) := S2.out.cell 2 3 rfl _ rfl
                    have p9 : w2.cell? ⟨w.heap.size, 9, none⟩ = some (.int .i64 PM) := S2.out.cell 0 9 rfl _ P9.out
                    have p11 : w2.cell? ⟨w.heap.size, 11, none⟩ = some (.int .i64 RM) := S2.out.cell 0 11 rfl _ P11.out
                    have p7 : w2.cell? ⟨w.heap.size, 7, none⟩ = some (.int .i64 CC) := S2.out.cell 0 7 rfl _ P7.out
                    have p8 : w2.cell? ⟨w.heap.size, 8, none⟩ = some (.int .i64 LC) := S2.out.cell 0 8 rfl _ P8.out
                    go_wp2_with fail
                    refine (FA0.out _).mono ?_
                    rintro e w3 ⟨rfl, hw⟩
                    subst hw
                    go_wp2_with fail
                    refine (FB0.out _).mono ?_
                    rintro e w4 ⟨rfl, hw⟩
                    subst hw
                    go_wp2_with fail
                    go_ret
                    exact ⟨by rw [HE.out]; rfl, S2.out.bb⟩
          · have k4 : (ev.k == 4) = false := by simp [h4q]
            have k5 : (ev.k == 5) = false := by simp [h5q]
            have k6 : (ev.k == 6) = false := by simp [h6q]
            have HE : Hid (staR PM RM CC LC c ev = 0) := by show _ = _; simp [staR, ho, h4q, h5q, h6q]
            clear h4q h5q h6q
            go_wp2_with fail
            go_ret
            exact ⟨by rw [HE.out]; rfl, S1.out.bb⟩
    · have HE : Hid (staR PM RM CC LC c ev = 130) := by show _ = _; simp [staR, ho]
      go_wp2_with fail
      go_ret
      exact ⟨by rw [HE.out]; rfl, S1.out.bb⟩
end Go.Proofs.YtmbbigkpeefjjabDoor
