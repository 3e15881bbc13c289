/-
  Ours: wasSent.
-/
import Derived.Test.YtblfolaakblcfaaNwOnM
import Derived.Test.YtblfolaakblcfaaNwSam
namespace Go.Proofs.Ytblfolaakblcfaa
open Go.RowKit NwM

set_option maxRecDepth 40000 in
set_option maxHeartbeats 4000000 in
theorem wasSent_yes (os : List OpN) (a : Option Addr) (n c K : Nat) (x : Ac) (w0 w : World) (hr : RdO w0 (.slice a n c) os) (hln : os.length = n) (b0 : Below w0.heap.size w0 w) (ho : ∀ o ∈ os, o.bs.length ≤ 1048576) (hK : K ≤ n) (hn : n ≤ 1048576) (hx : RdB w (.slice x.ba x.bn x.bc) x.bs) (hs : sentIn os K x.id x.bs) :
    Calls Try.prog 22 #[.slice a n c, .int .i64 ((K : Nat) : Int), .agg #[.int .i64 x.id, .int .i64 x.tk, .slice x.ba x.bn x.bc]] w fun e w' => e = .returned (.bool true) ∧ Below w.heap.size w w' := by
  have BA := below_alloc w (.cells #[.int .i64 x.id, .int .i64 x.tk, .slice x.ba x.bn x.bc] 47)
  have D0 : Hid (Blk w.heap.size 47 (acL x) (w.alloc (.cells #[.int .i64 x.id, .int .i64 x.tk, .slice x.ba x.bn x.bc] 47)) ∧ RdB (w.alloc (.cells #[.int .i64 x.id, .int .i64 x.tk, .slice x.ba x.bn x.bc] 47)) (.slice x.ba x.bn x.bc) x.bs ∧ Below w0.heap.size w0 (w.alloc (.cells #[.int .i64 x.id, .int .i64 x.tk, .slice x.ba x.bn x.bc] 47)) ∧ Below w.heap.size w (w.alloc (.cells #[.int .i64 x.id, .int .i64 x.tk, .slice x.ba x.bn x.bc] 47))) := ⟨Blk.new _ _ _, Rd.later hx BA, below_trans b0 BA, BA⟩
  have HR : Hid (RdO w0 (.slice a n c) os ∧ os.length = n ∧ ∀ o ∈ os, o.bs.length ≤ 1048576) := ⟨hr, hln, ho⟩
  have HS : Hid (sentIn os K x.id x.bs) := hs
  clear hr hln ho hx BA hs b0
  obtain ⟨Q, hQ⟩ : ∃ Q, w.heap.size = Q := ⟨_, rfl⟩
  rw [hQ] at D0
  have HQ : Hid (w.heap.size = Q) := hQ
  go_enter Try.func22, Try.ntmps22
  go_upto_region 1 with fail
  clear hQ
  generalize w.alloc (.cells #[.int .i64 x.id, .int .i64 x.tk, .slice x.ba x.bn x.bc] 47) = w1 at *
  go_wp2_with fail
  go_loopw [7] (fun vk wr => ∃ k : Nat, vk = .int .i64 (k : Int) ∧ k ≤ K ∧ Below w1.heap.size w1 wr ∧ Hid (∀ j o, j < k → os[j]? = some o → ¬ (o.kind = 3 ∧ o.id = x.id ∧ o.bs = x.bs))) (fun vk _ => K - (intOf vk).toNat)
  case atStart => exact ⟨0, rfl, by omega, Below.refl _ _, fun j o hj => by omega⟩
  case round =>
    obtain ⟨k, rfl, hk, hb, NO⟩ := hrel
    by_cases hlt : (k : Int) < (K : Int)
    · obtain ⟨o, hok⟩ : ∃ o, os[k]? = some o := ⟨os[k]'(by rw [HR.out.2.1]; omega), List.getElem?_eq_getElem _⟩
      obtain ⟨g, off, rfl, -⟩ := RdO.at HR.out.1 (Below.refl _ _) hok
      have CX : Hid (∀ w', Below wr.heap.size wr w' → g < w'.heap.size ∧ w'.cell? ⟨g, off + k * 6, none⟩ = some (.int .i64 o.kind) ∧ w'.cell? ⟨g, off + k * 6 + 3, none⟩ = some (.int .i64 o.id) ∧ w'.cell? ⟨g, off + k * 6 + 5, none⟩ = some (.slice o.xa o.xn o.xc) ∧ w'.cell? ⟨Q, 0, none⟩ = some (.int .i64 x.id) ∧ w'.cell? ⟨Q, 2, none⟩ = some (.slice x.ba x.bn x.bc) ∧ RdB w' (.slice o.xa o.xn o.xc) o.bs ∧ RdB w' (.slice x.ba x.bn x.bc) x.bs) := fun w' b => by
        obtain ⟨g', off', e, lg, y0, y1, y2, y3, y4, y5, rd⟩ := RdO.at HR.out.1 (below_trans (below_trans D0.out.2.2.1 hb) b) hok
        injection e with e
        injection e with e1 e2
        subst e1 e2
        have bq := (D0.out.1.below hb).below b
        exact ⟨lg, y0, y3, y5, bq.cell 0 _ rfl, bq.cell 2 _ rfl, rd, Rd.later (Rd.later D0.out.2.1 hb) b⟩
      have SA : Hid (∀ w', Below wr.heap.size wr w' → Calls Try.prog 34 #[.slice o.xa o.xn o.xc, .slice x.ba x.bn x.bc] w' fun e w'' => e = .returned (.bool (decide (o.bs = x.bs))) ∧ Below wr.heap.size wr w'') := fun w' b => by
        refine (same_at o.bs x.bs _ _ w' (by have := HR.out.2.2 o (List.mem_of_getElem? hok); omega) (CX.out w' b).2.2.2.2.2.2.1 (CX.out w' b).2.2.2.2.2.2.2).mono ?_
        rintro e w'' ⟨rfl, m, rfl⟩
        exact ⟨rfl, below_drewN b m⟩
      have HB : Hid (Below w1.heap.size w1 wr) := hb
      have S0 : Hid (Below wr.heap.size wr wr.drew) := Below.drew (Below.refl _ _)
      have HO : Hid (os[k]? = some o) := hok
      have hkK : k < K := by omega
      have hkn : k < n := by omega
      have lg := (CX.out wr (Below.refl _ _)).1
      have y0 := (CX.out wr (Below.refl _ _)).2.1
      have y3 := (CX.out wr (Below.refl _ _)).2.2.1
      have q0 := (CX.out wr (Below.refl _ _)).2.2.2.2.1
      have ltQ : Q < wr.heap.size := (D0.out.1.below hb).lt
      clear hb hok
      by_cases k3 : o.kind = 3
      · by_cases ki : o.id = x.id
        · by_cases kb : o.bs = x.bs
          · have kbt : decide (o.bs = x.bs) = true := decide_eq_true kb
            rw [kbt] at SA
            have e1 : (o.kind == 3) = true := by simp [k3]
            have e2 : (x.id == x.id) = true := by simp
            rw [ki] at CX y3
            clear k3 ki kb kbt
            generalize o.kind = kd at *
            go_upto_region 4 with fail
            go_region_held3 (fun w' => Below wr.heap.size wr w' ∧ w'.cell? ⟨g, off + k * 6, none⟩ = some (.int .i64 kd) ∧ w'.cell? ⟨g, off + k * 6 + 3, none⟩ = some (.int .i64 x.id) ∧ w'.cell? ⟨g, off + k * 6 + 5, none⟩ = some (.slice o.xa o.xn o.xc) ∧ w'.cell? ⟨Q, 0, none⟩ = some (.int .i64 x.id) ∧ w'.cell? ⟨Q, 2, none⟩ = some (.slice x.ba x.bn x.bc)) (first | assumption | exact ⟨S0.out, (CX.out _ S0.out).2.1, (CX.out _ S0.out).2.2.1, (CX.out _ S0.out).2.2.2.1, (CX.out _ S0.out).2.2.2.2.1, (CX.out _ S0.out).2.2.2.2.2.1⟩ | exact ⟨b2, (CX.out _ b2).2.1, (CX.out _ b2).2.2.1, (CX.out _ b2).2.2.2.1, (CX.out _ b2).2.2.2.2.1, (CX.out _ b2).2.2.2.2.2.1⟩) (first
              | (go_at_call 34; refine (SA.out _ S0.out).mono ?_; rintro e w2 ⟨rfl, b2⟩))
            have F2 : Hid (Below w.heap.size w w2) := below_trans (by rw [HQ.out]; exact D0.out.2.2.2) (below_trans HB.out b2)
            clear CX SA HB S0 b2 y0 y3 q0
            go_wp2_with fail
            go_ret
            exact ⟨rfl, F2.out⟩
          · have kbt : decide (o.bs = x.bs) = false := decide_eq_false kb
            rw [kbt] at SA
            have NB : Hid (¬ o.bs = x.bs) := kb
            have e1 : (o.kind == 3) = true := by simp [k3]
            have e2 : (x.id == x.id) = true := by simp
            rw [ki] at CX y3
            clear k3 ki kb kbt
            obtain ⟨kd, hkd⟩ : ∃ kd, o.kind = kd := ⟨_, rfl⟩
            rw [hkd] at CX y0 e1
            clear hkd
            go_upto_region 4 with fail
            go_region_held3 (fun w' => Below wr.heap.size wr w' ∧ w'.cell? ⟨g, off + k * 6, none⟩ = some (.int .i64 kd) ∧ w'.cell? ⟨g, off + k * 6 + 3, none⟩ = some (.int .i64 x.id) ∧ w'.cell? ⟨g, off + k * 6 + 5, none⟩ = some (.slice o.xa o.xn o.xc) ∧ w'.cell? ⟨Q, 0, none⟩ = some (.int .i64 x.id) ∧ w'.cell? ⟨Q, 2, none⟩ = some (.slice x.ba x.bn x.bc)) (first | assumption | exact ⟨S0.out, (CX.out _ S0.out).2.1, (CX.out _ S0.out).2.2.1, (CX.out _ S0.out).2.2.2.1, (CX.out _ S0.out).2.2.2.2.1, (CX.out _ S0.out).2.2.2.2.2.1⟩ | exact ⟨b2, (CX.out _ b2).2.1, (CX.out _ b2).2.2.1, (CX.out _ b2).2.2.2.1, (CX.out _ b2).2.2.2.2.1, (CX.out _ b2).2.2.2.2.2.1⟩) (first
              | (go_at_call 34; refine (SA.out _ S0.out).mono ?_; rintro e w2 ⟨rfl, b2⟩))
            have F2 : Hid (Below w1.heap.size w1 w2) := below_trans HB.out b2
            clear CX SA HB S0 b2 y0 y3 q0
            go_wp2_with fail
            go_roundw
            case rel =>
              refine ⟨k + 1, by go_num, by omega, F2.out, fun j o' hj hj' => ?_⟩
              by_cases e : j = k
              · subst e
                rw [HO.out] at hj'
                injection hj' with hj'
                rw [← hj']
                exact fun q => NB.out q.2.2
              · exact NO.out j o' (by omega) hj'
            case measure => simp [intOf]; omega
        · have e1 : (o.kind == 3) = true := by simp [k3]
          have e2 : (o.id == x.id) = false := by simp [ki]
          have NB : Hid (¬ o.id = x.id) := ki
          clear k3 ki
          obtain ⟨kd, hkd⟩ : ∃ kd, o.kind = kd := ⟨_, rfl⟩
          obtain ⟨od, hod⟩ : ∃ od, o.id = od := ⟨_, rfl⟩
          rw [hkd] at y0 e1
          rw [hod] at y3 e2
          clear hkd hod CX SA
          go_upto_region 4 with fail
          go_quiet (fail)
          have F2 : Hid (Below w1.heap.size w1 (wr.drewN nq)) := below_drewN HB.out nq
          go_wp2_with fail
          go_roundw
          case rel =>
            refine ⟨k + 1, by go_num, by omega, F2.out, fun j o' hj hj' => ?_⟩
            by_cases e : j = k
            · subst e
              rw [HO.out] at hj'
              injection hj' with hj'
              rw [← hj']
              exact fun q => NB.out q.2.1
            · exact NO.out j o' (by omega) hj'
          case measure => simp [intOf]; omega
      · have e1 : (o.kind == 3) = false := by simp [k3]
        have NB : Hid (¬ o.kind = 3) := k3
        clear k3
        obtain ⟨kd, hkd⟩ : ∃ kd, o.kind = kd := ⟨_, rfl⟩
        rw [hkd] at y0 e1
        clear hkd CX SA
        go_upto_region 4 with fail
        go_quiet (fail)
        have F2 : Hid (Below w1.heap.size w1 (wr.drewN nq)) := below_drewN HB.out nq
        go_wp2_with fail
        go_roundw
        case rel =>
          refine ⟨k + 1, by go_num, by omega, F2.out, fun j o' hj hj' => ?_⟩
          by_cases e : j = k
          · subst e
            rw [HO.out] at hj'
            injection hj' with hj'
            rw [← hj']
            exact fun q => NB.out q.1
          · exact NO.out j o' (by omega) hj'
        case measure => simp [intOf]; omega
    · exfalso
      obtain ⟨j, o, h1, h2, h3⟩ := HS.out
      exact NO.out j o (by omega) h2 h3
end Go.Proofs.Ytblfolaakblcfaa
