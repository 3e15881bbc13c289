/-
  Ours: the walk of WaterfallFresh.
-/
import Derived.Test.YtplebplpachgiaaWatFr1
import Derived.Deep.CutRange
namespace Go.Proofs.Ytplebplpachgiaa
open Go.RowKit LedM WatM

namespace WatM
def one1 (x : Int) : Nat := if 0 < x then 1 else 0
def cn (f i p u r : Int) : Nat → Nat
  | 0 => 0
  | 1 => one1 f
  | 2 => one1 f + one1 i
  | 3 => one1 f + one1 i + one1 p
  | 4 => one1 f + one1 i + one1 p + one1 u
  | _ => one1 f + one1 i + one1 p + one1 u + one1 r
theorem ents_cn (f i p u r : Int) : (entsP f i p u r).length = cn f i p u r 5 := by
  unfold entsP crs cn one1
  simp only [cashE]
  repeat' split
  all_goals simp
end WatM

set_option maxRecDepth 20000 in
set_option maxHeartbeats 8000000 in
theorem fresh_any (f i p u r f' i' p' u' r' : Int) (w : World) :
    Calls Try.prog 4 #[.agg (bkL [f, i, p, u, r]).toArray, .agg (bkL [f', i', p', u', r']).toArray] w fun e w' => e = .returned (.bool true) ∧ Below w.heap.size w w' := by
  have EN : Hid (∀ w', Calls Try.prog 9 #[.agg (bkL [f, i, p, u, r]).toArray] w' fun e w2 => ∃ v, e = .returned v ∧ RowE w'.heap.size w2 v (entsP f i p u r) ∧ Below w'.heap.size w' w2) := fun w' => entries_at f i p u r w'
  have UN : Hid (∀ w', Calls Try.prog 10 #[.agg (bkL [f', i', p', u', r']).toArray] w' fun e w2 => ∃ v, e = .returned v ∧ RowE w'.heap.size w2 v (undoP f' i' p' u' r') ∧ Below w'.heap.size w' w2) := fun w' => undo_at f' i' p' u' r' w'
  have AK : Hid (∀ (es : List Ent) w' va vb, es.length ≤ 5 → RdE w' va es → RdE w' vb es → Calls Try.prog 11 #[va, vb] w' fun e w2 => e = .returned (.bool true) ∧ Below w'.heap.size w' w2) := fun es w' va vb hl h1 h2 => (alike9_yes _ va vb w' (by omega) h1 h2).mono fun e w2 ⟨a, n, b⟩ => ⟨a, by rw [b]; exact below_drewN (Below.refl _ _) n⟩
  have L1 : (entsP f i p u r).length ≤ 5 := entsP_len f i p u r
  have L2 : (undoP f' i' p' u' r').length ≤ 5 := by unfold undoP; rw [List.length_map]; exact entsP_len ..
  have CN : Hid ((entsP f i p u r).length = cn f i p u r 5) := ents_cn f i p u r
  have S0 : Hid (FrS w (bkL [f, i, p, u, r]) (bkL [f', i', p', u', r']) [] ((w.alloc (.cells (bkL [f, i, p, u, r]).toArray 23)).alloc (.cells (bkL [f', i', p', u', r']).toArray 23))) := ⟨(below_alloc w _).alloc (by simp) _, (Blk.new _ _ w).old _, Blk.new2 _ _ w _, (fun q hq => by cases hq), (fun _ _ _ _ _ h => by cases h)⟩
  have IP : Hid (∀ x0 x1 x2 x3 x4 : Int, (Try.prog.info? 23).map (·.size) = some (bkL [x0, x1, x2, x3, x4]).length) := fun _ _ _ _ _ => infoP
  generalize entsP f i p u r = E at *
  generalize undoP f' i' p' u' r' = U at *
  go_enter Try.func4, Try.ntmps4
  go_wp2_with (refine step_load rfl 23 _ rfl w.heap.size 0 rfl (bkL [f, i, p, u, r]) _ S0.out.ba.all Try.underlying23 rfl (IP.out ..) ?_)
  refine (EN.out _).mono ?_
  rintro e w1 ⟨v1, rfl, r1, b1⟩
  have S1 : Hid (FrS w (bkL [f, i, p, u, r]) (bkL [f', i', p', u', r']) [(_, _, v1, E)] w1) := S0.out.row r1 b1
  clear S0 r1 b1
  go_wp2_with (refine step_load rfl 23 _ rfl (w.heap.size + 1) 0 rfl (bkL [f', i', p', u', r']) _ S1.out.b2.all Try.underlying23 rfl (IP.out ..) ?_)
  refine (UN.out _).mono ?_
  rintro e w2 ⟨v2, rfl, r2, b2⟩
  have S2 : Hid (FrS w (bkL [f, i, p, u, r]) (bkL [f', i', p', u', r']) [(_, _, v2, U), (_, _, v1, E)] w2) := S1.out.row r2 b2
  clear S1 r2 b2
  go_wp2_with (refine step_load rfl 23 _ rfl w.heap.size 0 rfl (bkL [f, i, p, u, r]) _ S2.out.ba.all Try.underlying23 rfl (IP.out ..) ?_)
  refine (EN.out _).mono ?_
  rintro e w3 ⟨v3, rfl, r3, b3⟩
  have S3 : Hid (FrS w (bkL [f, i, p, u, r]) (bkL [f', i', p', u', r']) [(_, _, v3, E), (_, _, v2, U), (_, _, v1, E)] w3) := S2.out.row r3 b3
  clear S2 r3 b3
  go_wp2_with (refine step_load rfl 23 _ rfl (w.heap.size + 1) 0 rfl (bkL [f', i', p', u', r']) _ S3.out.b2.all Try.underlying23 rfl (IP.out ..) ?_)
  refine (UN.out _).mono ?_
  rintro e w4 ⟨v4, rfl, r4, b4⟩
  have S4 : Hid (FrS w (bkL [f, i, p, u, r]) (bkL [f', i', p', u', r']) [(_, _, v4, U), (_, _, v3, E), (_, _, v2, U), (_, _, v1, E)] w4) := S3.out.row r4 b4
  clear S3 r4 b4 UN
  have C0 : Hid (cn f i p u r 0 = 0) := rfl
  have c0 := S4.out.ba.cell 0 _ rfl
  have c1 := S4.out.ba.cell 1 _ rfl
  have c2 := S4.out.ba.cell 2 _ rfl
  have c3 := S4.out.ba.cell 3 _ rfl
  have c4 := S4.out.ba.cell 4 _ rfl
  go_upto_if 27 with fail
  go_cut [9] from 25 to 29 (fun v9 wx => v9 = .int .i64 (cn f i p u r 1 : Int) ∧ wx = w4)
  case first =>
    by_cases hx : 0 < f
    · have hd : decide (0 < f) = true := decide_eq_true hx
      rw [hd]
      have E1 : Hid (cn f i p u r 1 = 1) := by show _ = _; simp [cn, one1, hx]
      go_wp2_with fail
      go_meet
      exact ⟨by rw [E1.out]; rfl, rfl⟩
    · have hd : decide (0 < f) = false := decide_eq_false hx
      rw [hd]
      have E1 : Hid (cn f i p u r 1 = 0) := by show _ = _; simp [cn, one1, hx]
      go_wp2_with fail
      go_meet
      exact ⟨by rw [E1.out]; rfl, rfl⟩
  case rest =>
  obtain ⟨rfl, hwc⟩ := hcut
  have hwc := hwc.symm
  subst hwc
  go_upto_if 32 with fail
  go_cut [9] from 30 to 34 (fun v9 wx => v9 = .int .i64 (cn f i p u r 2 : Int) ∧ wx = w4)
  case first =>
    by_cases hx : 0 < i
    · have hd : decide (0 < i) = true := decide_eq_true hx
      rw [hd]
      have e1 : cn f i p u r 2 = cn f i p u r 1 + 1 := by simp [cn, one1, hx]
      have b1 : cn f i p u r 1 ≤ 5 := by simp only [cn, one1]; (repeat' split) <;> omega
      have E1 : Hid (_ = _) := e1
      clear e1
      generalize cn f i p u r 1 = m at *
      go_wp2_with fail
      go_meet
      exact ⟨by rw [E1.out]; rfl, rfl⟩
    · have hd : decide (0 < i) = false := decide_eq_false hx
      rw [hd]
      have e1 : cn f i p u r 2 = cn f i p u r 1 := by simp [cn, one1, hx]
      have E1 : Hid (_ = _) := e1
      clear e1
      go_wp2_with fail
      go_meet
      exact ⟨by rw [E1.out], rfl⟩
  case rest =>
  obtain ⟨rfl, hwc⟩ := hcut
  have hwc := hwc.symm
  subst hwc
  go_upto_if 37 with fail
  go_cut [9] from 35 to 39 (fun v9 wx => v9 = .int .i64 (cn f i p u r 3 : Int) ∧ wx = w4)
  case first =>
    by_cases hx : 0 < p
    · have hd : decide (0 < p) = true := decide_eq_true hx
      rw [hd]
      have e1 : cn f i p u r 3 = cn f i p u r 2 + 1 := by simp [cn, one1, hx]
      have b1 : cn f i p u r 2 ≤ 5 := by simp only [cn, one1]; (repeat' split) <;> omega
      have E1 : Hid (_ = _) := e1
      clear e1
      generalize cn f i p u r 2 = m at *
      go_wp2_with fail
      go_meet
      exact ⟨by rw [E1.out]; rfl, rfl⟩
    · have hd : decide (0 < p) = false := decide_eq_false hx
      rw [hd]
      have e1 : cn f i p u r 3 = cn f i p u r 2 := by simp [cn, one1, hx]
      have E1 : Hid (_ = _) := e1
      clear e1
      go_wp2_with fail
      go_meet
      exact ⟨by rw [E1.out], rfl⟩
  case rest =>
  obtain ⟨rfl, hwc⟩ := hcut
  have hwc := hwc.symm
  subst hwc
  go_upto_if 42 with fail
  go_cut [9] from 40 to 44 (fun v9 wx => v9 = .int .i64 (cn f i p u r 4 : Int) ∧ wx = w4)
  case first =>
    by_cases hx : 0 < u
    · have hd : decide (0 < u) = true := decide_eq_true hx
      rw [hd]
      have e1 : cn f i p u r 4 = cn f i p u r 3 + 1 := by simp [cn, one1, hx]
      have b1 : cn f i p u r 3 ≤ 5 := by simp only [cn, one1]; (repeat' split) <;> omega
      have E1 : Hid (_ = _) := e1
      clear e1
      generalize cn f i p u r 3 = m at *
      go_wp2_with fail
      go_meet
      exact ⟨by rw [E1.out]; rfl, rfl⟩
    · have hd : decide (0 < u) = false := decide_eq_false hx
      rw [hd]
      have e1 : cn f i p u r 4 = cn f i p u r 3 := by simp [cn, one1, hx]
      have E1 : Hid (_ = _) := e1
      clear e1
      go_wp2_with fail
      go_meet
      exact ⟨by rw [E1.out], rfl⟩
  case rest =>
  obtain ⟨rfl, hwc⟩ := hcut
  have hwc := hwc.symm
  subst hwc
  go_upto_if 47 with fail
  go_cut [9] from 45 to 49 (fun v9 wx => v9 = .int .i64 (cn f i p u r 5 : Int) ∧ wx = w4)
  case first =>
    by_cases hx : 0 < r
    · have hd : decide (0 < r) = true := decide_eq_true hx
      rw [hd]
      have e1 : cn f i p u r 5 = cn f i p u r 4 + 1 := by simp [cn, one1, hx]
      have b1 : cn f i p u r 4 ≤ 5 := by simp only [cn, one1]; (repeat' split) <;> omega
      have E1 : Hid (_ = _) := e1
      clear e1
      generalize cn f i p u r 4 = m at *
      go_wp2_with fail
      go_meet
      exact ⟨by rw [E1.out]; rfl, rfl⟩
    · have hd : decide (0 < r) = false := decide_eq_false hx
      rw [hd]
      have e1 : cn f i p u r 5 = cn f i p u r 4 := by simp [cn, one1, hx]
      have E1 : Hid (_ = _) := e1
      clear e1
      go_wp2_with fail
      go_meet
      exact ⟨by rw [E1.out], rfl⟩
  case rest =>
  obtain ⟨rfl, hwc⟩ := hcut
  have hwc := hwc.symm
  subst hwc
  rw [← CN.out]
  clear CN c0 c1 c2 c3 c4
  obtain ⟨a1, k1, e1, -, -, -⟩ := (S4.out.at 3 rfl).row.rd
  obtain ⟨a2, k2, e2, -, -, -⟩ := (S4.out.at 2 rfl).row.rd
  obtain ⟨a3, k3, e3, -, -, -⟩ := (S4.out.at 1 rfl).row.rd
  obtain ⟨a4, k4, e4, -, -, -⟩ := (S4.out.at 0 rfl).row.rd
  have e1 : v1 = .slice a1 E.length k1 := e1
  have e2 : v2 = .slice a2 U.length k2 := e2
  have e3 : v3 = .slice a3 E.length k3 := e3
  have e4 : v4 = .slice a4 U.length k4 := e4
  subst e1 e2 e3 e4
  have en : ((E.length : Int) != (E.length : Int)) = false := by simp
  go_wp2_with fail
  refine (AK.out U _ _ _ L2 (S4.out.at 2 rfl).row.rd (S4.out.at 0 rfl).row.rd).mono ?_
  rintro e w5 ⟨rfl, b5⟩
  have S5 : Hid (FrS w _ _ _ w5) := S4.out.call b5
  clear S4 b5
  go_wp2_with (first
    | (at_builtin; refine wpList_catE rfl (.tmp 66) (.tmp 67) rfl w5.heap.size (.slice (some ⟨w5.heap.size, 0, none⟩) 0 0) (.slice a1 E.length k1) [] E rfl (RowE.of_blk (es := []) (Blk.new 35 [] w5) (Nat.le_refl _) (by simp)) (by simp) rfl ((S5.out.at 3 rfl).row.rd.later (below_alloc w5 _)) (by simp; omega) ?_; intro vK w6 r6 g6; have S6 : Hid (FrS w _ _ (_ :: _) w6) := S5.out.row (v := vK) (es := E) (by simpa using r6) ((below_alloc w5 _).grown g6 (by simp) (fun g e => by cases e; exact Nat.le_refl _)); clear r6 g6 S5)
    | (at_builtin; refine wpList_catE rfl (.tmp 69) (.tmp 70) rfl w6.heap.size (.slice (some ⟨w6.heap.size, 0, none⟩) 0 0) (.slice a2 U.length k2) [] U rfl (RowE.of_blk (es := []) (Blk.new 35 [] w6) (Nat.le_refl _) (by simp)) (by simp) rfl ((S6.out.at 3 rfl).row.rd.later (below_alloc w6 _)) (by simp; omega) ?_; intro vO w7 r7 g7; have S7 : Hid (FrS w _ _ (_ :: _) w7) := S6.out.row (v := vO) (es := U) (by simpa using r7) ((below_alloc w6 _).grown g7 (by simp) (fun g e => by cases e; exact Nat.le_refl _)); clear r7 g7 S6))
  obtain ⟨l1, h1, l2, h2, l3, h3, l4, h4, l5, h5, l6, h6, S8⟩ : ∃ l1 h1 l2 h2 l3 h3 l4 h4 l5 h5 l6 h6, Hid (FrS w (bkL [f, i, p, u, r]) (bkL [f', i', p', u', r']) [(l6, h6, vO, U), (l5, h5, vK, E), (l4, h4, .slice a4 U.length k4, U), (l3, h3, .slice a3 E.length k3, E), (l2, h2, .slice a2 U.length k2, U), (l1, h1, .slice a1 E.length k1, E)] w7) := ⟨_, _, _, _, _, _, _, _, _, _, _, _, S7⟩
  clear S7
  go_loopw [12] (fun vk wr => ∃ k : Nat, vk = .int .i64 (k : Int) ∧ k ≤ E.length ∧ FrS w (bkL [f, i, p, u, r]) (bkL [f', i', p', u', r']) [(l6, h6, vO, U), (l5, h5, vK, E), (l4, h4, .slice a4 U.length k4, U), (l3, h3, .slice a3 E.length k3, E), (l2, h2, .slice a2 U.length k2, U), (l1, h1, .slice a1 E.length k1, filE E ⟨-1, -2, -3⟩ k)] wr) (fun vk _ => E.length - (intOf vk).toNat)
  case atStart => exact ⟨0, rfl, by omega, S8.out⟩
  case round =>
    clear S8
    obtain ⟨k, rfl, hk, ss⟩ := hrel
    have SS : Hid (FrS w (bkL [f, i, p, u, r]) (bkL [f', i', p', u', r']) [(l6, h6, vO, U), (l5, h5, vK, E), (l4, h4, .slice a4 U.length k4, U), (l3, h3, .slice a3 E.length k3, E), (l2, h2, .slice a2 U.length k2, U), (l1, h1, .slice a1 E.length k1, filE E ⟨-1, -2, -3⟩ k)] wr) := ss
    clear ss
    by_cases hlt : (k : Int) < (E.length : Int)
    · have hkl : k < E.length := by omega
      have fl := filE_len E ⟨-1, -2, -3⟩ k (by omega)
      obtain ⟨g, cap, zs, ev, nb, zl, put⟩ := RowE.put (SS.out.at 5 rfl).row (k := k) (by simp only; omega)
      injection ev with ev1 ev2 ev3
      subst ev1
      clear ev2 ev3
      have NB : Hid (Blk g 35 zs wr ∧ k * 3 + 3 ≤ zs.length) := ⟨nb, zl⟩
      have PT : Hid (∀ w', Blk g 35 (zs.take (k * 3) ++ entL ⟨-1, -2, -3⟩ ++ zs.drop (k * 3 + 3)) w' → wr.grownBy w' (some g) → FrS w (bkL [f, i, p, u, r]) (bkL [f', i', p', u', r']) [(l6, h6, vO, U), (l5, h5, vK, E), (l4, h4, .slice a4 U.length k4, U), (l3, h3, .slice a3 E.length k3, E), (l2, h2, .slice a2 U.length k2, U), (l1, h1, .slice (some ⟨g, 0, none⟩) E.length k1, filE E ⟨-1, -2, -3⟩ (k + 1))] w') := fun w' hb gg => by
        have h := put w' ⟨-1, -2, -3⟩ hb
        simp only [filE_set hkl] at h
        exact SS.out.set 5 rfl h gg
      clear nb zl put fl hkl
      go_wp2_with (refine step_store rfl 35 _ _ rfl g (k * 3) 35 zs (entL ⟨-1, -2, -3⟩) rfl rfl NB.out.1 NB.out.2 (infoE ⟨-1, -2, -3⟩) (oneE ⟨-1, -2, -3⟩) ?_; intro w9 nb9 g9)
      go_roundw
      case rel => exact ⟨k + 1, by go_num, by omega, PT.out _ nb9 g9⟩
      case measure => simp [intOf]; omega
    · have hke : k = E.length := by omega
      subst hke
      have SSE : Hid (FrS w (bkL [f, i, p, u, r]) (bkL [f', i', p', u', r']) [(l6, h6, vO, U), (l5, h5, vK, E), (l4, h4, .slice a4 U.length k4, U), (l3, h3, .slice a3 E.length k3, E), (l2, h2, .slice a2 U.length k2, U), (l1, h1, .slice a1 E.length k1, List.replicate E.length ⟨-1, -2, -3⟩)] wr) := by
        have h := SS.out
        rw [filE_all] at h
        exact h
      clear SS
      obtain ⟨w8, hwr⟩ : ∃ y, y = wr := ⟨_, rfl⟩
      subst hwr
      have S9 := SSE
      clear SSE
      go_wp2_with fail
      go_loopw [13] (fun vk wr => ∃ k : Nat, vk = .int .i64 (k : Int) ∧ k ≤ E.length ∧ FrS w (bkL [f, i, p, u, r]) (bkL [f', i', p', u', r']) [(l6, h6, vO, U), (l5, h5, vK, E), (l4, h4, .slice a4 U.length k4, U), (l3, h3, .slice a3 E.length k3, filE E ⟨-5, -6, -7⟩ k), (l2, h2, .slice a2 U.length k2, U), (l1, h1, .slice a1 E.length k1, List.replicate E.length ⟨-1, -2, -3⟩)] wr) (fun vk _ => E.length - (intOf vk).toNat)
      case atStart => exact ⟨0, rfl, by omega, S9.out⟩
      case round =>
        clear S9
        obtain ⟨k, rfl, hk, ss⟩ := hrel
        have SS : Hid (FrS w (bkL [f, i, p, u, r]) (bkL [f', i', p', u', r']) [(l6, h6, vO, U), (l5, h5, vK, E), (l4, h4, .slice a4 U.length k4, U), (l3, h3, .slice a3 E.length k3, filE E ⟨-5, -6, -7⟩ k), (l2, h2, .slice a2 U.length k2, U), (l1, h1, .slice a1 E.length k1, List.replicate E.length ⟨-1, -2, -3⟩)] wr) := ss
        clear ss
        by_cases hlt : (k : Int) < (E.length : Int)
        · have hkl : k < E.length := by omega
          have fl := filE_len E ⟨-5, -6, -7⟩ k (by omega)
          obtain ⟨g, cap, zs, ev, nb, zl, put⟩ := RowE.put (SS.out.at 3 rfl).row (k := k) (by simp only; omega)
          injection ev with ev1 ev2 ev3
          subst ev1
          clear ev2 ev3
          have NB : Hid (Blk g 35 zs wr ∧ k * 3 + 3 ≤ zs.length) := ⟨nb, zl⟩
          have PT : Hid (∀ w', Blk g 35 (zs.take (k * 3) ++ entL ⟨-5, -6, -7⟩ ++ zs.drop (k * 3 + 3)) w' → wr.grownBy w' (some g) → FrS w (bkL [f, i, p, u, r]) (bkL [f', i', p', u', r']) [(l6, h6, vO, U), (l5, h5, vK, E), (l4, h4, .slice a4 U.length k4, U), (l3, h3, .slice (some ⟨g, 0, none⟩) E.length k3, filE E ⟨-5, -6, -7⟩ (k + 1)), (l2, h2, .slice a2 U.length k2, U), (l1, h1, .slice a1 E.length k1, List.replicate E.length ⟨-1, -2, -3⟩)] w') := fun w' hb gg => by
            have h := put w' ⟨-5, -6, -7⟩ hb
            simp only [filE_set hkl] at h
            exact SS.out.set 3 rfl h gg
          clear nb zl put fl hkl
          go_wp2_with (refine step_store rfl 35 _ _ rfl g (k * 3) 35 zs (entL ⟨-5, -6, -7⟩) rfl rfl NB.out.1 NB.out.2 (infoE ⟨-5, -6, -7⟩) (oneE ⟨-5, -6, -7⟩) ?_; intro w9 nb9 g9)
          go_roundw
          case rel => exact ⟨k + 1, by go_num, by omega, PT.out _ nb9 g9⟩
          case measure => simp [intOf]; omega
        · have hke : k = E.length := by omega
          subst hke
          have SSE : Hid (FrS w (bkL [f, i, p, u, r]) (bkL [f', i', p', u', r']) [(l6, h6, vO, U), (l5, h5, vK, E), (l4, h4, .slice a4 U.length k4, U), (l3, h3, .slice a3 E.length k3, List.replicate E.length ⟨-5, -6, -7⟩), (l2, h2, .slice a2 U.length k2, U), (l1, h1, .slice a1 E.length k1, List.replicate E.length ⟨-1, -2, -3⟩)] wr) := by
            have h := SS.out
            rw [filE_all] at h
            exact h
          clear SS
          obtain ⟨w9x, hwr⟩ : ∃ y, y = wr := ⟨_, rfl⟩
          subst hwr
          have S10 := SSE
          clear SSE
          go_wp2_with fail
          go_loopw [14] (fun vk wr => ∃ k : Nat, vk = .int .i64 (k : Int) ∧ k ≤ U.length ∧ FrS w (bkL [f, i, p, u, r]) (bkL [f', i', p', u', r']) [(l6, h6, vO, U), (l5, h5, vK, E), (l4, h4, .slice a4 U.length k4, filE U ⟨-8, -9, -10⟩ k), (l3, h3, .slice a3 E.length k3, List.replicate E.length ⟨-5, -6, -7⟩), (l2, h2, .slice a2 U.length k2, U), (l1, h1, .slice a1 E.length k1, List.replicate E.length ⟨-1, -2, -3⟩)] wr) (fun vk _ => U.length - (intOf vk).toNat)
          case atStart => exact ⟨0, rfl, by omega, S10.out⟩
          case round =>
            clear S10
            obtain ⟨k, rfl, hk, ss⟩ := hrel
            have SS : Hid (FrS w (bkL [f, i, p, u, r]) (bkL [f', i', p', u', r']) [(l6, h6, vO, U), (l5, h5, vK, E), (l4, h4, .slice a4 U.length k4, filE U ⟨-8, -9, -10⟩ k), (l3, h3, .slice a3 E.length k3, List.replicate E.length ⟨-5, -6, -7⟩), (l2, h2, .slice a2 U.length k2, U), (l1, h1, .slice a1 E.length k1, List.replicate E.length ⟨-1, -2, -3⟩)] wr) := ss
            clear ss
            by_cases hlt : (k : Int) < (U.length : Int)
            · have hkl : k < U.length := by omega
              have fl := filE_len U ⟨-8, -9, -10⟩ k (by omega)
              obtain ⟨g, cap, zs, ev, nb, zl, put⟩ := RowE.put (SS.out.at 2 rfl).row (k := k) (by simp only; omega)
              injection ev with ev1 ev2 ev3
              subst ev1
              clear ev2 ev3
              have NB : Hid (Blk g 35 zs wr ∧ k * 3 + 3 ≤ zs.length) := ⟨nb, zl⟩
              have PT : Hid (∀ w', Blk g 35 (zs.take (k * 3) ++ entL ⟨-8, -9, -10⟩ ++ zs.drop (k * 3 + 3)) w' → wr.grownBy w' (some g) → FrS w (bkL [f, i, p, u, r]) (bkL [f', i', p', u', r']) [(l6, h6, vO, U), (l5, h5, vK, E), (l4, h4, .slice (some ⟨g, 0, none⟩) U.length k4, filE U ⟨-8, -9, -10⟩ (k + 1)), (l3, h3, .slice a3 E.length k3, List.replicate E.length ⟨-5, -6, -7⟩), (l2, h2, .slice a2 U.length k2, U), (l1, h1, .slice a1 E.length k1, List.replicate E.length ⟨-1, -2, -3⟩)] w') := fun w' hb gg => by
                have h := put w' ⟨-8, -9, -10⟩ hb
                simp only [filE_set hkl] at h
                exact SS.out.set 2 rfl h gg
              clear nb zl put fl hkl
              go_wp2_with (refine step_store rfl 35 _ _ rfl g (k * 3) 35 zs (entL ⟨-8, -9, -10⟩) rfl rfl NB.out.1 NB.out.2 (infoE ⟨-8, -9, -10⟩) (oneE ⟨-8, -9, -10⟩) ?_; intro w9 nb9 g9)
              go_roundw
              case rel => exact ⟨k + 1, by go_num, by omega, PT.out _ nb9 g9⟩
              case measure => simp [intOf]; omega
            · have hke : k = U.length := by omega
              subst hke
              have SSE : Hid (FrS w (bkL [f, i, p, u, r]) (bkL [f', i', p', u', r']) [(l6, h6, vO, U), (l5, h5, vK, E), (l4, h4, .slice a4 U.length k4, List.replicate U.length ⟨-8, -9, -10⟩), (l3, h3, .slice a3 E.length k3, List.replicate E.length ⟨-5, -6, -7⟩), (l2, h2, .slice a2 U.length k2, U), (l1, h1, .slice a1 E.length k1, List.replicate E.length ⟨-1, -2, -3⟩)] wr) := by
                have h := SS.out
                rw [filE_all] at h
                exact h
              clear SS
              obtain ⟨w10, hwr⟩ : ∃ y, y = wr := ⟨_, rfl⟩
              subst hwr
              have S11 := SSE
              clear SSE
              go_wp2_with fail
              refine (AK.out U _ _ _ L2 (S11.out.at 4 rfl).row.rd (S11.out.at 0 rfl).row.rd).mono ?_
              rintro e w12 ⟨rfl, b12⟩
              have S12 : Hid (FrS w (bkL [f, i, p, u, r]) (bkL [f', i', p', u', r']) [(l6, h6, vO, U), (l5, h5, vK, E), (l4, h4, .slice a4 U.length k4, List.replicate U.length ⟨-8, -9, -10⟩), (l3, h3, .slice a3 E.length k3, List.replicate E.length ⟨-5, -6, -7⟩), (l2, h2, .slice a2 U.length k2, U), (l1, h1, .slice a1 E.length k1, List.replicate E.length ⟨-1, -2, -3⟩)] w12) := S11.out.call b12
              clear S11 b12
              go_wp2_with fail
              have b := S12.out.bd 5 rfl
              have b : l1 ≤ h1 ∧ h1 ≤ _ := ⟨b.2.1, b.2.2⟩
              refine (goneOn_at l1 h1 _ (List.replicate E.length ⟨-1, -2, -3⟩) (-4) _ (S12.out.at 5 rfl) b.2 (by omega) (by rw [List.length_replicate]; exact L1)).mono ?_
              rintro e w13 ⟨rfl, rr, gg⟩
              have S13 : Hid (FrS w (bkL [f, i, p, u, r]) (bkL [f', i', p', u', r']) [(l6, h6, vO, U), (l5, h5, vK, E), (l4, h4, .slice a4 U.length k4, List.replicate U.length ⟨-8, -9, -10⟩), (l3, h3, .slice a3 E.length k3, List.replicate E.length ⟨-5, -6, -7⟩), (l2, h2, .slice a2 U.length k2, U), (l1, h1, .slice a1 E.length k1, List.replicate E.length ⟨-1, -2, -3⟩)] w13) := S12.out.set 5 rfl rr.row gg
              clear S12 rr gg b
              go_wp2_with fail
              have b := S13.out.bd 3 rfl
              have b : l3 ≤ h3 ∧ h3 ≤ _ := ⟨b.2.1, b.2.2⟩
              refine (goneOn_at l3 h3 _ (List.replicate E.length ⟨-5, -6, -7⟩) (-8) _ (S13.out.at 3 rfl) b.2 (by omega) (by rw [List.length_replicate]; exact L1)).mono ?_
              rintro e w14 ⟨rfl, rr, gg⟩
              have S14 : Hid (FrS w (bkL [f, i, p, u, r]) (bkL [f', i', p', u', r']) [(l6, h6, vO, U), (l5, h5, vK, E), (l4, h4, .slice a4 U.length k4, List.replicate U.length ⟨-8, -9, -10⟩), (l3, h3, .slice a3 E.length k3, List.replicate E.length ⟨-5, -6, -7⟩), (l2, h2, .slice a2 U.length k2, U), (l1, h1, .slice a1 E.length k1, List.replicate E.length ⟨-1, -2, -3⟩)] w14) := S13.out.set 3 rfl rr.row gg
              clear S13 rr gg b
              go_wp2_with fail
              have b := S14.out.bd 4 rfl
              have b : l2 ≤ h2 ∧ h2 ≤ _ := ⟨b.2.1, b.2.2⟩
              refine (goneOn_at l2 h2 _ (U) (-9) _ (S14.out.at 4 rfl) b.2 (by omega) (L2)).mono ?_
              rintro e w15 ⟨rfl, rr, gg⟩
              have S15 : Hid (FrS w (bkL [f, i, p, u, r]) (bkL [f', i', p', u', r']) [(l6, h6, vO, U), (l5, h5, vK, E), (l4, h4, .slice a4 U.length k4, List.replicate U.length ⟨-8, -9, -10⟩), (l3, h3, .slice a3 E.length k3, List.replicate E.length ⟨-5, -6, -7⟩), (l2, h2, .slice a2 U.length k2, U), (l1, h1, .slice a1 E.length k1, List.replicate E.length ⟨-1, -2, -3⟩)] w15) := S14.out.set 4 rfl rr.row gg
              clear S14 rr gg b
              go_wp2_with fail
              have b := S15.out.bd 2 rfl
              have b : l4 ≤ h4 ∧ h4 ≤ _ := ⟨b.2.1, b.2.2⟩
              refine (goneOn_at l4 h4 _ (List.replicate U.length ⟨-8, -9, -10⟩) (-11) _ (S15.out.at 2 rfl) b.2 (by omega) (by rw [List.length_replicate]; exact L2)).mono ?_
              rintro e w16 ⟨rfl, rr, gg⟩
              have S16 : Hid (FrS w (bkL [f, i, p, u, r]) (bkL [f', i', p', u', r']) [(l6, h6, vO, U), (l5, h5, vK, E), (l4, h4, .slice a4 U.length k4, List.replicate U.length ⟨-8, -9, -10⟩), (l3, h3, .slice a3 E.length k3, List.replicate E.length ⟨-5, -6, -7⟩), (l2, h2, .slice a2 U.length k2, U), (l1, h1, .slice a1 E.length k1, List.replicate E.length ⟨-1, -2, -3⟩)] w16) := S15.out.set 2 rfl rr.row gg
              clear S15 rr gg b
              go_wp2_with fail
              obtain ⟨aO, kO, eO, -, -, -⟩ := (S16.out.at 0 rfl).row.rd
              have eO : vO = .slice aO U.length kO := eO
              subst eO
              have CE : Hid (∀ k, k < U.length → (∃ g o, a2 = some ⟨g, o, none⟩ ∧ w16.rangeAt g (o + k * 3) (entL (eN U k))) ∧ (∃ g o, aO = some ⟨g, o, none⟩ ∧ w16.rangeAt g (o + k * 3) (entL (eN U k))) ∧ (∃ g o, a4 = some ⟨g, o, none⟩ ∧ w16.rangeAt g (o + k * 3) (entL ⟨-8, -9, -10⟩))) := fun k hk => by
                refine ⟨?_, ?_, ?_⟩
                · obtain ⟨ao, cp, e, _, _, H⟩ := (S16.out.at 4 rfl).row.rd
                  injection e with e1 _ _
                  obtain ⟨g, o, e, _, r⟩ := H k hk
                  exact ⟨g, o, e1.trans e, r⟩
                · obtain ⟨ao, cp, e, _, _, H⟩ := (S16.out.at 0 rfl).row.rd
                  injection e with e1 _ _
                  obtain ⟨g, o, e, _, r⟩ := H k hk
                  exact ⟨g, o, e1.trans e, r⟩
                · obtain ⟨ao, cp, e, _, _, H⟩ := (S16.out.at 2 rfl).row.rd
                  injection e with e1 _ _
                  obtain ⟨g, o, e, _, r⟩ := H k (by simpa using hk)
                  rw [eN_rep hk] at r
                  exact ⟨g, o, e1.trans e, r⟩
              have CF : Hid (∀ k, k < E.length → (∃ g o, a1 = some ⟨g, o, none⟩ ∧ w16.rangeAt g (o + k * 3) (entL ⟨-1, -2, -3⟩)) ∧ (∃ g o, a3 = some ⟨g, o, none⟩ ∧ w16.rangeAt g (o + k * 3) (entL ⟨-5, -6, -7⟩))) := fun k hk => by
                refine ⟨?_, ?_⟩
                · obtain ⟨ao, cp, e, _, _, H⟩ := (S16.out.at 5 rfl).row.rd
                  injection e with e1 _ _
                  obtain ⟨g, o, e, _, r⟩ := H k (by simpa using hk)
                  rw [eN_rep hk] at r
                  exact ⟨g, o, e1.trans e, r⟩
                · obtain ⟨ao, cp, e, _, _, H⟩ := (S16.out.at 3 rfl).row.rd
                  injection e with e1 _ _
                  obtain ⟨g, o, e, _, r⟩ := H k (by simpa using hk)
                  rw [eN_rep hk] at r
                  exact ⟨g, o, e1.trans e, r⟩
              have EB : Hid (Blk w.heap.size 23 (bkL [f, i, p, u, r]) w16 ∧ Below w.heap.size w w16 ∧ RdE w16 vK E) := ⟨S16.out.ba, S16.out.bb, (S16.out.at 1 rfl).row.rd⟩
              clear S16
              go_loopw [15] (fun vk wr => ∃ k m : Nat, vk = .int .i64 (k : Int) ∧ k ≤ U.length ∧ wr = w16.drewN m) (fun vk _ => U.length - (intOf vk).toNat)
              case atStart => exact ⟨0, 0, rfl, by omega, rfl⟩
              case round =>
                obtain ⟨k, m, rfl, hk, rfl⟩ := hrel
                by_cases hlt : (k : Int) < (U.length : Int)
                · obtain ⟨⟨g2, o2, rfl, r2⟩, ⟨gO, oO, rfl, rO⟩, ⟨g4, o4, rfl, r4⟩⟩ := CE.out k (by omega)
                  have x0 : w16.cell? ⟨g2, o2 + k * 3, none⟩ = some (.int .i64 (eN U k).d) := r2 0 _ rfl
                  have x1 : w16.cell? ⟨g2, o2 + k * 3 + 1, none⟩ = some (.int .i64 (eN U k).c) := r2 1 _ rfl
                  have x2 : w16.cell? ⟨g2, o2 + k * 3 + 2, none⟩ = some (.int .i64 (eN U k).a) := r2 2 _ rfl
                  have y0 : w16.cell? ⟨gO, oO + k * 3, none⟩ = some (.int .i64 (eN U k).d) := rO 0 _ rfl
                  have y1 : w16.cell? ⟨gO, oO + k * 3 + 1, none⟩ = some (.int .i64 (eN U k).c) := rO 1 _ rfl
                  have y2 : w16.cell? ⟨gO, oO + k * 3 + 2, none⟩ = some (.int .i64 (eN U k).a) := rO 2 _ rfl
                  have z2 := r4 2 _ rfl
                  clear CE CF r2 rO r4
                  generalize (eN U k).d = xd at *
                  generalize (eN U k).c = xc at *
                  generalize (eN U k).a = xa at *
                  have i0 : (0 : Int) ≤ (k : Int) := by omega
                  go_wp2_with fail
                  go_quiet (fail)
                  go_wp2_with fail
                  go_roundw
                  case rel => exact ⟨k + 1, m + nq, by go_num, by omega, by simp⟩
                  case measure => simp [intOf]; omega
                · obtain rfl : k = U.length := by omega
                  clear CE
                  go_wp2_with fail
                  go_loopw [16] (fun vk wr => ∃ k m : Nat, vk = .int .i64 (k : Int) ∧ k ≤ E.length ∧ wr = w16.drewN m) (fun vk _ => E.length - (intOf vk).toNat)
                  case atStart => exact ⟨0, m, rfl, by omega, rfl⟩
                  case round =>
                    obtain ⟨k, m, rfl, hk, rfl⟩ := hrel
                    by_cases hlt : (k : Int) < (E.length : Int)
                    · obtain ⟨⟨g1, o1, rfl, r1⟩, ⟨g3, o3, rfl, r3⟩⟩ := CF.out k (by omega)
                      have x2 := r1 2 _ rfl
                      have y2 := r3 2 _ rfl
                      clear CF r1 r3
                      have i0 : (0 : Int) ≤ (k : Int) := by omega
                      go_wp2_with fail
                      go_roundw
                      case rel => exact ⟨k + 1, m, by go_num, by omega, rfl⟩
                      case measure => simp [intOf]; omega
                    · obtain rfl : k = E.length := by omega
                      have BX : Hid (Blk w.heap.size 23 (bkL [f, i, p, u, r]) (w16.drewN m)) := EB.out.1.drewN m
                      clear CF
                      go_wp2_with (refine step_load rfl 23 _ rfl w.heap.size 0 rfl (bkL [f, i, p, u, r]) _ BX.out.all Try.underlying23 rfl (IP.out ..) ?_)
                      refine (EN.out _).mono ?_
                      rintro e w17 ⟨v17, rfl, r17, b17⟩
                      have K17 : Hid (RdE w17 v17 E ∧ RdE w17 vK E ∧ Below w.heap.size w w17) := ⟨r17.rd, (show RdE (w16.drewN m) vK E from EB.out.2.2).later b17, below_trans (below_drewN EB.out.2.1 m) b17⟩
                      clear r17 b17
                      go_wp2_with fail
                      refine (AK.out E _ _ _ L1 K17.out.1 K17.out.2.1).mono ?_
                      rintro e w18 ⟨rfl, b18⟩
                      have K18 : Hid (Below w.heap.size w w18) := below_trans K17.out.2.2 b18
                      clear b18 K17
                      go_wp2_with fail
                      go_ret
                      exact ⟨rfl, K18.out⟩
end Go.Proofs.Ytplebplpachgiaa
