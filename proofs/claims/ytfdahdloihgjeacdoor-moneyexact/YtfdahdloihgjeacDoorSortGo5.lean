/-
  Ours: slices.symMergeCmpFunc walked: all cases, by induction.
-/
import Derived.Test.YtfdahdloihgjeacDoorSortGo4
import Derived.Deep.DeepCutAuto
import Derived.Deep.CutBlock
namespace Go.Proofs.YtfdahdloihgjeacDoor
open Go.RowKit Stable

theorem sorted_congr {R : Nat → Int} {a b : Nat} {f f' : Nat → Nat} (h : Sorted R a b f) (e : ∀ i, a ≤ i → i < b → f' i = f i) : Sorted R a b f' := fun i j h1 h2 h3 => by
  rw [e i h1 (by omega), e j (by omega) h3]; exact h i j h1 h2 h3
theorem two_congr {R : Nat → Int} {a m b : Nat} {f f' : Nat → Nat} (h : Two R a m b f) (e : ∀ i, a ≤ i → i < b → f' i = f i) (_h1 : a ≤ m) (_h2 : m ≤ b) : Two R a m b f' :=
  ⟨sorted_congr h.left fun i h1 h2 => e i h1 (by omega), sorted_congr h.right fun i h1 h2 => e i (by omega) h2, fun p q p1 p2 q1 q2 => by rw [e p p1 (by omega), e q (by omega) q2]; exact h.cross p q p1 p2 q1 q2⟩

/-- What the merge promises, up to a length. -/
def MergeUpto (N g n bx gr o cap cap0 : Nat) (R : Nat → Int) : Prop := ∀ (a m b : Nat) (A M B : Int) (f : Nat → Nat) (w : World), A = (a : Int) → M = (m : Int) → B = (b : Int) → b - a ≤ N → Env g n bx gr o cap R w → Cells g n w f → a < m → m < b → b ≤ n → (∀ i, i < n → f i < n) → Two R a m b f →
    Calls Tryd.prog 82 #[.slice (some ⟨g, 0, none⟩) n cap0, .int .i64 A, .int .i64 M, .int .i64 B, clo bx] w fun e w' =>
      e = .returned (.tuple #[]) ∧ Only g w w' ∧ ∃ f', Cells g n w' f' ∧ Shuf a b f f' ∧ Sorted R a b f'

theorem rotate_at {g n cap0 a m b : Nat} {f : Nat → Nat} {w : World} (bx : Nat) (A M B : Int) (hA : A = (a : Int)) (hM : M = (m : Int)) (hB : B = (b : Int)) (hC : Cells g n w f) (ham : a < m) (hmb : m < b) (hbn : b ≤ n) (hn : n ≤ 1048576) :
    Calls Tryd.prog 93 #[.slice (some ⟨g, 0, none⟩) n cap0, .int .i64 A, .int .i64 M, .int .i64 B, clo bx] w fun e w' =>
      e = .returned (.tuple #[]) ∧ Only g w w' ∧ Cells g n w' (rot f a m b) := by
  subst hA hM hB; exact rotate_any bx hC ham hmb hbn hn

set_option maxRecDepth 100000 in
set_option maxHeartbeats 8000000 in
theorem symMerge_general {N g n bx gr o cap cap0 a m b : Nat} {R : Nat → Int} {f : Nat → Nat} {w : World} (hn : n ≤ 1048576) (ih : MergeUpto N g n bx gr o cap cap0 R) (hN : b - a ≤ N + 1) (hE : Env g n bx gr o cap R w) (hC : Cells g n w f)
    (ham : a + 1 < m) (hmb : m + 1 < b) (hbn : b ≤ n) (hv : ∀ i, i < n → f i < n) (hT : Two R a m b f) :
    Calls Tryd.prog 82 #[.slice (some ⟨g, 0, none⟩) n cap0, .int .i64 (a : Int), .int .i64 (m : Int), .int .i64 (b : Int), clo bx] w fun e w' =>
      e = .returned (.tuple #[]) ∧ Only g w w' ∧ ∃ f', Cells g n w' f' ∧ Shuf a b f f' ∧ Sorted R a b f' := by
  have IH : Hid (MergeUpto N g n bx gr o cap cap0 R) := ih
  clear ih
  unfold clo
  have e0 : ((m : Int) - (a : Int) == 1) = false := by rw [beq_eq_false_iff_ne]; omega
  have e1 : ((b : Int) - (m : Int) == 1) = false := by rw [beq_eq_false_iff_ne]; omega
  have HT : Hid (Two R a m b f) := hT
  have HV : Hid (∀ i, i < n → f i < n) := hv
  have HE : Hid (Env g n bx gr o cap R w) := hE
  obtain ⟨mid, hmid⟩ : ∃ mid, (a + b) / 2 = mid := ⟨_, rfl⟩
  have hmid' : ((a : Int) + (b : Int)) / 2 = (mid : Int) := by omega
  have m1 : a + b ≤ 2 * mid + 1 := by omega
  have m2 : 2 * mid ≤ a + b := by omega
  obtain ⟨s0, r0, hS⟩ : ∃ s0 r0, Span a m b mid s0 r0 := by
    by_cases h : mid < m
    · exact ⟨mid + m - b, mid, by omega, by omega, by omega, m1, m2, Or.inl ⟨h, by omega, rfl⟩⟩
    · exact ⟨a, m, by omega, by omega, by omega, m1, m2, Or.inr ⟨by omega, rfl, rfl⟩⟩
  have pk := hS.pick
  have le := hS.le
  have HS : Hid (Span a m b mid s0 r0) := hS
  have HC : Hid (Cells g n w f) := hC
  clear hT hv hE hS hmid hC
  go_enter Tryd.func82, Tryd.ntmps82
  go_upto_if 140 with fail
  go_cut [20, 21] (fun x y wx => x = .int .i64 (s0 : Int) ∧ y = .int .i64 (r0 : Int) ∧ w = wx)
  case first => as_aux_lemma =>
    by_cases hmm : (mid : Int) < (m : Int)
    · go_wp2
      go_meet
      case rel => exact ⟨by go_num, by go_num, rfl⟩
    · go_wp2
      go_meet
      case rel => exact ⟨by go_num, by go_num, rfl⟩
  case rest =>
  obtain ⟨rfl, rfl, rfl⟩ := hcut
  go_wp2
  go_loopw [20, 21, 23] (fun x y _ wr => ∃ s r : Nat, x = .int .i64 (s : Int) ∧ y = .int .i64 (r : Int) ∧ s0 ≤ s ∧ s ≤ r ∧ r ≤ r0 ∧ Only g w wr ∧ Cells g n wr f ∧ Before R f (mid + m - 1) s0 s ∧ Behind R f (mid + m - 1) r r0) (fun x y _ _ => (intOf y).toNat - (intOf x).toNat)
  case atStart => exact ⟨s0, r0, rfl, rfl, by omega, by omega, by omega, Only.refl _ _, HC.out, fun c h1 h2 => by omega, fun c h1 h2 => by omega⟩
  case round =>
    obtain ⟨s, r, rfl, rfl, hs, hsr, hr, hO, hCr, hlo, hhi⟩ := hrel
    by_cases hlt : (s : Int) < (r : Int)
    · obtain ⟨c, hh⟩ : ∃ c, (s + r) / 2 = c := ⟨_, rfl⟩
      have hh' : ((s : Int) + (r : Int)) / 2 = (c : Int) := by omega
      have h1 : s ≤ c := by omega
      have h2 : c < r := by omega
      clear hh
      have ins := HS.out.inside (c := c) (by omega) (by omega)
      have up := Before.up HS.out HT.out (c := c) (by omega)
      have dn := Behind.down HS.out HT.out (c := c) (by omega)
      obtain ⟨d, hd⟩ : ∃ d, mid + m - 1 - c = d := ⟨_, rfl⟩
      have hd' : (mid : Int) + (m : Int) - 1 - (c : Int) = (d : Int) := by omega
      rw [hd] at ins up dn
      clear hd
      have c1 := hCr.cell (i := d) (by omega)
      have c2 := hCr.cell (i := c) (by omega)
      have CL : Hid (∀ k, Calls Tryd.prog 63 #[.int .i64 (f d : Int), .int .i64 (f c : Int), .pointer (some ⟨bx, 0, none⟩)] (wr.drewN k) fun e w' => e = .returned (.int .i64 (cmpV (R (f c)) (R (f d)))) ∧ ∃ m', w' = (wr.drewN k).drewN m') := clo_at HE.out hO HV.out d c (by omega) (by omega)
      have dv := cmpV_neg (R (f c)) (R (f d))
      obtain ⟨i1, i2, i3, i4⟩ := ins
      by_cases hc : R (f c) < R (f d)
      · as_aux_lemma =>
        rw [decide_eq_true hc] at dv
        have HD := dn hc
        generalize cmpV (R (f c)) (R (f d)) = V at *
        have dv' : V < 0 := of_decide_eq_true dv
        clear hc up dn
        go_wp2
        go_quiet ((go_at_call 63; exact Calls.quiet_of (CL.out _)))
        go_wp2
        go_roundw
        case rel => exact ⟨s, c, rfl, by go_num, by omega, by omega, by omega, hO.draws _, hCr.draws _, hlo, HD⟩
        case measure => simp [intOf]; omega
      · as_aux_lemma =>
        rw [decide_eq_false hc] at dv
        have HU := up hc
        generalize cmpV (R (f c)) (R (f d)) = V at *
        have dv' : ¬ V < 0 := of_decide_eq_false dv
        clear hc up dn
        go_wp2
        go_quiet ((go_at_call 63; exact Calls.quiet_of (CL.out _)))
        go_wp2
        go_roundw
        case rel => exact ⟨c + 1, r, by go_num, rfl, by omega, by omega, by omega, hO.draws _, hCr.draws _, HU, hhi⟩
        case measure => simp [intOf]; omega
    · obtain rfl : s = r := by omega
      have ct := HS.out.cut HT.out hs hr hlo hhi
      obtain ⟨e, he⟩ : ∃ e, mid + m - s = e := ⟨_, rfl⟩
      rw [he] at ct
      have he' : (mid : Int) + (m : Int) - (s : Int) = (e : Int) := by omega
      have b1 := ct.hs1; have b2 := ct.hs2; have b3 := ct.he1; have b4 := ct.he2; have b5 := ct.sum
      have CT : Hid (Cut R a m b s e mid f) := ct
      have HO : Hid (Only g w wr) := hO
      have HC2 : Hid (Cells g n wr f) := hCr
      clear he ct hO hCr hlo hhi HC pk
      obtain ⟨T1, HT1⟩ : ∃ T, Hid (decide (s < m ∧ m < e) = T) := ⟨_, rfl⟩
      obtain ⟨T2, HT2⟩ : ∃ T, Hid (decide (a < s ∧ s < mid) = T) := ⟨_, rfl⟩
      obtain ⟨T3, HT3⟩ : ∃ T, Hid (decide (mid < e ∧ e < b) = T) := ⟨_, rfl⟩
      go_upto_region 39 with fail
      go_cut [185] (fun x wx => x = .bool T1 ∧ wr = wx)
      case first => as_aux_lemma =>
        by_cases y1 : (s : Int) < (m : Int)
        · by_cases y2 : (m : Int) < (e : Int)
          · go_wp2
            go_meet
            case rel => exact ⟨by rw [show T1 = true from by rw [← HT1.out]; exact decide_eq_true (by omega)], rfl⟩
          · have y2' : decide ((m : Int) < (e : Int)) = false := decide_eq_false y2
            go_wp2
            go_meet
            case rel => exact ⟨by rw [show T1 = false from by rw [← HT1.out]; exact decide_eq_false (by omega)], rfl⟩
        · have y1' : decide ((s : Int) < (m : Int)) = false := decide_eq_false y1
          go_wp2
          go_meet
          case rel => exact ⟨by rw [show T1 = false from by rw [← HT1.out]; exact decide_eq_false (by omega)], rfl⟩
      case rest =>
      obtain ⟨rfl, rfl⟩ := hcut
      go_upto_if 185 with fail
      go_cut [] (fun wx => Only g w wx ∧ Cells g n wx (rot f s m e))
      case first => as_aux_lemma =>
        cases T1
        · have h1 := of_decide_eq_false HT1.out
          have c1 : Cells g n wr (rot f s m e) := by
            by_cases q : s = m
            · rw [q]; exact HC2.out.congr (rot_id1 f m e).symm
            · rw [show e = m from by omega]; exact HC2.out.congr (rot_id2 f s m b2).symm
          go_wp2
          go_meet
          case rel => exact ⟨HO.out, c1⟩
        · have h1 := of_decide_eq_true HT1.out
          go_wp2_with fail
          refine (rotate_at (a := s) (m := m) (b := e) bx _ _ _ rfl rfl rfl HC2.out h1.1 h1.2 (by omega) hn).mono ?_
          rintro ee w1 ⟨rfl, o1, c1⟩
          have o2 := HO.out.trans o1
          go_wp2_with fail
          go_meet
          case rel => exact ⟨o2, c1⟩
      case rest =>
      obtain ⟨o3, c3⟩ := hcut
      have hv3 : ∀ i, i < n → rot f s m e i < n := shuf_val (shuf_rot f b2 b3) (by omega) HV.out
      have tw := CT.out.halves HT.out
      have sh3 : Hid (Shuf a b f (rot f s m e)) := (shuf_rot f b2 b3).wide b1 b4
      generalize rot f s m e = f3 at *
      have O3 : Hid (Only g w wc) := o3
      have C3 : Hid (Cells g n wc f3) := c3
      have V3 : Hid (∀ i, i < n → f3 i < n) := hv3
      have T3a : Hid (Two R a s mid f3) := tw.1
      have T3b : Hid (Two R mid e b f3) := tw.2.1
      have AP : Hid (∀ p q, a ≤ p → p < mid → mid ≤ q → q < b → Stable.LT R (f3 p) (f3 q)) := tw.2.2
      clear o3 c3 hv3 tw HO HC2 HT CT HV HS HT1
      go_upto_region 41 with fail
      go_cut [199] (fun x wx => x = .bool T2 ∧ wc = wx)
      case first => as_aux_lemma =>
        by_cases y1 : (a : Int) < (s : Int)
        · by_cases y2 : (s : Int) < (mid : Int)
          · go_wp2
            go_meet
            case rel => exact ⟨by rw [show T2 = true from by rw [← HT2.out]; exact decide_eq_true (by omega)], rfl⟩
          · have y2' : decide ((s : Int) < (mid : Int)) = false := decide_eq_false y2
            go_wp2
            go_meet
            case rel => exact ⟨by rw [show T2 = false from by rw [← HT2.out]; exact decide_eq_false (by omega)], rfl⟩
        · have y1' : decide ((a : Int) < (s : Int)) = false := decide_eq_false y1
          go_wp2
          go_meet
          case rel => exact ⟨by rw [show T2 = false from by rw [← HT2.out]; exact decide_eq_false (by omega)], rfl⟩
      case rest =>
      obtain ⟨rfl, rfl⟩ := hcut
      go_upto_if 199 with fail
      go_cut [] (fun wx => Only g w wx ∧ ∃ f4, Cells g n wx f4 ∧ Shuf a mid f3 f4 ∧ Sorted R a mid f4)
      case first => as_aux_lemma =>
        cases T2
        · have h1 := of_decide_eq_false HT2.out
          have c1 : Sorted R a mid f3 := by
            by_cases q : a = s
            · rw [q]; exact T3a.out.right
            · rw [show mid = s from by omega]; exact T3a.out.left
          go_wp2
          go_meet
          case rel => exact ⟨O3.out, f3, C3.out, Shuf.refl _ _ _, c1⟩
        · have h1 := of_decide_eq_true HT2.out
          go_wp2_with fail
          refine (IH.out a s mid _ _ _ f3 _ rfl rfl rfl (by omega) (HE.out.later O3.out) C3.out h1.1 h1.2 (by omega) V3.out T3a.out).mono ?_
          rintro ee w1 ⟨rfl, o1, f4, c4, q4, z4⟩
          have o2 := O3.out.trans o1
          go_wp2_with fail
          go_meet
          case rel => exact ⟨o2, f4, c4, q4, z4⟩
      case rest =>
      have O4 : Hid (Only g w _) := hcut.1
      obtain ⟨f4, c4, q4, z4⟩ := hcut.2
      have C4 : Hid (Cells g n _ f4) := c4
      have V4 : Hid (∀ i, i < n → f4 i < n) := shuf_val q4 (by omega) V3.out
      have T4 : Hid (Two R mid e b f4) := two_congr T3b.out (fun i h1 h2 => q4.out i (Or.inr h1)) (by omega) (by omega)
      have AP4 : Hid (∀ p q, a ≤ p → p < mid → mid ≤ q → q < b → Stable.LT R (f4 p) (f4 q)) := apart_shuf AP.out (Or.inl ⟨rfl, rfl⟩) q4 (by omega) (by omega)
      have Z4 : Hid (Sorted R a mid f4) := z4
      have S4 : Hid (Shuf a b f f4) := sh3.out.trans (q4.wide (Nat.le_refl _) (by omega))
      clear c4 q4 z4 hcut O3 C3 V3 T3a T3b AP sh3 HT2
      go_upto_region 43 with fail
      go_cut [213] (fun x wx => x = .bool T3 ∧ wc = wx)
      case first => as_aux_lemma =>
        by_cases y1 : (mid : Int) < (e : Int)
        · by_cases y2 : (e : Int) < (b : Int)
          · go_wp2
            go_meet
            case rel => exact ⟨by rw [show T3 = true from by rw [← HT3.out]; exact decide_eq_true (by omega)], rfl⟩
          · have y2' : decide ((e : Int) < (b : Int)) = false := decide_eq_false y2
            go_wp2
            go_meet
            case rel => exact ⟨by rw [show T3 = false from by rw [← HT3.out]; exact decide_eq_false (by omega)], rfl⟩
        · have y1' : decide ((mid : Int) < (e : Int)) = false := decide_eq_false y1
          go_wp2
          go_meet
          case rel => exact ⟨by rw [show T3 = false from by rw [← HT3.out]; exact decide_eq_false (by omega)], rfl⟩
      case rest =>
      obtain ⟨rfl, rfl⟩ := hcut
      cases T3
      · as_aux_lemma =>
        have h1 := of_decide_eq_false HT3.out
        have c1 : Sorted R mid b f4 := by
          by_cases q : mid = e
          · rw [q]; exact T4.out.right
          · rw [show b = e from by omega]; exact T4.out.left
        have fin := sorted_join Z4.out c1 AP4.out
        go_wp2
        go_end0
        exact ⟨rfl, O4.out, f4, C4.out, S4.out, fin⟩
      · as_aux_lemma =>
        have h1 := of_decide_eq_true HT3.out
        go_wp2_with fail
        refine (IH.out mid e b _ _ _ f4 _ rfl rfl rfl (by omega) (HE.out.later O4.out) C4.out h1.1 h1.2 (by omega) V4.out T4.out).mono ?_
        rintro ee w1 ⟨rfl, o1, f5, c5, q5, z5⟩
        have o2 := O4.out.trans o1
        have z6 : Sorted R a mid f5 := sorted_congr Z4.out fun i h1 h2 => q5.out i (Or.inl h2)
        have fin := sorted_join z6 z5 (apart_shuf AP4.out (Or.inr ⟨rfl, rfl⟩) q5 (by omega) (by omega))
        have sh5 := S4.out.trans (q5.wide (by omega) (Nat.le_refl _))
        go_wp2_with fail
        go_end0
        exact ⟨rfl, o2, f5, c5, sh5, fin⟩

theorem symMerge_upto {g n bx gr o cap cap0 : Nat} {R : Nat → Int} (hn : n ≤ 1048576) : ∀ N, MergeUpto N g n bx gr o cap cap0 R
  | 0 => fun a m b _ _ _ f w _ _ _ h1 _ _ h2 h3 => by omega
  | N + 1 => fun a m b A M B f w hA hM hB hN hE hC ham hmb hbn hv hT => by
    subst hA hM hB
    by_cases c1 : m = a + 1
    · subst c1
      have := symMerge_left (cap0 := cap0) hE hC hmb hbn hn hv hT
      rw [show ((a + 1 : Nat) : Int) = (a : Int) + 1 from by omega]; exact this
    · by_cases c2 : b = m + 1
      · subst c2
        have := symMerge_right (cap0 := cap0) hE hC (by omega) hbn hn hv hT
        rw [show ((m + 1 : Nat) : Int) = (m : Int) + 1 from by omega]; exact this
      · exact symMerge_general hn (symMerge_upto hn N) hN hE hC (by omega) (by omega) hbn hv hT

end Go.Proofs.YtfdahdloihgjeacDoor
