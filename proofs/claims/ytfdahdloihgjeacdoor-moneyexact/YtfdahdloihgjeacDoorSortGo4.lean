/-
  Ours: slices.symMergeCmpFunc walked, further: one element on the right; the general case.
-/
import Derived.Test.YtfdahdloihgjeacDoorSortGo3
namespace Go.Proofs.YtfdahdloihgjeacDoor
open Go.RowKit Stable

set_option maxRecDepth 100000 in
set_option maxHeartbeats 4000000 in
theorem symMerge_right {g n bx gr o cap cap0 a m : Nat} {R : Nat → Int} {f : Nat → Nat} {w : World} (hE : Env g n bx gr o cap R w) (hC : Cells g n w f) (ham : a + 1 < m) (hbn : m + 1 ≤ n) (hn : n ≤ 1048576)
    (hv : ∀ i, i < n → f i < n) (hT : Two R a m (m + 1) f) :
    Calls Tryd.prog 82 #[.slice (some ⟨g, 0, none⟩) n cap0, .int .i64 (a : Int), .int .i64 (m : Int), .int .i64 ((m : Int) + 1), clo bx] w fun e w' =>
      e = .returned (.tuple #[]) ∧ Only g w w' ∧ ∃ f', Cells g n w' f' ∧ Shuf a (m + 1) f f' ∧ Sorted R a (m + 1) f' := by
  unfold clo
  have e0 : ((m : Int) - (a : Int) == 1) = false := by rw [beq_eq_false_iff_ne]; omega
  have e1 : ((m : Int) + 1 - (m : Int) == 1) = true := by rw [beq_iff_eq]; omega
  have HT : Hid (Two R a m (m + 1) f) := hT
  have HV : Hid (∀ i, i < n → f i < n) := hv
  clear hT hv
  go_enter Tryd.func82, Tryd.ntmps82
  go_wp2
  go_loopw [14, 15, 16] (fun i j _ wr => ∃ p q : Nat, i = .int .i64 (p : Int) ∧ j = .int .i64 (q : Int) ∧ a ≤ p ∧ p ≤ q ∧ q ≤ m ∧ Only g w wr ∧ Cells g n wr f ∧ Lo2 R f m a p ∧ Hi2 R f m q) (fun i j _ _ => (intOf j).toNat - (intOf i).toNat)
  case atStart => exact ⟨a, m, rfl, rfl, by omega, by omega, by omega, Only.refl _ _, hC, fun x h1 h2 => by omega, fun x h1 h2 => by omega⟩
  case round =>
    obtain ⟨p, q, rfl, rfl, hp, hpq, hq, hO, hCr, hlo, hhi⟩ := hrel
    by_cases hlt : (p : Int) < (q : Int)
    · obtain ⟨h, hh⟩ : ∃ h, (p + q) / 2 = h := ⟨_, rfl⟩
      have hh' : ((p : Int) + (q : Int)) / 2 = (h : Int) := by omega
      have h1 : p ≤ h := by omega
      have h2 : h < q := by omega
      clear hh
      have c1 := hCr.cell (i := h) (by omega)
      have c2 := hCr.cell (i := m) (by omega)
      have CL : Hid (∀ k, Calls Tryd.prog 63 #[.int .i64 (f m : Int), .int .i64 (f h : Int), .pointer (some ⟨bx, 0, none⟩)] (wr.drewN k) fun e w' => e = .returned (.int .i64 (cmpV (R (f h)) (R (f m)))) ∧ ∃ m', w' = (wr.drewN k).drewN m') := clo_at hE hO HV.out m h (by omega) (by omega)
      have dv := cmpV_neg (R (f h)) (R (f m))
      by_cases hc : R (f h) < R (f m)
      · rw [decide_eq_true hc] at dv
        have HH2 := Hi2.down HT.out (h := h) (by omega) hc
        generalize cmpV (R (f h)) (R (f m)) = V at *
        have dv' : V < 0 := of_decide_eq_true dv
        clear dv hc
        go_wp2
        go_quiet ((go_at_call 63; exact Calls.quiet_of (CL.out _)))
        go_wp2
        go_roundw
        case rel => exact ⟨p, h, rfl, by go_num, by omega, by omega, by omega, hO.draws _, hCr.draws _, hlo, HH2⟩
        case measure => simp [intOf]; omega
      · rw [decide_eq_false hc] at dv
        have HL2 := Lo2.up HT.out (h := h) (by omega) hc
        generalize cmpV (R (f h)) (R (f m)) = V at *
        have dv' : ¬ V < 0 := of_decide_eq_false dv
        clear hc
        go_wp2
        go_quiet ((go_at_call 63; exact Calls.quiet_of (CL.out _)))
        go_wp2
        go_roundw
        case rel => exact ⟨h + 1, q, by go_num, rfl, by omega, by omega, by omega, hO.draws _, hCr.draws _, HL2, hhi⟩
        case measure => simp [intOf]; omega
    · obtain rfl : p = q := by omega
      have so : Hid (Sorted R a (m + 1) (rot f p m (m + 1))) := HT.out.one_right hp hq hlo hhi
      have sh : Hid (Shuf a (m + 1) f (rot f p m (m + 1))) := (shuf_rot f hq (by omega)).wide hp (Nat.le_refl _)
      clear hlo hhi
      go_wp2
      go_loopw [17] (fun kk wr => ∃ k : Nat, kk = .int .i64 (k : Int) ∧ p ≤ k ∧ k ≤ m ∧ Only g w wr ∧ Cells g n wr (rot f k m (m + 1))) (fun kk _ => (intOf kk).toNat)
      case atStart => exact ⟨m, rfl, by omega, by omega, hO, hCr.congr (rot_dn0 f m).symm⟩
      case round =>
        clear hO hCr
        obtain ⟨k, rfl, k1, k2, hO, hCr⟩ := hrel
        by_cases hkl : p < k
        · obtain ⟨k, rfl⟩ : ∃ s, k = s + 1 := ⟨k - 1, by omega⟩
          have hkl' : (p : Int) < (k : Int) + 1 := by omega
          have c1 := hCr.cell (i := k) (by omega)
          have c2 := hCr.cell (i := k + 1) (by omega)
          have z1 := hCr.frozen k
          have z2 := hCr.frozen (k + 1)
          have HC : Hid (Cells g n ((wr.setCell ⟨g, k + 1, none⟩ (.int .i64 (rot f (k + 1) m (m + 1) k : Int))).setCell ⟨g, k, none⟩ (.int .i64 (rot f (k + 1) m (m + 1) (k + 1) : Int))) (rot f k m (m + 1))) :=
            ((hCr.set (i := k + 1) (by omega) (rot f (k + 1) m (m + 1) k)).set (i := k) (by omega) (rot f (k + 1) m (m + 1) (k + 1))).congr ((swap_eq _ _ _).trans (rot_dn f m k k2))
          have HO : Hid (∀ v v' : Value, Only g w ((wr.setCell ⟨g, k + 1, none⟩ v).setCell ⟨g, k, none⟩ v')) := fun v v' => (hO.setCell _).setCell _
          generalize rot f (k + 1) m (m + 1) (k + 1) = x at *
          generalize rot f (k + 1) m (m + 1) k = y at *
          clear hCr hO hC
          go_wp2
          go_region
          go_wp2
          go_roundw
          case rel => exact ⟨k, by go_num, by omega, by omega, (HO.out _ _).drew, HC.out⟩
          case measure => simp [intOf]
        · obtain rfl : p = k := by omega
          go_wp2
          exact bodyPost_ret (v := .tuple #[]) (by simp [results, Tryd.results82, go_sem]) rfl ⟨rfl, hO, _, hCr, sh.out, so.out⟩

/-- What the search of the general case has found so far. -/
def Before (R : Nat → Int) (f : Nat → Nat) (p s0 s : Nat) : Prop := ∀ c, s0 ≤ c → c < s → ¬ R (f c) < R (f (p - c))
def Behind (R : Nat → Int) (f : Nat → Nat) (p r r0 : Nat) : Prop := ∀ c, r ≤ c → c < r0 → R (f c) < R (f (p - c))

/-- The bounds of the search: every place between them lies on the left, its mirror on the right. -/
structure Span (a m b mid s0 r0 : Nat) : Prop where
  ham : a < m
  hmb : m < b
  le : s0 ≤ r0
  mid1 : a + b ≤ 2 * mid + 1
  mid2 : 2 * mid ≤ a + b
  pick : (mid < m ∧ s0 + b = mid + m ∧ r0 = mid) ∨ (m ≤ mid ∧ s0 = a ∧ r0 = m)
theorem Span.inside {a m b mid s0 r0 c : Nat} (h : Span a m b mid s0 r0) (h1 : s0 ≤ c) (h2 : c < r0) : a ≤ c ∧ c < m ∧ m ≤ mid + m - 1 - c ∧ mid + m - 1 - c < b := by
  obtain ⟨ham, hmb, le, mid1, mid2, pick⟩ := h
  rcases pick with ⟨p1, p2, p3⟩ | ⟨p1, p2, p3⟩ <;> omega
theorem Before.up {R : Nat → Int} {f : Nat → Nat} {a m b mid s0 r0 c : Nat} (hS : Span a m b mid s0 r0) (hT : Two R a m b f) (h2 : c < r0) (hc : ¬ R (f c) < R (f (mid + m - 1 - c))) : Before R f (mid + m - 1) s0 (c + 1) := fun x x1 x2 => by
  have i1 := hS.inside x1 (show x < r0 by omega)
  have i2 := hS.inside (show s0 ≤ c by omega) h2
  have l := sorted_le hT.left i1.1 (show x ≤ c by omega) i2.2.1
  have r := sorted_le hT.right (p := mid + m - 1 - c) (q := mid + m - 1 - x) i2.2.2.1 (by omega) i1.2.2.2
  omega
theorem Behind.down {R : Nat → Int} {f : Nat → Nat} {a m b mid s0 r0 c : Nat} (hS : Span a m b mid s0 r0) (hT : Two R a m b f) (h1 : s0 ≤ c) (hc : R (f c) < R (f (mid + m - 1 - c))) : Behind R f (mid + m - 1) c r0 := fun x x1 x2 => by
  have i1 := hS.inside (show s0 ≤ x by omega) x2
  have i2 := hS.inside h1 (show c < r0 by omega)
  have l := sorted_le hT.left i2.1 (show c ≤ x by omega) i1.2.1
  have r := sorted_le hT.right (p := mid + m - 1 - x) (q := mid + m - 1 - c) i1.2.2.1 (by omega) i2.2.2.2
  omega
theorem Span.cut {R : Nat → Int} {f : Nat → Nat} {a m b mid s0 r0 s : Nat} (hS : Span a m b mid s0 r0) (hT : Two R a m b f) (h1 : s0 ≤ s) (h2 : s ≤ r0) (hb : Before R f (mid + m - 1) s0 s) (hh : Behind R f (mid + m - 1) s r0) : Cut R a m b s (mid + m - s) mid f := by
  have pk := hS.pick; have ham := hS.ham; have hmb := hS.hmb; have m1 := hS.mid1; have m2 := hS.mid2
  refine ⟨by omega, by omega, by omega, by omega, by omega, fun c1 c2 => ?_, fun c1 c2 => ?_⟩
  · have i := hS.inside (c := s - 1) (by omega) (by omega)
    have := hb (s - 1) (by omega) (by omega)
    rw [show mid + m - 1 - (s - 1) = mid + m - s from by omega] at this i
    exact (hT.lt_iff i.1 i.2.1 i.2.2.1 i.2.2.2).2 this
  · have i := hS.inside (c := s) (by omega) (by omega)
    have := hh s (Nat.le_refl _) (by omega)
    rw [show mid + m - 1 - s = mid + m - s - 1 from by omega] at this i
    exact (hT.lt_iff i.1 i.2.1 i.2.2.1 i.2.2.2).1 this

end Go.Proofs.YtfdahdloihgjeacDoor
