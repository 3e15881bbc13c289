/-
  Ours: slices.symMergeCmpFunc walked.
-/
import Derived.Test.YtfdahdloihgjeacDoorSortGo2
namespace Go.Proofs.YtfdahdloihgjeacDoor
open Go.RowKit Stable

theorem sorted_le {R : Nat → Int} {a b : Nat} {f : Nat → Nat} (h : Sorted R a b f) {p q : Nat} (h1 : a ≤ p) (h2 : p ≤ q) (h3 : q < b) : R (f q) ≤ R (f p) := by
  by_cases e : p = q
  · rw [e]; exact Int.le_refl _
  · have := h p q h1 (by omega) h3
    unfold Stable.LT at this; omega
theorem rot_id1 (f : Nat → Nat) (m e : Nat) : rot f m m e = f := by
  funext k; unfold rot
  by_cases c : m ≤ k ∧ k < m + (e - m)
  · rw [if_pos c]; congr 1; omega
  · rw [if_neg c]
    by_cases c2 : m + (e - m) ≤ k ∧ k < e
    · omega
    · rw [if_neg c2]
theorem rot_id2 (f : Nat → Nat) (s m : Nat) (_h : s ≤ m) : rot f s m m = f := by
  funext k; unfold rot
  rw [if_neg (by omega)]
  by_cases c2 : s + (m - m) ≤ k ∧ k < m
  · rw [if_pos c2]; congr 1; omega
  · rw [if_neg c2]

/-- The closure at two places, behind any draws. -/
theorem clo_at {g n bx gr o cap : Nat} {R : Nat → Int} {f : Nat → Nat} {w wr : World} (hE : Env g n bx gr o cap R w) (hO : Only g w wr) (hv : ∀ i, i < n → f i < n) (p q : Nat) (hp : p < n) (hq : q < n) :
    ∀ m, Calls Tryd.prog 63 #[.int .i64 (f p : Int), .int .i64 (f q : Int), .pointer (some ⟨bx, 0, none⟩)] (wr.drewN m) fun e w' => e = .returned (.int .i64 (cmpV (R (f q)) (R (f p)))) ∧ ∃ m', w' = (wr.drewN m).drewN m' :=
  fun m => closure_any ((hE.later hO).later ((Only.refl _ _).draws m)) (f p) (f q) (hv _ hp) (hv _ hq)

/-- All from m to p - 1 come ahead of the one at a. -/
def Lo (R : Nat → Int) (f : Nat → Nat) (a m p : Nat) : Prop := ∀ x, m ≤ x → x < p → R (f a) < R (f x)
/-- None from q to b - 1 comes ahead of the one at a. -/
def Hi (R : Nat → Int) (f : Nat → Nat) (a q b : Nat) : Prop := ∀ x, q ≤ x → x < b → ¬ R (f a) < R (f x)
/-- The one at m comes ahead of none from a to p - 1. -/
def Lo2 (R : Nat → Int) (f : Nat → Nat) (m a p : Nat) : Prop := ∀ x, a ≤ x → x < p → ¬ R (f x) < R (f m)
/-- The one at m comes ahead of all from q to m - 1. -/
def Hi2 (R : Nat → Int) (f : Nat → Nat) (m q : Nat) : Prop := ∀ x, q ≤ x → x < m → R (f x) < R (f m)
theorem Lo.up {R : Nat → Int} {a b h : Nat} {f : Nat → Nat} (hT : Two R a (a + 1) b f) (h2 : h < b) (hc : R (f a) < R (f h)) : Lo R f a (a + 1) (h + 1) := fun x x1 x2 => by
  have := sorted_le hT.right x1 (show x ≤ h by omega) (by omega); omega
theorem Hi.down {R : Nat → Int} {a b h : Nat} {f : Nat → Nat} (hT : Two R a (a + 1) b f) (h1 : a + 1 ≤ h) (hc : ¬ R (f a) < R (f h)) : Hi R f a h b := fun x x1 x2 => by
  have := sorted_le hT.right h1 x1 x2; omega
theorem Lo2.up {R : Nat → Int} {a m h : Nat} {f : Nat → Nat} (hT : Two R a m (m + 1) f) (h2 : h < m) (hc : ¬ R (f h) < R (f m)) : Lo2 R f m a (h + 1) := fun x x1 x2 => by
  have := sorted_le hT.left x1 (show x ≤ h by omega) (by omega); omega
theorem Hi2.down {R : Nat → Int} {a m h : Nat} {f : Nat → Nat} (hT : Two R a m (m + 1) f) (h1 : a ≤ h) (hc : R (f h) < R (f m)) : Hi2 R f m h := fun x x1 x2 => by
  have := sorted_le hT.left h1 x1 x2; omega

set_option maxRecDepth 100000 in
set_option maxHeartbeats 4000000 in
theorem symMerge_left {g n bx gr o cap cap0 a b : Nat} {R : Nat → Int} {f : Nat → Nat} {w : World} (hE : Env g n bx gr o cap R w) (hC : Cells g n w f) (hab : a + 1 < b) (hbn : b ≤ n) (hn : n ≤ 1048576)
    (hv : ∀ i, i < n → f i < n) (hT : Two R a (a + 1) b f) :
    Calls Tryd.prog 82 #[.slice (some ⟨g, 0, none⟩) n cap0, .int .i64 (a : Int), .int .i64 ((a : Int) + 1), .int .i64 (b : Int), clo bx] w fun e w' =>
      e = .returned (.tuple #[]) ∧ Only g w w' ∧ ∃ f', Cells g n w' f' ∧ Shuf a b f f' ∧ Sorted R a b f' := by
  unfold clo
  have e1 : ((a : Int) + 1 - (a : Int) == 1) = true := by rw [beq_iff_eq]; omega
  have HT : Hid (Two R a (a + 1) b f) := hT
  have HV : Hid (∀ i, i < n → f i < n) := hv
  clear hT hv
  go_enter Tryd.func82, Tryd.ntmps82
  go_wp2
  go_loopw [10, 11, 12] (fun i j _ wr => ∃ p q : Nat, i = .int .i64 (p : Int) ∧ j = .int .i64 (q : Int) ∧ a + 1 ≤ p ∧ p ≤ q ∧ q ≤ b ∧ Only g w wr ∧ Cells g n wr f ∧ Lo R f a (a + 1) p ∧ Hi R f a q b) (fun i j _ _ => (intOf j).toNat - (intOf i).toNat)
  case atStart => exact ⟨a + 1, b, by go_num, rfl, by omega, by omega, by omega, Only.refl _ _, hC, fun x h1 h2 => by omega, fun x h1 h2 => by omega⟩
  case round =>
    obtain ⟨p, q, rfl, rfl, hp, hpq, hq, hO, hCr, hlo, hhi⟩ := hrel
    by_cases hlt : (p : Int) < (q : Int)
    · obtain ⟨h, hh⟩ : ∃ h, (p + q) / 2 = h := ⟨_, rfl⟩
      have hh' : ((p : Int) + (q : Int)) / 2 = (h : Int) := by omega
      have h1 : p ≤ h := by omega
      have h2 : h < q := by omega
      clear hh
      have c1 := hCr.cell (i := h) (by omega)
      have c2 := hCr.cell (i := a) (by omega)
      have CL : Hid (∀ m, Calls Tryd.prog 63 #[.int .i64 (f h : Int), .int .i64 (f a : Int), .pointer (some ⟨bx, 0, none⟩)] (wr.drewN m) fun e w' => e = .returned (.int .i64 (cmpV (R (f a)) (R (f h)))) ∧ ∃ m', w' = (wr.drewN m).drewN m') := clo_at hE hO HV.out h a (by omega) (by omega)
      have dv := cmpV_neg (R (f a)) (R (f h))
      by_cases hc : R (f a) < R (f h)
      · rw [decide_eq_true hc] at dv
        have HL2 := Lo.up HT.out (h := h) (by omega) hc
        generalize cmpV (R (f a)) (R (f h)) = V at *
        have dv' : V < 0 := of_decide_eq_true dv
        clear dv hc
        go_wp2
        go_quiet ((go_at_call 63; exact Calls.quiet_of (CL.out _)))
        go_wp2
        go_roundw
        case rel => exact ⟨h + 1, q, by go_num, rfl, by omega, by omega, by omega, hO.draws _, hCr.draws _, HL2, hhi⟩
        case measure => simp [intOf]; omega
      · rw [decide_eq_false hc] at dv
        have HH2 := Hi.down HT.out (h := h) (by omega) hc
        generalize cmpV (R (f a)) (R (f h)) = V at *
        have dv' : ¬ V < 0 := of_decide_eq_false dv
        clear dv hc
        go_wp2
        go_quiet ((go_at_call 63; exact Calls.quiet_of (CL.out _)))
        go_wp2
        go_roundw
        case rel => exact ⟨p, h, rfl, by go_num, by omega, by omega, by omega, hO.draws _, hCr.draws _, hlo, HH2⟩
        case measure => simp [intOf]; omega
    · obtain rfl : p = q := by omega
      have so : Hid (Sorted R a b (rot f a (a + 1) p)) := HT.out.one_left hp (by omega) hlo hhi
      have sh : Hid (Shuf a b f (rot f a (a + 1) p)) := (shuf_rot f (by omega) hp).wide (Nat.le_refl _) hq
      clear hlo hhi
      go_wp2
      go_loopw [13] (fun kk wr => ∃ k : Nat, kk = .int .i64 (k : Int) ∧ a ≤ k ∧ k + 1 ≤ p ∧ Only g w wr ∧ Cells g n wr (rot f a (a + 1) (k + 1))) (fun kk _ => p - (intOf kk).toNat)
      case atStart => exact ⟨a, rfl, by omega, by omega, hO, hCr.congr (rot_up0 f a).symm⟩
      case round =>
        clear hO hCr
        obtain ⟨k, rfl, k1, k2, hO, hCr⟩ := hrel
        by_cases hkl : (k : Int) < (p : Int) - 1
        · have c1 := hCr.cell (i := k) (by omega)
          have c2 := hCr.cell (i := k + 1) (by omega)
          have z1 := hCr.frozen k
          have z2 := hCr.frozen (k + 1)
          have HC : Hid (Cells g n ((wr.setCell ⟨g, k, none⟩ (.int .i64 (rot f a (a + 1) (k + 1) (k + 1) : Int))).setCell ⟨g, k + 1, none⟩ (.int .i64 (rot f a (a + 1) (k + 1) k : Int))) (rot f a (a + 1) (k + 1 + 1))) :=
            ((hCr.set (i := k) (by omega) (rot f a (a + 1) (k + 1) (k + 1))).set (i := k + 1) (by omega) (rot f a (a + 1) (k + 1) k)).congr ((swap_eq _ _ _).trans (rot_up f a k k1))
          have HO : Hid (∀ v v' : Value, Only g w ((wr.setCell ⟨g, k, none⟩ v).setCell ⟨g, k + 1, none⟩ v')) := fun v v' => (hO.setCell _).setCell _
          generalize rot f a (a + 1) (k + 1) (k + 1) = x at *
          generalize rot f a (a + 1) (k + 1) k = y at *
          clear hCr hO hC
          go_wp2
          go_region
          go_wp2
          go_roundw
          case rel => exact ⟨k + 1, by go_num, by omega, by omega, (HO.out _ _).drew, HC.out⟩
          case measure => simp [intOf]; omega
        · obtain rfl : p = k + 1 := by omega
          go_wp2
          exact bodyPost_ret (v := .tuple #[]) (by simp [results, Tryd.results82, go_sem]) rfl ⟨rfl, hO, _, hCr, sh.out, so.out⟩

end Go.Proofs.YtfdahdloihgjeacDoor
