/-
  Ours: no net is the least; what the sides add up to: pure.
-/
import Derived.Test.YtkmmpffkmoaceabDoorLedEven
import Derived.Test.YtkmmpffkmoaceabDoorLedWhole
import Derived.Test.YtkmmpffkmoaceabDoorLedOne
import Derived.Test.YtkmmpffkmoaceabDoorLedUnd
import Derived.Test.YtkmmpffkmoaceabDoorLedBal2
namespace Go.Proofs.YtkmmpffkmoaceabDoor
open Go.RowKit LedM

namespace LedM
theorem fits_of {l : List Int} (h : BkOk l) : fitsL l = true := fitsL_true fun j _ => decide_eq_true (h.2 j)
theorem post_nil {l : List Int} (h : BkOk l) : (postE l [] == 0) = (sidesB l && rangeB l) := by
  unfold postE
  rw [moved_nil l h.1, fits_of h, if_pos (show faultE [] = 0 from rfl)]
  cases rangeB l <;> cases sidesB l <;> rfl
theorem filter_sum (p : Int → Bool) : ∀ l : List Int, total (l.filter p) = total (l.map fun x => if p x then x else 0)
  | [] => rfl
  | x :: r => by
    have := filter_sum p r
    rw [List.filter_cons]
    cases h : p x
    · simp only [Bool.false_eq_true, if_false, List.map_cons, h, total]; omega
    · simp only [if_true, List.map_cons, h, total]; omega
/-- The balances of the first j accounts on the debit side; on the credit side. -/
def debS (l : List Int) (j : Nat) : Int := total ((List.range j).map fun i : Nat => if isD (i : Int) then balV l (i : Int) else 0)
def creS (l : List Int) (j : Nat) : Int := total ((List.range j).map fun i : Nat => if isD (i : Int) then 0 else balV l (i : Int))
theorem debS_succ (l : List Int) (j : Nat) : debS l (j + 1) = debS l j + (if isD (j : Int) then balV l (j : Int) else 0) := by
  unfold debS; rw [List.range_succ, List.map_append, total_append]; simp [total]
theorem creS_succ (l : List Int) (j : Nat) : creS l (j + 1) = creS l j + (if isD (j : Int) then 0 else balV l (j : Int)) := by
  unfold creS; rw [List.range_succ, List.map_append, total_append]; simp [total]
theorem isA_nat {k : Nat} (h : k < 12) : isA (k : Int) = true := by simp [isA]; omega
theorem bal_d {l : List Int} {k : Nat} (hk : k < 12) (h : isD (k : Int) = true) : balV l (k : Int) = l.getD k 0 ∧ balE l (k : Int) = 0 := by
  unfold balV balE
  rw [isA_nat hk, h]; exact ⟨rfl, rfl⟩
theorem bal_c {l : List Int} {k : Nat} (hk : k < 12) (h : isD (k : Int) = false) (hx : l.getD k 0 ≠ -9223372036854775808) : balV l (k : Int) = -(l.getD k 0) ∧ balE l (k : Int) = 0 := by
  unfold balV balE
  rw [isA_nat hk, h]
  simp only [Int.toNat_natCast, if_neg hx, Bool.false_eq_true, if_false, if_true]
  refine ⟨?_, ?_⟩ <;> first | rfl | trivial
theorem bal_m {l : List Int} {k : Nat} (hk : k < 12) (h : isD (k : Int) = false) (hx : l.getD k 0 = -9223372036854775808) : balV l (k : Int) = 0 ∧ balE l (k : Int) = 3 := by
  unfold balV balE
  rw [isA_nat hk, h]
  simp only [Int.toNat_natCast, if_pos hx, Bool.false_eq_true, if_false, if_true]
  refine ⟨?_, ?_⟩ <;> first | rfl | trivial
theorem bal_out {l : List Int} {a : Int} (h : isA a = false) : balV l a = 0 ∧ balE l a = 80 := by
  unfold balV balE
  rw [h]; exact ⟨rfl, rfl⟩
theorem side_d {l : List Int} (hs : sidesB l = true) {k : Nat} (hk : k < 12) (h : isD (k : Int) = true) : 0 ≤ l.getD k 0 := by
  have := all_at hs k hk
  rw [ownB_d h] at this
  simp at this; exact this
theorem side_c {l : List Int} (hs : sidesB l = true) {k : Nat} (hk : k < 12) (h : isD (k : Int) = false) : l.getD k 0 ≤ 0 := by
  have := all_at hs k hk
  rw [ownB_c h] at this
  simp at this; exact this
theorem range_at {l : List Int} (hr : rangeB l = true) {k : Nat} (hk : k < 12) : l.getD k 0 ≠ -9223372036854775808 := by
  have := all_at hr k hk
  simpa using this
theorem total_map12 {l : List Int} (hl : l.length = 12) (f : Int → Int) (g : Nat → Int) (h : ∀ k, k < 12 → f (l.getD k 0) = g k) : total (l.map f) = total ((List.range 12).map g) := by
  have e : l.map f = (List.range 12).map g := by
    conv => lhs; rw [← list12 hl]
    rw [List.map_map]
    apply List.map_congr_left
    intro k hk
    exact h k (by simpa using hk)
  rw [e]
theorem deb_all {l : List Int} (hl : l.length = 12) (hs : sidesB l = true) : debS l 12 = trD l := by
  unfold trD ups
  rw [filter_sum]
  symm
  refine total_map12 hl _ _ fun k hk => ?_
  cases h : isD (k : Int)
  · have := side_c hs hk h
    generalize l.getD k 0 = x at *
    rw [if_neg (by simp; omega)]; rfl
  · have := side_d hs hk h
    rw [(bal_d hk h).1]
    generalize l.getD k 0 = x at *
    by_cases h0 : 0 < x
    · rw [if_pos (by simpa using h0)]; rfl
    · rw [if_neg (by simpa using h0)]; simp; omega
theorem cre_all {l : List Int} (hl : l.length = 12) (hs : sidesB l = true) (hr : rangeB l = true) : creS l 12 = trC l := by
  have e : total (l.map fun x => if (!decide (0 < x)) then x else 0) = total ((List.range 12).map fun i : Nat => -(if isD (i : Int) then 0 else balV l (i : Int))) := by
    refine total_map12 hl _ _ fun k hk => ?_
    cases h : isD (k : Int)
    · have := side_c hs hk h
      rw [(bal_c hk h (range_at hr hk)).1]
      generalize l.getD k 0 = x at *
      rw [if_pos (by simp; omega)]; simp
    · have := side_d hs hk h
      generalize l.getD k 0 = x at *
      by_cases h0 : 0 < x
      · rw [if_neg (by simpa using h0)]; rfl
      · rw [if_pos (by simpa using h0)]; simp; omega
  have n : ∀ (xs : List Nat) (g : Nat → Int), total (xs.map fun i => -(g i)) = -total (xs.map g) := by
    intro xs g
    induction xs with
    | nil => rfl
    | cons x r ih => simp only [List.map_cons, total, ih]; omega
  unfold trC dns
  rw [filter_sum, e, n]
  unfold creS; omega
theorem wh_mono {s : Int} {k : Nat} {h l : Int} (hw : WhIs s k h l) : WhIs s (k + 1) h l := by unfold WhIs at *; omega
end LedM

set_option maxHeartbeats 1000000 in
theorem noLeast_at (l : List Int) (w : World) (hl : BkOk l) : Calls Tryd.prog 16 #[.agg (bkL l).toArray] w fun e w' => e = .returned (.bool (rangeB l)) ∧ Below w.heap.size w w' := by
  have NB : Blk w.heap.size 24 (bkL l) (w.alloc (.cells (bkL l).toArray 24)) := Blk.new 24 (bkL l) w
  have BB : Hid (Below w.heap.size w (w.alloc (.cells (bkL l).toArray 24))) := below_alloc w _
  have CE : Hid (∀ k, k < 12 → (w.alloc (.cells (bkL l).toArray 24)).cell? ⟨w.heap.size, k, none⟩ = some (.int .i64 (l.getD k 0))) := fun k hk => NB.cell k _ (bkL_at (by rw [hl.1]; exact hk))
  obtain ⟨K, HK⟩ : ∃ K, Hid (rangeB l = K) := ⟨_, rfl⟩
  rw [HK.out]
  clear hl NB
  go_enter Tryd.func16, Tryd.ntmps16
  go_wp2_with fail
  generalize w.alloc (.cells (bkL l).toArray 24) = w2 at *
  go_loopw [3] (fun vk wr => ∃ k : Nat, vk = .int .i64 (k : Int) ∧ k ≤ 12 ∧ wr = w2 ∧ Hid (∀ j, j < k → (l.getD j 0 != -9223372036854775808) = true)) (fun vk _ => 12 - (intOf vk).toNat)
  case atStart => exact ⟨0, rfl, by omega, rfl, fun j hj => by omega⟩
  case round =>
    obtain ⟨k, rfl, hk, rfl, OK⟩ := hrel
    by_cases hlt : (k : Int) < 12
    · have c0 := CE.out k (by omega)
      have i0 : (0 : Int) ≤ (k : Int) := by omega
      have KF : Hid ((l.getD k 0 == -9223372036854775808) = true → K = false) := fun h => HK.out.symm.trans (all_false k (by omega) (by show (!(_ == _)) = false; rw [h]; rfl))
      have KT : Hid ((l.getD k 0 == -9223372036854775808) = false → ∀ j, j < k + 1 → (l.getD j 0 != -9223372036854775808) = true) := fun h j hj => by
        by_cases e : j = k
        · subst e; show (!(_ == _)) = true; rw [h]; rfl
        · exact OK.out j (by omega)
      obtain ⟨b, hb⟩ : ∃ b, (l.getD k 0 == -9223372036854775808) = b := ⟨_, rfl⟩
      rw [hb] at KF KT
      generalize l.getD k 0 = x at *
      cases b
      · go_wp2_with fail
        go_roundw
        case rel => exact ⟨k + 1, by go_num, by omega, by first | rfl | trivial, KT.out (by first | rfl | trivial)⟩
        case measure => simp [intOf]; omega
      · obtain rfl : K = false := KF.out (by first | rfl | trivial)
        go_wp2_with fail
        go_ret
        exact ⟨rfl, BB.out⟩
    · obtain rfl : k = 12 := by omega
      obtain rfl : K = true := HK.out.symm.trans (all_true OK.out)
      go_wp2_with fail
      go_ret
      exact ⟨rfl, BB.out⟩
end Go.Proofs.YtkmmpffkmoaceabDoor
