/-
  Ours: each account on its own side; one entry: LedgerAllOrNone.
-/
import Derived.Test.YtkmmpffkmoaceabDoorLedKept
import Derived.Test.YtkmmpffkmoaceabDoorLedPure
import Derived.Deep.CutRange
namespace Go.Proofs.YtkmmpffkmoaceabDoor
open Go.RowKit LedM

namespace LedM
theorem isD_le {k : Nat} (h : (k : Int) ≤ 3) : isD (k : Int) = true := by
  have : k = 0 ∨ k = 1 ∨ k = 2 ∨ k = 3 := by omega
  rcases this with rfl | rfl | rfl | rfl <;> rfl
theorem isD_no {k : Nat} (h : ¬ (k : Int) ≤ 3) (h9 : (k : Int) ≠ 9) (h11 : (k : Int) ≠ 11) : isD (k : Int) = false := by
  simp [isD]; omega
theorem ownB_d {k : Nat} {x : Int} (h : isD (k : Int) = true) : ownB k x = !decide (x < 0) := by
  unfold ownB; rw [h]
  by_cases h0 : x < 0
  · rw [decide_eq_true h0, decide_eq_false (p := 0 < x) (by omega), beq_eq_false_iff_ne.2 (by omega : x ≠ 0)]; rfl
  · rw [decide_eq_false h0]
    by_cases h1 : x = 0
    · subst h1; rfl
    · rw [decide_eq_true (p := 0 < x) (by omega)]; simp
theorem ownB_c {k : Nat} {x : Int} (h : isD (k : Int) = false) : ownB k x = !decide (0 < x) := by
  unfold ownB; rw [h]
  by_cases h0 : 0 < x
  · rw [decide_eq_true h0, beq_eq_false_iff_ne.2 (by omega : x ≠ 0)]; rfl
  · rw [decide_eq_false h0]; simp
end LedM

set_option maxRecDepth 20000 in
set_option maxHeartbeats 1000000 in
theorem ownSide_at (l : List Int) (w : World) (hl : BkOk l) (hT : TabD w) : Calls Tryd.prog 10 #[.agg (bkL l).toArray] w fun e w' => e = .returned (.bool (sidesB l)) ∧ Below w.heap.size w w' := by
  have NB : Blk w.heap.size 24 (bkL l) (w.alloc (.cells (bkL l).toArray 24)) := Blk.new 24 (bkL l) w
  have BB : Hid (Below w.heap.size w (w.alloc (.cells (bkL l).toArray 24))) := below_alloc w _
  have CE : Hid (∀ k, k < 12 → (w.alloc (.cells (bkL l).toArray 24)).cell? ⟨w.heap.size, k, none⟩ = some (.int .i64 (l.getD k 0))) := fun k hk => NB.cell k _ (bkL_at (by rw [hl.1]; exact hk))
  have DB0 : Hid (∀ a : Int, Calls Tryd.prog 15 #[.int .i64 a] (w.alloc (.cells (bkL l).toArray 24)) fun e w' => e = .returned (.bool (isD a)) ∧ w' = w.alloc (.cells (bkL l).toArray 24)) := fun a => debits_at a _ (hT.later BB.out)
  obtain ⟨K, HK⟩ : ∃ K, Hid (sidesB l = K) := ⟨_, rfl⟩
  rw [HK.out]
  clear hl hT NB
  go_enter Tryd.func10, Tryd.ntmps10
  go_wp2_with fail
  generalize w.alloc (.cells (bkL l).toArray 24) = w2 at *
  go_loopw [3, 4] (fun vk _ wr => ∃ k : Nat, vk = .int .i64 (k : Int) ∧ k ≤ 12 ∧ wr = w2 ∧ Hid (∀ j, j < k → ownB j (l.getD j 0) = true)) (fun vk _ _ => 12 - (intOf vk).toNat)
  case atStart => exact ⟨0, rfl, by omega, rfl, fun j hj => by omega⟩
  case round =>
    obtain ⟨k, rfl, hk, rfl, OK⟩ := hrel
    by_cases hlt : (k : Int) < 12
    · have c0 := CE.out k (by omega)
      have i0 : (0 : Int) ≤ (k : Int) := by omega
      have KF : Hid (ownB k (l.getD k 0) = false → K = false) := fun h => HK.out.symm.trans (all_false k (by omega) h)
      have KT : Hid (ownB k (l.getD k 0) = true → ∀ j, j < k + 1 → ownB j (l.getD j 0) = true) := fun h j hj => by
        by_cases e : j = k
        · subst e; exact h
        · exact OK.out j (by omega)
      have DB : Hid (Calls Tryd.prog 15 #[.int .i64 (k : Int)] wr fun e w' => e = .returned (.bool (isD (k : Int))) ∧ w' = wr) := DB0.out _
      by_cases h3 : (k : Int) ≤ 3
      · have hsd := isD_le h3
        have d3 : decide ((k : Int) ≤ 3) = true := decide_eq_true h3
        clear h3
        rw [ownB_d hsd] at KF KT
        rw [hsd] at DB
        generalize l.getD k 0 = x at *
        clear hsd
        go_wp2_with fail
        refine DB.out.mono ?_
        rintro e w3 ⟨rfl, rfl⟩
        by_cases hx : x < 0
        · have dx : decide (x < 0) = true := decide_eq_true hx
          obtain rfl : K = false := KF.out (by rw [dx]; rfl)
          clear hx KF KT
          go_wp2_with fail
          go_ret
          exact ⟨rfl, BB.out⟩
        · have dx : decide (x < 0) = false := decide_eq_false hx
          have KT' : Hid (∀ j, j < k + 1 → ownB j (l.getD j 0) = true) := KT.out (by rw [dx]; rfl)
          clear hx KF KT
          go_wp2_with fail
          go_roundw
          case rel => exact ⟨k + 1, by go_num, by omega, by first | rfl | trivial, KT'.out⟩
          case measure => simp [intOf]; omega
      have d3 : decide ((k : Int) ≤ 3) = false := decide_eq_false h3
      by_cases h9 : (k : Int) = 9
      · have hsd : isD (k : Int) = true := by rw [h9]; rfl
        have d9 : ((k : Int) == 9) = true := beq_iff_eq.2 h9
        clear h3 h9
        rw [ownB_d hsd] at KF KT
        rw [hsd] at DB
        generalize l.getD k 0 = x at *
        clear hsd
        go_wp2_with fail
        refine DB.out.mono ?_
        rintro e w3 ⟨rfl, rfl⟩
        by_cases hx : x < 0
        · have dx : decide (x < 0) = true := decide_eq_true hx
          obtain rfl : K = false := KF.out (by rw [dx]; rfl)
          clear hx KF KT
          go_wp2_with fail
          go_ret
          exact ⟨rfl, BB.out⟩
        · have dx : decide (x < 0) = false := decide_eq_false hx
          have KT' : Hid (∀ j, j < k + 1 → ownB j (l.getD j 0) = true) := KT.out (by rw [dx]; rfl)
          clear hx KF KT
          go_wp2_with fail
          go_roundw
          case rel => exact ⟨k + 1, by go_num, by omega, by first | rfl | trivial, KT'.out⟩
          case measure => simp [intOf]; omega
      have d9 : ((k : Int) == 9) = false := beq_eq_false_iff_ne.2 h9
      by_cases h11 : (k : Int) = 11
      · have hsd : isD (k : Int) = true := by rw [h11]; rfl
        have d11 : ((k : Int) == 11) = true := beq_iff_eq.2 h11
        clear h3 h9 h11
        rw [ownB_d hsd] at KF KT
        rw [hsd] at DB
        generalize l.getD k 0 = x at *
        clear hsd
        go_wp2_with fail
        refine DB.out.mono ?_
        rintro e w3 ⟨rfl, rfl⟩
        by_cases hx : x < 0
        · have dx : decide (x < 0) = true := decide_eq_true hx
          obtain rfl : K = false := KF.out (by rw [dx]; rfl)
          clear hx KF KT
          go_wp2_with fail
          go_ret
          exact ⟨rfl, BB.out⟩
        · have dx : decide (x < 0) = false := decide_eq_false hx
          have KT' : Hid (∀ j, j < k + 1 → ownB j (l.getD j 0) = true) := KT.out (by rw [dx]; rfl)
          clear hx KF KT
          go_wp2_with fail
          go_roundw
          case rel => exact ⟨k + 1, by go_num, by omega, by first | rfl | trivial, KT'.out⟩
          case measure => simp [intOf]; omega
      have d11 : ((k : Int) == 11) = false := beq_eq_false_iff_ne.2 h11
      have hsd := isD_no h3 h9 h11
      clear h3 h9 h11
      rw [ownB_c hsd] at KF KT
      rw [hsd] at DB
      generalize l.getD k 0 = x at *
      clear hsd
      go_wp2_with fail
      refine DB.out.mono ?_
      rintro e w3 ⟨rfl, rfl⟩
      by_cases hx : 0 < x
      · have dx : decide (0 < x) = true := decide_eq_true hx
        obtain rfl : K = false := KF.out (by rw [dx]; rfl)
        clear hx KF KT
        go_wp2_with fail
        go_ret
        exact ⟨rfl, BB.out⟩
      · have dx : decide (0 < x) = false := decide_eq_false hx
        have KT' : Hid (∀ j, j < k + 1 → ownB j (l.getD j 0) = true) := KT.out (by rw [dx]; rfl)
        clear hx KF KT
        go_wp2_with fail
        go_roundw
        case rel => exact ⟨k + 1, by go_num, by omega, by first | rfl | trivial, KT'.out⟩
        case measure => simp [intOf]; omega
    · obtain rfl : k = 12 := by omega
      obtain rfl : K = true := HK.out.symm.trans (all_true OK.out)
      go_wp2_with fail
      go_ret
      exact ⟨rfl, BB.out⟩

namespace LedM
theorem one_bad {l : List Int} {d c a : Int} (h : isA d = false ∨ isA c = false ∨ d = c) : postE l [⟨d, c, a⟩] = 80 := by
  have : entE ⟨d, c, a⟩ = 80 := by
    unfold entE
    rw [if_pos]
    simp
    rcases h with h | h | h
    · exact .inl (.inl h)
    · exact .inl (.inr h)
    · exact .inr h
  unfold postE faultE
  rw [this]; rfl
theorem one_fault {d c a : Int} (h1 : isA d = true) (h2 : isA c = true) (h3 : d ≠ c) : faultE [⟨d, c, a⟩] = if a < 1 then 4 else 0 := by
  have : entE ⟨d, c, a⟩ = if a < 1 then 4 else 0 := by
    unfold entE
    rw [if_neg (by simp [h1, h2, h3])]
  unfold faultE
  rw [this]
  split <;> rfl
theorem one_small {l : List Int} {d c a : Int} (h1 : isA d = true) (h2 : isA c = true) (h3 : d ≠ c) (h4 : a < 1) : postE l [⟨d, c, a⟩] = 4 := by
  unfold postE
  rw [one_fault h1 h2 h3, if_pos h4]; rfl
theorem one_vals {l : List Int} {d c a : Int} (h1 : isA d = true) (h2 : isA c = true) (h3 : d ≠ c) (h4 : ¬ a < 1) : postE l [⟨d, c, a⟩] = 0 ∨ postE l [⟨d, c, a⟩] = 3 ∨ postE l [⟨d, c, a⟩] = 81 := by
  unfold postE
  rw [one_fault h1 h2 h3, if_neg h4, if_pos rfl]
  split
  · split
    · exact .inl rfl
    · exact .inr (.inr rfl)
  · exact .inr (.inl rfl)
theorem postB_no {l : List Int} {es : List Ent} (h : postE l es ≠ 0) : postB l es = l := by unfold postB; rw [if_neg h]
theorem one_at {l : List Int} {d c a : Int} (h : postE l [⟨d, c, a⟩] = 0) (k : Nat) (hk : k < 12) : (postB l [⟨d, c, a⟩]).getD k 0 = l.getD k 0 + ((if d = (k : Int) then a else 0) - (if c = (k : Int) then a else 0)) := by
  rw [postB_zero h, moved_at _ _ k hk]
  simp [mv, mv1, total]
end LedM

end Go.Proofs.YtkmmpffkmoaceabDoor
