/-
  Ours: the contracts of arrearsref1.whole, arrearsref1.Split.
-/
import Derived.Test.YtfdahdloihgjeacDoorSplitGo2
import Derived.Test.YtfdahdloihgjeacDoorRefFloor
import Derived.Test.YtfdahdloihgjeacDoorRefSum
namespace Go.Proofs.YtfdahdloihgjeacDoor
open Go.RowKit Stable Spl

/-- What the reference's whole has answered. -/
def WholeAns (T : Int) (ws : List Int) (e : Ending) : Prop :=
  ∃ V, e = .returned (.tuple #[.int .i64 V, .bool (decide (0 ≤ T) && adOk ws)]) ∧ (0 ≤ T → adOk ws = true → V = total ws)

set_option maxHeartbeats 1000000 in
theorem whole_full (T : Int) (ws : List Int) (g o cap : Nat) (w : World) (hx : I64 ws) (hl : ws.length ≤ 1048576) (hg : 0 < ws.length)
    (hc : ∀ i, i < ws.length → w.cell? ⟨g, o + i, none⟩ = some (.int .i64 (ws.getD i 0))) :
    Calls Tryd.prog 45 #[.int .i64 T, .slice (some ⟨g, o, none⟩) ws.length cap] w fun e w' =>
      WholeAns T ws e ∧ w' = w := by
  have SM : Hid (∀ w', w' = w → Calls Tryd.prog 30 #[.slice (some ⟨g, o, none⟩) ws.length cap] w' fun e w' => e = .returned (.tuple #[.int .i64 (smV (total ws)), .bool (smOk (total ws))]) ∧ w' = w) := fun w' h => by subst h; exact rsum_any ws g o cap _ hx hl hc
  obtain ⟨L, hL⟩ : ∃ L, ws.length = L := ⟨_, rfl⟩
  obtain ⟨K, HK⟩ : ∃ K, Hid ((decide (0 ≤ T) && adOk ws) = K) := ⟨_, rfl⟩
  have NO : Hid (¬ (0 ≤ T ∧ ws.length ≤ 1000 ∧ (∀ i, i < ws.length → 0 ≤ ws.getD i 0) ∧ smOk (total ws) = true ∧ total ws ≠ 0) → K = false) := fun h => by
    rw [← HK.out]
    by_cases t : 0 ≤ T
    · rw [(adOk_no (fun h' => h ⟨t, h'⟩)).1]; simp
    · simp [t]
  have YES : Hid ((0 ≤ T ∧ ws.length ≤ 1000 ∧ (∀ i, i < ws.length → 0 ≤ ws.getD i 0) ∧ smOk (total ws) = true ∧ total ws ≠ 0) → K = true) := fun h => by
    have e : adOk ws = true := decide_eq_true h.2
    rw [← HK.out, e]; simp [h.1]
  have ANS : Hid (∀ (v : Int) (b : Bool), b = K → (K = true → v = total ws) → WholeAns T ws (.returned (.tuple #[.int .i64 v, .bool b]))) := fun v b hb hv => ⟨v, by rw [hb, HK.out], fun a c => hv (by rw [← HK.out, c]; simp [a])⟩
  rw [hL] at hl hc hg SM NO YES ⊢
  have HLn : Hid (ws.length = L) := hL
  clear hL HK
  by_cases t0 : T < 0
  · have KK : Hid (WholeAns T ws (.returned (.tuple #[.int .i64 0, .bool false]))) := ANS.out 0 false (NO.out (fun h => by omega)).symm (fun h => by rw [NO.out (fun h => by omega)] at h; cases h)
    clear ANS NO YES
    go_enter Tryd.func45, Tryd.ntmps45
    go_wp2
    go_ret2
    exact ⟨KK.out, rfl⟩
  have d0 : decide (T < 0) = false := decide_eq_false t0
  have l0 : ((L : Int) == 0) = false := by rw [beq_eq_false_iff_ne]; omega
  by_cases h1 : 1000 < L
  · have KK : Hid (WholeAns T ws (.returned (.tuple #[.int .i64 0, .bool false]))) := ANS.out 0 false (NO.out (fun h => by omega)).symm (fun h => by rw [NO.out (fun h => by omega)] at h; cases h)
    clear ANS NO YES
    have h1' : (1000 : Int) < (L : Int) := by omega
    go_enter Tryd.func45, Tryd.ntmps45
    go_wp2
    go_ret2
    exact ⟨KK.out, rfl⟩
  have h1' : decide ((1000 : Int) < (L : Int)) = false := decide_eq_false (by omega)
  go_enter Tryd.func45, Tryd.ntmps45
  go_wp2
  go_loop [6] (fun ii => ∃ k : Nat, k ≤ L ∧ ii = .int .i64 (k : Int) ∧ ∀ i, i < k → 0 ≤ ws.getD i 0) (fun ii => L - (intOf ii).toNat)
  case atStart => exact ⟨0, by omega, rfl, fun i hi => by omega⟩
  case round =>
    obtain ⟨k, hk, rfl, hp⟩ := hrel
    have HP : Hid (∀ i, i < k → 0 ≤ ws.getD i 0) := hp
    clear hp
    by_cases hlt : (k : Int) < (L : Int)
    · have cx := hc k (by omega)
      by_cases hneg : ws.getD k 0 < 0
      · have n2 := NO.out (fun h => by have := h.2.2.1 k (by omega); omega)
        have FIN : Hid (WholeAns T ws (.returned (.tuple #[.int .i64 0, .bool false]))) := ANS.out 0 false n2.symm (fun h => absurd (n2.symm.trans h) (by decide))
        clear n2 NO YES hc ANS
        generalize ws.getD k 0 = x at *
        go_wp2
        go_ret2
        exact ⟨FIN.out, rfl⟩
      · have HP2 : Hid (∀ i, i < k + 1 → 0 ≤ ws.getD i 0) := fun i hi => by
          by_cases e : i = k
          · rw [e]; omega
          · exact HP.out i (by omega)
        clear hc HP
        generalize ws.getD k 0 = x at *
        go_wp2
        go_round
        case rel => exact ⟨k + 1, by omega, by go_num, HP2.out⟩
        case measure => simp [intOf]; omega
    · obtain rfl : k = L := by omega
      have sv : smV (total ws) = if smOk (total ws) then total ws else 0 := rfl
      have nn : 0 ≤ total ws := by
        have h := sumTo_total ws k (by rw [HLn.out]; exact Nat.le_refl _)
        rw [List.take_of_length_le (by rw [HLn.out]; exact Nat.le_refl _)] at h
        rw [← h]; exact sumTo_nonneg k HP.out
      have Y1 : Hid (smOk (total ws) = true → total ws ≠ 0 → K = true) := fun a b => YES.out ⟨by omega, by omega, HP.out, a, b⟩
      have N1 : Hid (smOk (total ws) = false ∨ total ws = 0 → K = false) := fun a => NO.out (fun h => by
        rcases a with a | a
        · rw [a] at h; exact absurd h.2.2.2.1 (by decide)
        · exact h.2.2.2.2 a)
      clear NO YES hc HP
      generalize smV (total ws) = sV at *
      generalize smOk (total ws) = sK at *
      generalize total ws = t at *
      cases sK
      · have n2 := N1.out (Or.inl rfl)
        have F2 : Hid (WholeAns T ws (.returned (.tuple #[.int .i64 sV, .bool false]))) := ANS.out sV false n2.symm (fun h => absurd (n2.symm.trans h) (by decide))
        clear sv Y1 N1 ANS n2
        go_wp2_with fail
        refine (SM.out _ rfl).mono ?_
        rintro e w1 ⟨rfl, hw⟩; rw [hw]; clear hw w1
        go_wp2_with fail
        go_ret2
        exact ⟨F2.out, rfl⟩
      · obtain rfl : sV = t := by simpa using sv
        by_cases z : sV = 0
        · have n2 := N1.out (Or.inr z)
          have F2 : Hid (WholeAns T ws (.returned (.tuple #[.int .i64 sV, .bool false]))) := ANS.out sV false n2.symm (fun h => absurd (n2.symm.trans h) (by decide))
          have z' : ¬ 0 < sV := by omega
          have z2 : decide (0 < sV) = false := decide_eq_false z'
          clear sv Y1 N1 ANS n2 z nn
          go_wp2_with fail
          refine (SM.out _ rfl).mono ?_
          rintro e w1 ⟨rfl, hw⟩; rw [hw]; clear hw w1
          go_wp2_with fail
          go_ret2
          exact ⟨F2.out, rfl⟩
        · have n2 := Y1.out rfl z
          have F2 : Hid (WholeAns T ws (.returned (.tuple #[.int .i64 sV, .bool true]))) := ANS.out sV true n2.symm (fun _ => rfl)
          have z' : 0 < sV := by omega
          clear sv Y1 N1 ANS n2 z nn
          go_wp2_with fail
          refine (SM.out _ rfl).mono ?_
          rintro e w1 ⟨rfl, hw⟩; rw [hw]; clear hw w1
          go_wp2_with fail
          go_ret2
          exact ⟨F2.out, rfl⟩

end Go.Proofs.YtfdahdloihgjeacDoor
