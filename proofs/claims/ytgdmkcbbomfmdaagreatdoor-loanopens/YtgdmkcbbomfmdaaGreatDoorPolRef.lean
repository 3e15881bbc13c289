/-
  Ours: the document's holidays, may, Check, good (gen_polref.py).
-/
import Derived.Test.YtgdmkcbbomfmdaaGreatDoorPolHol
import Derived.Deep.QuietTactic
import Derived.BigQuiet
namespace Go.Proofs.YtgdmkcbbomfmdaaGreatDoor
open Go.RowKit LedM PolM

theorem chain_pos {hs : List Int} {k : Nat} (h : ∀ j, j < k → pvI hs j < hs.getD j 0 ∧ hs.getD j 0 ≤ 3652059) : ∀ j, j < k → 0 < hs.getD j 0
  | 0, hj => by have := h 0 hj; simpa [pvI] using this.1
  | j + 1, hj => by
    have h1 := chain_pos h j (by omega)
    have h2 := (h (j + 1) hj).1
    have e : pvI hs (j + 1) = hs.getD j 0 := by simp [pvI]
    omega
set_option maxRecDepth 20000 in
set_option maxHeartbeats 2000000 in
theorem rhol_at (hs : List Int) (s : Value) (w : World) (hr : Rd w s (bkL hs)) (hb : hs.length ≤ 1152921504606846976) :
    Calls Tryz.prog 91 #[s] w fun e w' => e = .returned (.bool (hol hs)) ∧ Below w.heap.size w w' := by
  obtain ⟨ao, cap, rfl, hcap, hno, H⟩ := hr
  rw [bkL_len] at hcap ⊢
  have CE : Hid (∀ k, k < hs.length → ∃ g o, ao = some ⟨g, o, none⟩ ∧ g < w.heap.size ∧ w.cell? ⟨g, o + k, none⟩ = some (.int .i64 (hs.getD k 0))) := rd_cells H
  have HL : Hid (64 < hs.length → hol hs = false) := hol_long
  have HB : Hid (∀ k, k < hs.length → ¬ (pvI hs k < hs.getD k 0 ∧ hs.getD k 0 ≤ 3652059) → hol hs = false) := fun k => hol_bad k
  have HY : Hid (hs.length ≤ 64 → (∀ k, k < hs.length → pvI hs k < hs.getD k 0 ∧ hs.getD k 0 ≤ 3652059) → hol hs = true) := hol_yes
  have PS : Hid (∀ k, pvI hs (k + 1) = hs.getD k 0) := fun k => by simp [pvI]
  have P0 : Hid (pvI hs 0 = 0) := rfl
  clear H hno
  generalize hs.length = N at *
  generalize hol hs = B at *
  by_cases h64 : 64 < N
  · obtain rfl := HL.out h64
    go_enter Tryz.func91, Tryz.ntmps91
    go_wp2_with fail
    go_ret
    exact ⟨rfl, Below.refl _ _⟩
  · go_enter Tryz.func91, Tryz.ntmps91
    go_wp2_with fail
    go_loopw [3] (fun vk wr => ∃ m k : Nat, wr = w.drewN m ∧ vk = .int .i64 (k : Int) ∧ k ≤ N ∧ Hid (∀ j, j < k → pvI hs j < hs.getD j 0 ∧ hs.getD j 0 ≤ 3652059)) (fun vk _ => N - (intOf vk).toNat)
    case atStart => exact ⟨0, 0, rfl, rfl, by omega, fun j hj => by omega⟩
    case round =>
      obtain ⟨m, k, rfl, rfl, hk, RO⟩ := hrel
      by_cases hlt : (k : Int) < (N : Int)
      · obtain ⟨g, o, rfl, lt, c0⟩ := CE.out k (by omega)
        have RN : Hid (pvI hs k < hs.getD k 0 ∧ hs.getD k 0 ≤ 3652059 → ∀ j, j < k + 1 → pvI hs j < hs.getD j 0 ∧ hs.getD j 0 ≤ 3652059) := fun h j hj => by
          by_cases e : j = k
          · subst e; exact h
          · exact RO.out j (by omega)
        have HK : Hid (¬ (pvI hs k < hs.getD k 0 ∧ hs.getD k 0 ≤ 3652059) → B = false) := HB.out k (by omega)
        rcases Nat.eq_zero_or_pos k with k0 | kp
        · subst k0
          rw [P0.out] at HK RN
          have c00 : w.cell? ⟨g, o, none⟩ = some (.int .i64 (hs.getD 0 0)) := c0
          clear HB HL HY RO CE PS P0 c0
          generalize hs.getD 0 0 = d at *
          by_cases h1 : d < 1
          · obtain rfl := HK.out (by omega)
            have g1 : decide (d < 1) = true := decide_eq_true h1
            go_wp2_with fail
            go_quiet (fail)
            go_wp2_with fail
            go_ret
            exact ⟨rfl, below_drewN (below_drewN (Below.refl _ _) _) _⟩
          · have g1 : decide (d < 1) = false := decide_eq_false h1
            by_cases h2 : 3652059 < d
            · obtain rfl := HK.out (by omega)
              have g2 : decide (3652059 < d) = true := decide_eq_true h2
              go_wp2_with fail
              go_quiet (fail)
              go_wp2_with fail
              go_ret
              exact ⟨rfl, below_drewN (below_drewN (Below.refl _ _) _) _⟩
            · have RX : Hid (∀ j, j < 0 + 1 → pvI hs j < hs.getD j 0 ∧ hs.getD j 0 ≤ 3652059) := RN.out ⟨by omega, by omega⟩
              have g2 : decide (3652059 < d) = false := decide_eq_false h2
              clear RN HK
              go_wp2_with fail
              go_quiet (fail)
              go_wp2_with fail
              go_roundw
              case rel => exact ⟨m + nq, 0 + 1, by simp, by go_num, by omega, RX.out⟩
              case measure => simp [intOf]; omega
        · obtain ⟨n, rfl⟩ : ∃ n, k = n + 1 := ⟨k - 1, by omega⟩
          obtain ⟨g', o', e', -, c1⟩ := CE.out n (by omega)
          injection e' with e'
          injection e' with e1 e2
          subst e1 e2
          have LO := chain_pos (k := n + 1) RO.out n (by omega)
          have g0 : decide ((0 : Int) < ((n + 1 : Nat) : Int)) = true := decide_eq_true (by omega)
          rw [PS.out] at HK RN
          clear HB HL HY RO CE PS P0
          generalize hs.getD (n + 1) 0 = d at *
          generalize hp : hs.getD n 0 = p at *
          clear hp
          by_cases h1 : d < 1
          · obtain rfl := HK.out (by omega)
            have g1 : decide (d < 1) = true := decide_eq_true h1
            go_wp2_with fail
            go_quiet (fail)
            go_wp2_with fail
            go_ret
            exact ⟨rfl, below_drewN (below_drewN (Below.refl _ _) _) _⟩
          · have g1 : decide (d < 1) = false := decide_eq_false h1
            by_cases h2 : 3652059 < d
            · obtain rfl := HK.out (by omega)
              have g2 : decide (3652059 < d) = true := decide_eq_true h2
              go_wp2_with fail
              go_quiet (fail)
              go_wp2_with fail
              go_ret
              exact ⟨rfl, below_drewN (below_drewN (Below.refl _ _) _) _⟩
            · have g2 : decide (3652059 < d) = false := decide_eq_false h2
              by_cases h3 : d ≤ p
              · obtain rfl := HK.out (by omega)
                have g3 : decide (d ≤ p) = true := decide_eq_true h3
                go_wp2_with fail
                go_quiet (fail)
                go_wp2_with fail
                go_ret
                exact ⟨rfl, below_drewN (below_drewN (Below.refl _ _) _) _⟩
              · have RX : Hid (∀ j, j < n + 1 + 1 → pvI hs j < hs.getD j 0 ∧ hs.getD j 0 ≤ 3652059) := RN.out ⟨by omega, by omega⟩
                have g3 : decide (d ≤ p) = false := decide_eq_false h3
                clear RN HK
                go_wp2_with fail
                go_quiet (fail)
                go_wp2_with fail
                go_roundw
                case rel => exact ⟨m + nq, n + 1 + 1, by simp, by go_num, by omega, RX.out⟩
                case measure => simp [intOf]; omega
      · obtain rfl : k = N := by omega
        obtain rfl := HY.out (by omega) RO.out
        go_wp2_with fail
        go_ret
        exact ⟨rfl, below_drewN (Below.refl _ _) m⟩
end Go.Proofs.YtgdmkcbbomfmdaaGreatDoor