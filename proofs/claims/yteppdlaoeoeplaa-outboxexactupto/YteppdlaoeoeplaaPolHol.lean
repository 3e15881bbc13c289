/-
  Ours: the holidays, as the program and as the document look at them.
-/
import Derived.Test.YteppdlaoeoeplaaPolFld
import Derived.LoopTactic
import Derived.RegionTactic
namespace Go.Proofs.Yteppdlaoeoeplaa
open Go.RowKit LedM PolM

def pvI (hs : List Int) (k : Nat) : Int := if k = 0 then 0 else hs.getD (k - 1) 0
theorem hol_long {hs : List Int} (h : 64 < hs.length) : hol hs = false := by simp [hol]; intro h'; omega
theorem hol_bad {hs : List Int} (k : Nat) (hk : k < hs.length) (h : ¬ (pvI hs k < hs.getD k 0 ∧ hs.getD k 0 ≤ 3652059)) : hol hs = false := by
  rw [hol, ris_bad k hk h, Bool.and_false]
theorem hol_yes {hs : List Int} (hn : hs.length ≤ 64) (h : ∀ k, k < hs.length → pvI hs k < hs.getD k 0 ∧ hs.getD k 0 ≤ 3652059) : hol hs = true := by
  rw [hol, decide_eq_true hn, ris_of hs 0 h]; rfl
theorem rd_cells {w : World} {ao : Option Addr} {hs : List Int} (h : ∀ i (h : i < (bkL hs).length), ∃ g o, ao = some ⟨g, o, none⟩ ∧ g < w.heap.size ∧ w.cell? ⟨g, o + i, none⟩ = some (bkL hs)[i]) (k : Nat) (hk : k < hs.length) :
    ∃ g o, ao = some ⟨g, o, none⟩ ∧ g < w.heap.size ∧ w.cell? ⟨g, o + k, none⟩ = some (.int .i64 (hs.getD k 0)) := by
  obtain ⟨g, o, e, lt, hc⟩ := h k (by rw [bkL_len]; exact hk)
  refine ⟨g, o, e, lt, ?_⟩
  rw [hc]
  have := bkL_at hk
  rw [List.getElem?_eq_getElem (by rw [bkL_len]; exact hk)] at this
  exact this

set_option maxRecDepth 20000 in
set_option maxHeartbeats 1000000 in
theorem hmb_at (hs : List Int) (s : Value) (w : World) (hr : Rd w s (bkL hs)) (hb : hs.length ≤ 1152921504606846976) :
    Calls Try.prog 41 #[s] w fun e w' => e = .returned (.bool (hol hs)) ∧ w' = w := by
  obtain ⟨ao, cap, rfl, hcap, hno, H⟩ := hr
  rw [bkL_len] at hcap ⊢
  have CE : Hid (∀ k, k < hs.length → ∃ g o, ao = some ⟨g, o, none⟩ ∧ g < w.heap.size ∧ w.cell? ⟨g, o + k, none⟩ = some (.int .i64 (hs.getD k 0))) := rd_cells H
  have HL : Hid (64 < hs.length → hol hs = false) := hol_long
  have HB : Hid (∀ k, k < hs.length → ¬ (pvI hs k < hs.getD k 0 ∧ hs.getD k 0 ≤ 3652059) → hol hs = false) := fun k => hol_bad k
  have HY : Hid (hs.length ≤ 64 → (∀ k, k < hs.length → pvI hs k < hs.getD k 0 ∧ hs.getD k 0 ≤ 3652059) → hol hs = true) := hol_yes
  clear H hno
  generalize hs.length = N at *
  generalize hol hs = B at *
  by_cases h64 : 64 < N
  · obtain rfl := HL.out h64
    go_enter Try.func41, Try.ntmps41
    go_wp2_with fail
    go_ret
    exact ⟨rfl, rfl⟩
  · go_enter Try.func41, Try.ntmps41
    go_wp2_with fail
    go_loopw [3, 5, 11] (fun vb _ vk wr => ∃ k : Nat, vk = .int .i64 (k : Int) ∧ k ≤ N ∧ vb = .int .i64 (pvI hs k) ∧ Hid (∀ j, j < k → pvI hs j < hs.getD j 0 ∧ hs.getD j 0 ≤ 3652059) ∧ wr = w) (fun _ _ vk _ => N - (intOf vk).toNat)
    case atStart => exact ⟨0, rfl, by omega, rfl, fun j hj => by omega, rfl⟩
    case round =>
      obtain ⟨k, rfl, hk, rfl, RO, rfl⟩ := hrel
      by_cases hlt : (k : Int) < (N : Int)
      · obtain ⟨g, o, rfl, lt, hc⟩ := CE.out k (by omega)
        have NX : Hid (pvI hs (k + 1) = hs.getD k 0) := by show pvI hs (k + 1) = _; simp [pvI]
        have HB' := HB.out k (by omega)
        have HK : Hid (¬ (pvI hs k < hs.getD k 0 ∧ hs.getD k 0 ≤ 3652059) → B = false) := HB'
        clear HB' CE HB HL HY
        have RN : Hid (pvI hs k < hs.getD k 0 ∧ hs.getD k 0 ≤ 3652059 → ∀ j, j < k + 1 → pvI hs j < hs.getD j 0 ∧ hs.getD j 0 ≤ 3652059) := fun h j hj => by
          by_cases e : j = k
          · subst e; exact h
          · exact RO.out j (by omega)
        clear RO
        generalize hp : pvI hs k = p at *
        generalize hd : hs.getD k 0 = d at *
        have HP : Hid (pvI hs k = p) := hp
        have HD : Hid (hs.getD k 0 = d) := hd
        clear hp hd
        by_cases h1 : d ≤ p
        · obtain rfl := HK.out (by omega)
          go_wp2_with fail
          go_ret
          exact ⟨rfl, rfl⟩
        · by_cases h2 : 3652059 < d
          · obtain rfl := HK.out (by omega)
            go_wp2_with fail
            go_ret
            exact ⟨rfl, rfl⟩
          · go_wp2_with fail
            go_roundw
            case rel => exact ⟨k + 1, by go_num, by omega, by rw [NX.out], RN.out ⟨by omega, by omega⟩, trivial⟩
            case measure => simp [intOf]; omega
      · obtain rfl : k = N := by omega
        obtain rfl := HY.out (by omega) RO.out
        go_wp2_with fail
        go_ret
        exact ⟨rfl, rfl⟩
end Go.Proofs.Yteppdlaoeoeplaa
