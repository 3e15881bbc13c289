/-
  Ours: the names of the statuses (gen_conam.py).
-/
import Derived.Test.YtmbbigkpeefjjabDoorCoStl
namespace Go.Proofs.YtmbbigkpeefjjabDoor
open Go.RowKit LedM PolM CoM
namespace CoM
def wdB : Nat → ByteArray
  | 1 => ⟨#[99, 117, 114, 114, 101, 110, 116]⟩
  | 2 => ⟨#[103, 114, 97, 99, 101]⟩
  | 3 => ⟨#[100, 101, 108, 105, 110, 113, 117, 101, 110, 116]⟩
  | 4 => ⟨#[112, 114, 111, 109, 105, 115, 101, 100]⟩
  | 5 => ⟨#[110, 111, 110, 45, 97, 99, 99, 114, 117, 97, 108]⟩
  | 6 => ⟨#[99, 117, 114, 101, 100]⟩
  | 7 => ⟨#[114, 101, 115, 116, 114, 117, 99, 116, 117, 114, 101, 100]⟩
  | 8 => ⟨#[99, 104, 97, 114, 103, 101, 100, 45, 111, 102, 102]⟩
  | 9 => ⟨#[99, 108, 111, 115, 101, 100]⟩
  | _ => ⟨#[]⟩
def nmB (x : Int) : ByteArray := if 0 ≤ x ∧ x < 10 then wdB x.toNat else ⟨#[]⟩
end CoM
/-- The table of words, where it lies. -/
def TabW (w : World) : Prop := ∀ n : Nat, n < 10 → w.cell? ⟨0, n, none⟩ = some (.string (wdB n))
theorem TabW.later {w w' : World} {B : Nat} (h : TabW w) (hB : 0 < B) (hb : Below B w w') : TabW w' := fun n hn => (hb.cell (p := ⟨0, n, none⟩) hB).trans (h n hn)
theorem TabW.lt {w : World} (h : TabW w) : 0 < w.heap.size := World.block_lt_of_cell? w _ (h 0 (by decide))
set_option maxRecDepth 40000 in
set_option maxHeartbeats 1000000 in
theorem name_at (x : Int) (w : World) (hT : TabW w) : Calls Tryd.prog 8 #[.int .i64 x] w fun e w' => e = .returned (.string (nmB x)) ∧ w' = w := by
  by_cases h0 : x < 0
  · have HE : Hid (nmB x = ⟨#[]⟩) := by show _ = _; unfold nmB; rw [if_neg (by omega)]
    have d0 : decide (x < 0) = true := decide_eq_true h0
    clear h0 hT
    go_enter Tryd.func8, Tryd.ntmps8
    go_wp2_with fail
    go_ret
    exact ⟨by rw [HE.out]; rfl, rfl⟩
  · by_cases h1 : 10 ≤ x
    · have HE : Hid (nmB x = ⟨#[]⟩) := by show _ = _; unfold nmB; rw [if_neg (by omega)]
      have d0 : decide (x < 0) = false := decide_eq_false h0
      have d1 : decide (10 ≤ x) = true := decide_eq_true h1
      clear h0 h1 hT
      go_enter Tryd.func8, Tryd.ntmps8
      go_wp2_with fail
      go_ret
      exact ⟨by rw [HE.out]; rfl, rfl⟩
    · obtain ⟨n, rfl⟩ : ∃ n : Nat, x = (n : Int) := ⟨x.toNat, by omega⟩
      have hn : n < 10 := by omega
      have HE : Hid (nmB (n : Int) = wdB n) := by show _ = _; unfold nmB; rw [if_pos ⟨by omega, by omega⟩]; simp
      have d0 : decide ((n : Int) < 0) = false := decide_eq_false h0
      have d1 : decide (10 ≤ (n : Int)) = false := decide_eq_false h1
      have hc := hT n hn
      generalize wdB n = s at *
      clear hT
      go_enter Tryd.func8, Tryd.ntmps8
      go_wp2_with fail
      go_ret
      exact ⟨by rw [HE.out]; rfl, rfl⟩
set_option maxRecDepth 40000 in
set_option maxHeartbeats 2000000 in
theorem rname_at (x : Int) (w : World) : Calls Tryd.prog 9 #[.int .i64 x] w fun e w' => e = .returned (.string (nmB x)) ∧ w' = w := by
  by_cases h1 : x = 1
  · have HE : Hid (nmB x = ⟨#[99, 117, 114, 114, 101, 110, 116]⟩) := by show _ = _; rw [h1]; rfl
    have k1 : (x == 1) = true := by simp [h1]
    clear h1
    go_enter Tryd.func9, Tryd.ntmps9
    go_wp2_with fail
    go_ret
    exact ⟨by rw [HE.out]; rfl, rfl⟩
  · by_cases h2 : x = 2
    · have HE : Hid (nmB x = ⟨#[103, 114, 97, 99, 101]⟩) := by show _ = _; rw [h2]; rfl
      have k1 : (x == 1) = false := by simp [h2]
      have k2 : (x == 2) = true := by simp [h2]
      clear h2
      go_enter Tryd.func9, Tryd.ntmps9
      go_wp2_with fail
      go_ret
      exact ⟨by rw [HE.out]; rfl, rfl⟩
    · by_cases h3 : x = 3
      · have HE : Hid (nmB x = ⟨#[100, 101, 108, 105, 110, 113, 117, 101, 110, 116]⟩) := by show _ = _; rw [h3]; rfl
        have k1 : (x == 1) = false := by simp [h3]
        have k2 : (x == 2) = false := by simp [h3]
        have k3 : (x == 3) = true := by simp [h3]
        clear h3
        go_enter Tryd.func9, Tryd.ntmps9
        go_wp2_with fail
        go_ret
        exact ⟨by rw [HE.out]; rfl, rfl⟩
      · by_cases h4 : x = 4
        · have HE : Hid (nmB x = ⟨#[112, 114, 111, 109, 105, 115, 101, 100]⟩) := by show _ = _; rw [h4]; rfl
          have k1 : (x == 1) = false := by simp [h4]
          have k2 : (x == 2) = false := by simp [h4]
          have k3 : (x == 3) = false := by simp [h4]
          have k4 : (x == 4) = true := by simp [h4]
          clear h4
          go_enter Tryd.func9, Tryd.ntmps9
          go_wp2_with fail
          go_ret
          exact ⟨by rw [HE.out]; rfl, rfl⟩
        · by_cases h5 : x = 5
          · have HE : Hid (nmB x = ⟨#[110, 111, 110, 45, 97, 99, 99, 114, 117, 97, 108]⟩) := by show _ = _; rw [h5]; rfl
            have k1 : (x == 1) = false := by simp [h5]
            have k2 : (x == 2) = false := by simp [h5]
            have k3 : (x == 3) = false := by simp [h5]
            have k4 : (x == 4) = false := by simp [h5]
            have k5 : (x == 5) = true := by simp [h5]
            clear h5
            go_enter Tryd.func9, Tryd.ntmps9
            go_wp2_with fail
            go_ret
            exact ⟨by rw [HE.out]; rfl, rfl⟩
          · by_cases h6 : x = 6
            · have HE : Hid (nmB x = ⟨#[99, 117, 114, 101, 100]⟩) := by show _ = _; rw [h6]; rfl
              have k1 : (x == 1) = false := by simp [h6]
              have k2 : (x == 2) = false := by simp [h6]
              have k3 : (x == 3) = false := by simp [h6]
              have k4 : (x == 4) = false := by simp [h6]
              have k5 : (x == 5) = false := by simp [h6]
              have k6 : (x == 6) = true := by simp [h6]
              clear h6
              go_enter Tryd.func9, Tryd.ntmps9
              go_wp2_with fail
              go_ret
              exact ⟨by rw [HE.out]; rfl, rfl⟩
            · by_cases h7 : x = 7
              · have HE : Hid (nmB x = ⟨#[114, 101, 115, 116, 114, 117, 99, 116, 117, 114, 101, 100]⟩) := by show _ = _; rw [h7]; rfl
                have k1 : (x == 1) = false := by simp [h7]
                have k2 : (x == 2) = false := by simp [h7]
                have k3 : (x == 3) = false := by simp [h7]
                have k4 : (x == 4) = false := by simp [h7]
                have k5 : (x == 5) = false := by simp [h7]
                have k6 : (x == 6) = false := by simp [h7]
                have k7 : (x == 7) = true := by simp [h7]
                clear h7
                go_enter Tryd.func9, Tryd.ntmps9
                go_wp2_with fail
                go_ret
                exact ⟨by rw [HE.out]; rfl, rfl⟩
              · by_cases h8 : x = 8
                · have HE : Hid (nmB x = ⟨#[99, 104, 97, 114, 103, 101, 100, 45, 111, 102, 102]⟩) := by show _ = _; rw [h8]; rfl
                  have k1 : (x == 1) = false := by simp [h8]
                  have k2 : (x == 2) = false := by simp [h8]
                  have k3 : (x == 3) = false := by simp [h8]
                  have k4 : (x == 4) = false := by simp [h8]
                  have k5 : (x == 5) = false := by simp [h8]
                  have k6 : (x == 6) = false := by simp [h8]
                  have k7 : (x == 7) = false := by simp [h8]
                  have k8 : (x == 8) = true := by simp [h8]
                  clear h8
                  go_enter Tryd.func9, Tryd.ntmps9
                  go_wp2_with fail
                  go_ret
                  exact ⟨by rw [HE.out]; rfl, rfl⟩
                · by_cases h9 : x = 9
                  · have HE : Hid (nmB x = ⟨#[99, 108, 111, 115, 101, 100]⟩) := by show _ = _; rw [h9]; rfl
                    have k1 : (x == 1) = false := by simp [h9]
                    have k2 : (x == 2) = false := by simp [h9]
                    have k3 : (x == 3) = false := by simp [h9]
                    have k4 : (x == 4) = false := by simp [h9]
                    have k5 : (x == 5) = false := by simp [h9]
                    have k6 : (x == 6) = false := by simp [h9]
                    have k7 : (x == 7) = false := by simp [h9]
                    have k8 : (x == 8) = false := by simp [h9]
                    have k9 : (x == 9) = true := by simp [h9]
                    clear h9
                    go_enter Tryd.func9, Tryd.ntmps9
                    go_wp2_with fail
                    go_ret
                    exact ⟨by rw [HE.out]; rfl, rfl⟩
                  · have HE : Hid (nmB x = ⟨#[]⟩) := by
                      show _ = _
                      unfold nmB
                      split
                      · rename_i hh
                        obtain rfl : x = 0 := by omega
                        rfl
                      · rfl
                    have k1 : (x == 1) = false := by simp [h1]
                    have k2 : (x == 2) = false := by simp [h2]
                    have k3 : (x == 3) = false := by simp [h3]
                    have k4 : (x == 4) = false := by simp [h4]
                    have k5 : (x == 5) = false := by simp [h5]
                    have k6 : (x == 6) = false := by simp [h6]
                    have k7 : (x == 7) = false := by simp [h7]
                    have k8 : (x == 8) = false := by simp [h8]
                    have k9 : (x == 9) = false := by simp [h9]
                    clear h1 h2 h3 h4 h5 h6 h7 h8 h9
                    go_enter Tryd.func9, Tryd.ntmps9
                    go_wp2_with fail
                    go_ret
                    exact ⟨by rw [HE.out]; rfl, rfl⟩
set_option maxRecDepth 40000 in
set_option maxHeartbeats 2000000 in
theorem names_at (x : Int) (w : World) (hT : TabW w) : Calls Tryd.prog 7 #[.int .i64 x] w fun e w' => e = .returned (.bool true) ∧ w' = w := by
  have N1 : Hid (Calls Tryd.prog 8 #[.int .i64 x] w fun e w' => e = .returned (.string (nmB x)) ∧ w = w') := (name_at x w hT).mono fun e w' h => ⟨h.1, h.2.symm⟩
  have N2 : Hid (Calls Tryd.prog 9 #[.int .i64 x] w fun e w' => e = .returned (.string (nmB x)) ∧ w = w') := (rname_at x w).mono fun e w' h => ⟨h.1, h.2.symm⟩
  have N3 : Hid (Calls Tryd.prog 8 #[.int .i64 8] w fun e w' => e = .returned (.string ⟨#[99, 104, 97, 114, 103, 101, 100, 45, 111, 102, 102]⟩) ∧ w = w') := (name_at 8 w hT).mono fun e w' h => ⟨h.1, h.2.symm⟩
  generalize nmB x = s at *
  clear hT
  go_enter Tryd.func7, Tryd.ntmps7
  go_wp2_with fail
  refine N1.out.mono ?_
  rintro e w1 ⟨rfl, hw⟩
  subst hw
  go_wp2_with fail
  refine N2.out.mono ?_
  rintro e w1 ⟨rfl, hw⟩
  subst hw
  go_wp2_with fail
  refine N3.out.mono ?_
  rintro e w1 ⟨rfl, hw⟩
  subst hw
  go_wp2_with fail
  go_ret
  exact ⟨rfl, rfl⟩
end Go.Proofs.YtmbbigkpeefjjabDoor
