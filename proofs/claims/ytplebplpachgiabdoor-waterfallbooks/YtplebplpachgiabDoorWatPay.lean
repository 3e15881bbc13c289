/-
  Ours: payable.
-/
import Derived.Test.YtplebplpachgiabDoorWatTwM
namespace Go.Proofs.YtplebplpachgiabDoor
open Go.RowKit LedM WatM

set_option maxRecDepth 20000 in
set_option maxHeartbeats 1600000 in
theorem payable_at (o f i p a : Int) (w : World) : Calls Tryd.prog 4 #[.int .i64 o, .agg (bkL [f, i, p]).toArray, .int .i64 a] w fun e w' => e = .returned (.bool (payB o f i p a)) ∧ Below w.heap.size w w' := by
  have NB := Blk.new 23 (bkL [f, i, p]) w
  have b0 := NB.cell 0 _ rfl
  have b1 := NB.cell 1 _ rfl
  have b2 := NB.cell 2 _ rfl
  have BE : Hid (Below w.heap.size w (w.alloc (.cells (bkL [f, i, p]).toArray 23))) := below_alloc w _
  have PB : Hid (payB o f i p a = decide ((0 ≤ o ∧ o < 6) ∧ 0 ≤ f ∧ 0 ≤ i ∧ 0 ≤ p ∧ 1 ≤ a)) := rfl
  clear NB
  generalize hcs : bkL [f, i, p] = cs at *
  clear hcs
  generalize payB o f i p a = B at *
  by_cases h0 : 0 ≤ o
  · by_cases h1 : o ≤ 5
    · by_cases h2 : 0 ≤ f
      · by_cases h3 : 0 ≤ i
        · by_cases h4 : 0 ≤ p
          · by_cases h5 : 1 ≤ a
            · obtain rfl : B = true := by rw [PB.out]; exact decide_eq_true (by omega)
              go_enter Tryd.func4, Tryd.ntmps4
              go_wp2_with fail
              go_ret
              exact ⟨rfl, BE.out⟩
            · obtain rfl : B = false := by rw [PB.out]; exact decide_eq_false (by omega)
              go_enter Tryd.func4, Tryd.ntmps4
              go_wp2_with fail
              go_ret
              exact ⟨rfl, BE.out⟩
          · obtain rfl : B = false := by rw [PB.out]; exact decide_eq_false (by omega)
            go_enter Tryd.func4, Tryd.ntmps4
            go_wp2_with fail
            go_ret
            exact ⟨rfl, BE.out⟩
        · obtain rfl : B = false := by rw [PB.out]; exact decide_eq_false (by omega)
          go_enter Tryd.func4, Tryd.ntmps4
          go_wp2_with fail
          go_ret
          exact ⟨rfl, BE.out⟩
      · obtain rfl : B = false := by rw [PB.out]; exact decide_eq_false (by omega)
        go_enter Tryd.func4, Tryd.ntmps4
        go_wp2_with fail
        go_ret
        exact ⟨rfl, BE.out⟩
    · obtain rfl : B = false := by rw [PB.out]; exact decide_eq_false (by omega)
      go_enter Tryd.func4, Tryd.ntmps4
      go_wp2_with fail
      go_ret
      exact ⟨rfl, BE.out⟩
  · obtain rfl : B = false := by rw [PB.out]; exact decide_eq_false (by omega)
    go_enter Tryd.func4, Tryd.ntmps4
    go_wp2_with fail
    go_ret
    exact ⟨rfl, BE.out⟩
end Go.Proofs.YtplebplpachgiabDoor
