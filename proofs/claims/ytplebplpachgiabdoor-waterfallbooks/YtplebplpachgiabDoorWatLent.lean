/-
  Ours: the books of a loan; small amounts.
-/
import Derived.Test.YtplebplpachgiabDoorWatBkM
namespace Go.Proofs.YtplebplpachgiabDoor
open Go.RowKit LedM WatM
namespace WatM
def smB (f i p a s : Int) : Bool := decide (f ≤ 1000000000000000 ∧ i ≤ 1000000000000000 ∧ p ≤ 1000000000000000 ∧ a ≤ 1000000000000000 ∧ 0 ≤ s ∧ s ≤ 1000000000000000)
end WatM

set_option maxRecDepth 20000 in
set_option maxHeartbeats 1600000 in
theorem lent_at (f i p s : Int) (w : World) (hf : 0 ≤ f ∧ f ≤ 1000000000000000) (hi : 0 ≤ i ∧ i ≤ 1000000000000000) (hp : 0 ≤ p ∧ p ≤ 1000000000000000) (hs : 0 ≤ s ∧ s ≤ 1000000000000000) :
    Calls Tryd.prog 8 #[.agg (bkL [f, i, p]).toArray, .int .i64 s] w fun e w' => e = .returned (.agg (bkL (lentL f i p s)).toArray) ∧ Below w.heap.size w w' := by
  show Calls Tryd.prog 8 #[.agg #[.int .i64 f, .int .i64 i, .int .i64 p], .int .i64 s] w fun e w' => e = .returned (.agg (bkL [0, p, i, f, 0, 0, -p - s, -i, -f, s, 0, 0]).toArray) ∧ Below w.heap.size w w'
  have BB : Hid (∀ a b c : Obj, Below w.heap.size w (((w.alloc a).alloc b).alloc c)) := fun a b c => ((below_alloc w a).alloc (by simp) b).alloc (by simp; omega) c
  go_enter Tryd.func8, Tryd.ntmps8
  go_wp2_with fail
  refine ret_blk rfl rfl (w.heap.size + 1) 34 (bkL [0, p, i, f, 0, 0, -p - s, -i, -f, s, 0, 0]) _ rfl ((Blk.new2 34 (bkL [0, p, i, f, 0, 0, -p - s, -i, -f, s, 0, 0]) w _).old _) Tryd.underlying34 rfl (infoBl rfl) ?_
  exact ⟨rfl, BB.out _ _ _⟩

set_option maxRecDepth 20000 in
set_option maxHeartbeats 1600000 in
theorem small_at (f i p a s : Int) (w : World) : Calls Tryd.prog 5 #[.agg (bkL [f, i, p]).toArray, .int .i64 a, .int .i64 s] w fun e w' => e = .returned (.bool (smB f i p a s)) ∧ Below w.heap.size w w' := by
  show Calls Tryd.prog 5 #[.agg #[.int .i64 f, .int .i64 i, .int .i64 p], .int .i64 a, .int .i64 s] w fun e w' => e = .returned (.bool (smB f i p a s)) ∧ Below w.heap.size w w'
  have BE : Hid (∀ o : Obj, Below w.heap.size w (w.alloc o)) := fun o => below_alloc w o
  have PB : Hid (smB f i p a s = decide (f ≤ 1000000000000000 ∧ i ≤ 1000000000000000 ∧ p ≤ 1000000000000000 ∧ a ≤ 1000000000000000 ∧ 0 ≤ s ∧ s ≤ 1000000000000000)) := rfl
  generalize smB f i p a s = B at *
  by_cases h0 : f ≤ 1000000000000000
  · by_cases h1 : i ≤ 1000000000000000
    · by_cases h2 : p ≤ 1000000000000000
      · by_cases h3 : a ≤ 1000000000000000
        · by_cases h4 : 0 ≤ s
          · by_cases h5 : s ≤ 1000000000000000
            · obtain rfl : B = true := by rw [PB.out]; exact decide_eq_true (by omega)
              go_enter Tryd.func5, Tryd.ntmps5
              go_wp2_with fail
              go_ret
              exact ⟨rfl, BE.out _⟩
            · obtain rfl : B = false := by rw [PB.out]; exact decide_eq_false (by omega)
              go_enter Tryd.func5, Tryd.ntmps5
              go_wp2_with fail
              go_ret
              exact ⟨rfl, BE.out _⟩
          · obtain rfl : B = false := by rw [PB.out]; exact decide_eq_false (by omega)
            go_enter Tryd.func5, Tryd.ntmps5
            go_wp2_with fail
            go_ret
            exact ⟨rfl, BE.out _⟩
        · obtain rfl : B = false := by rw [PB.out]; exact decide_eq_false (by omega)
          go_enter Tryd.func5, Tryd.ntmps5
          go_wp2_with fail
          go_ret
          exact ⟨rfl, BE.out _⟩
      · obtain rfl : B = false := by rw [PB.out]; exact decide_eq_false (by omega)
        go_enter Tryd.func5, Tryd.ntmps5
        go_wp2_with fail
        go_ret
        exact ⟨rfl, BE.out _⟩
    · obtain rfl : B = false := by rw [PB.out]; exact decide_eq_false (by omega)
      go_enter Tryd.func5, Tryd.ntmps5
      go_wp2_with fail
      go_ret
      exact ⟨rfl, BE.out _⟩
  · obtain rfl : B = false := by rw [PB.out]; exact decide_eq_false (by omega)
    go_enter Tryd.func5, Tryd.ntmps5
    go_wp2_with fail
    go_ret
    exact ⟨rfl, BE.out _⟩
end Go.Proofs.YtplebplpachgiabDoor
