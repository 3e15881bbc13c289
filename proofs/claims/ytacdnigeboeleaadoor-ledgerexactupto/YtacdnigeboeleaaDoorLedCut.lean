/-
  Ours: a list of entries, cut.
-/
import Derived.Test.YtacdnigeboeleaaDoorLedCat
namespace Go.Proofs.YtacdnigeboeleaaDoor
open Go.RowKit LedM

theorem RdE.cutlo {w : World} {a : Option Addr} {n c : Nat} {es : List Ent} (h : RdE w (.slice a n c) es) {k : Nat} (hk : k ≤ n) : RdE w (sliced a k n c 3) (es.drop k) := by
  obtain ⟨ao, cap, e, h1, h2, h3⟩ := id h
  injection e with e1 e2 e3
  subst e1 e3
  unfold sliced
  by_cases hc : c = k
  · rw [if_pos hc]
    have : es.drop k = [] := List.drop_eq_nil_of_le (by omega)
    rw [this]
    exact ⟨a, c - k, by rw [show n - k = 0 from by omega]; rfl, Nat.zero_le _, (fun h => by have := h2 h; omega), fun i hi => by simp at hi⟩
  · rw [if_neg hc]
    cases a with
    | none => exact absurd (h2 rfl) (by omega)
    | some ad =>
      by_cases hn : n = 0
      · have : es.drop k = [] := List.drop_eq_nil_of_le (by omega)
        rw [this]
        exact ⟨_, c - k, by rw [show n - k = 0 from by omega]; rfl, Nat.zero_le _, (fun h => by cases h), fun i hi => by simp at hi⟩
      · obtain ⟨g, o, e, _⟩ := h3 0 (by omega)
        cases e
        have hadd : (⟨g, o, none⟩ : Addr).add (k * 3) = ⟨g, o + k * 3, none⟩ := by unfold Addr.add; split <;> simp_all
        show RdE w (.slice (some ((⟨g, o, none⟩ : Addr).add (k * 3))) (n - k) (c - k)) _
        rw [hadd]
        exact h.drop hk
theorem sizeE : (Tryd.prog.info? 41).map (·.size) = some 3 := by kernel_rfl
theorem slice_lo (a : Option Addr) (n c k : Nat) (hk : k ≤ n) (W : World) : (Instr.slice 26 (.slice a n c) (some (.int .i64 (k : Int))) none none).run Tryd.prog W = .ok (sliced a k n c 3) W := by
  have hs : (sizeOf (Tryd.prog.elem 26)).run Tryd.prog W = .ok 3 W := by kernel_rfl
  rw [run_slice_l W 26 a n c (by kernel_rfl) .i64 (k : Int) (by omega) (by omega), hs]
  simp [Result.andThen]
theorem slice_hi (a : Option Addr) (n c k : Nat) (hk : k ≤ c) (W : World) : (Instr.slice 26 (.slice a n c) none (some (.int .i64 (k : Int))) none).run Tryd.prog W = .ok (.slice a k c) W := by
  have hs : (sizeOf (Tryd.prog.elem 26)).run Tryd.prog W = .ok 3 W := by kernel_rfl
  rw [run_slice_h W 26 a n c (by kernel_rfl) .i64 (k : Int) (by omega) (by omega), hs]
  by_cases h : c = 0
  · subst h
    obtain rfl : k = 0 := by omega
    simp [Result.andThen, sliced]
  · have hz : ∀ x : Addr, x.add 0 = x := fun x => by obtain ⟨b, o, s⟩ := x; unfold Addr.add; cases s <;> simp
    cases a <;> simp [Result.andThen, sliced, h, hz]

end Go.Proofs.YtacdnigeboeleaaDoor
