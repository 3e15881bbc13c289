/-
  Ours: the walk of FrameTorn.
-/
import Derived.Test.YteflbdlfjebccaaDoorFrmJoin
namespace Go.Proofs.YteflbdlfjebccaaDoor
open Go.RowKit

theorem aheadN_eq : ∀ (cs : List (List Nat)) (C n : Nat), n ≤ cs.length → CrcM.sizeL (cs.take n) ≤ C → (n = cs.length ∨ C < CrcM.sizeL (cs.take (n + 1))) → CrcM.aheadN cs C = n
  | [], C, n, h1, _, _ => by simp at h1; subst h1; rfl
  | p :: cs, C, 0, _, _, h3 => by
    rcases h3 with h | h
    · simp at h
    · rw [List.take_succ_cons, List.take_zero, CrcM.sizeL_cons, CrcM.sizeL_nil] at h
      unfold CrcM.aheadN
      rw [if_neg (by omega)]
  | p :: cs, C, n + 1, h1, h2, h3 => by
    rw [List.take_succ_cons, CrcM.sizeL_cons] at h2
    unfold CrcM.aheadN
    rw [if_pos (by omega), aheadN_eq cs (C - (p.length + 8)) n (by simpa using h1) (by omega) ?_]
    rcases h3 with h | h
    · left; simpa using h
    · right
      rw [List.take_succ_cons, CrcM.sizeL_cons] at h
      omega
theorem aheadN_le : ∀ (cs : List (List Nat)) (C : Nat), CrcM.aheadN cs C ≤ cs.length
  | [], C => by unfold CrcM.aheadN; simp
  | p :: cs, C => by
    unfold CrcM.aheadN
    have := aheadN_le cs (C - (p.length + 8))
    split
    · rw [List.length_cons]; omega
    · omega
theorem join_lt {cs : List (List Nat)} (h : ∀ c ∈ cs, ∀ b ∈ c, b < 256) : ∀ b ∈ CrcM.join cs, b < 256 := by
  intro b hb
  unfold CrcM.join at hb
  obtain ⟨c, hc, hb'⟩ := List.mem_flatMap.1 hb
  exact CrcM.enc_lt (h c hc) b hb'

end Go.Proofs.YteflbdlfjebccaaDoor
