/-
  Ours: what Post answers: pure.
-/
import Derived.Test.YtacdnigeboeleaaDoorLedPost
namespace Go.Proofs.YtacdnigeboeleaaDoor
open Go.RowKit LedM

namespace LedM
theorem postE_zero {l : List Int} {es : List Ent} : postE l es = 0 ↔ faultE es = 0 ∧ fitsL (moved l es) = true ∧ rangeB (moved l es) = true ∧ sidesB (moved l es) = true := by
  unfold postE
  constructor
  · intro h
    split at h
    · rename_i h0
      split at h
      · rename_i h1
        split at h
        · rename_i h2
          simp only [Bool.and_eq_true] at h1
          exact ⟨h0, h1.1, h1.2, h2⟩
        · cases h
      · cases h
    · rename_i h0; exact absurd h h0
  · rintro ⟨a, b, c, d⟩
    rw [if_pos a, b, c, d]; rfl
theorem postB_zero {l : List Int} {es : List Ent} (h : postE l es = 0) : postB l es = moved l es := by unfold postB; rw [if_pos h]
theorem moved_moved (l : List Int) (es fs : List Ent) : moved (moved l es) fs = moved l (es ++ fs) :=
  ext12 (moved_len _ _) (moved_len _ _) (fun j hj => by rw [moved_at _ _ j hj, moved_at _ _ j hj, moved_at _ _ j hj, mv_append]; omega)
theorem post_join {l : List Int} {es fs : List Ent} (h1 : postE l es = 0) (h2 : postE (postB l es) fs = 0) : postE l (es ++ fs) = 0 ∧ postB l (es ++ fs) = postB (postB l es) fs := by
  have e1 := postB_zero h1
  have e2 := postB_zero h2
  rw [e1] at h2 e2
  obtain ⟨a, b, c, d⟩ := postE_zero.1 h2
  rw [moved_moved] at b c d
  have h3 : postE l (es ++ fs) = 0 := postE_zero.2 ⟨fault_all (fun e he => by
    rcases List.mem_append.1 he with he | he
    · exact fault_zero (postE_zero.1 h1).1 e he
    · exact fault_zero a e he), b, c, d⟩
  refine ⟨h3, ?_⟩
  rw [postB_zero h3, e1, e2, moved_moved]
end LedM
end Go.Proofs.YtacdnigeboeleaaDoor
