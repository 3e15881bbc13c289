/-
  Ours: the document's Total.
-/
import Derived.Test.YtmennknknecgjaaDoorLedTotal
import Derived.Test.YtmennknknecgjaaDoorLedRTrial
import Derived.Test.YtmennknknecgjaaDoorLedBkR
namespace Go.Proofs.YtmennknknecgjaaDoor
open Go.RowKit LedM

namespace LedM
/-- The books so far: the first accounts' sums. -/
def cT (S : List Int) : Nat → List Int
  | 0 => zeroL
  | a + 1 => (cT S a).set a (S.getD a 0)
theorem cT_len (S : List Int) : ∀ a, (cT S a).length = 12
  | 0 => rfl
  | a + 1 => by unfold cT; rw [List.length_set]; exact cT_len S a
theorem cT_at (S : List Int) : ∀ a j, j < 12 → (cT S a).getD j 0 = if j < a then S.getD j 0 else 0
  | 0, j, hj => by
    rw [if_neg (by omega)]
    show zeroL.getD j 0 = 0
    unfold zeroL
    rw [List.getD_eq_getElem?_getD, List.getElem?_replicate, if_pos hj]; rfl
  | a + 1, j, hj => by
    have ih := cT_at S a j hj
    unfold cT
    rw [List.getD_eq_getElem?_getD, List.getElem?_set]
    by_cases e : a = j
    · subst e
      rw [if_pos rfl, if_pos (by rw [cT_len]; exact hj), if_pos (by omega)]; rfl
    · rw [if_neg e, ← List.getD_eq_getElem?_getD, ih]
      by_cases h : j < a
      · rw [if_pos h, if_pos (by omega)]
      · rw [if_neg h, if_neg (by omega)]
theorem cT_all {S : List Int} (h : S.length = 12) : cT S 12 = S := ext12 (cT_len _ _) h fun j hj => by rw [cT_at _ _ _ hj, if_pos hj]
def col (bs : List (List Int)) (a : Nat) : List Int := bs.map fun b => b.getD a 0
theorem col_take {bs : List (List Int)} {i : Nat} (a : Nat) (h : i < bs.length) : col (bs.take (i + 1)) a = col (bs.take i) a ++ [(bN bs i).getD a 0] := by
  unfold col; rw [take_bN h, List.map_append]; rfl
theorem col_i64 {bs : List (List Int)} (a : Nat) (ok : ∀ b ∈ bs, BkOk b) : I64 (col bs a) := fun k => by
  by_cases hk : k < (col bs a).length
  · have hm : (col bs a).getD k 0 ∈ col bs a := getD_mem k hk
    obtain ⟨b, hb, e⟩ := List.mem_map.1 hm
    rw [← e]
    exact (ok b hb).2 a
  · rw [List.getD_eq_getElem?_getD, List.getElem?_eq_none (by omega)]; exact ⟨by simp, by simp⟩
end LedM
theorem infoL8 : (Tryd.prog.info? 2).map (fun i => (i.zero, i.size, i.bytes)) = some (some (.int .i64 0), 1, 8) := by kernel_rfl
abbrev z12o : Obj := .cells #[.int .i64 0, .int .i64 0, .int .i64 0, .int .i64 0, .int .i64 0, .int .i64 0, .int .i64 0, .int .i64 0, .int .i64 0, .int .i64 0, .int .i64 0, .int .i64 0] 27

end Go.Proofs.YtmennknknecgjaaDoor
