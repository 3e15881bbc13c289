/-
  Ours: WirePrefix's walk.
-/
import Derived.Test.YtdbjjeaflfoppaaWirUsdR
import Derived.Test.YtdbjjeaflfoppaaWirTold
import Derived.Deep.Cut
namespace Go.Proofs.Ytdbjjeaflfoppaa
open Go.RowKit

theorem putT_bytes (s : ByteArray) : Bytes (putT (sB s)) := fun c hc => by
  unfold putT at hc
  rcases List.mem_append.1 hc with h | h
  · exact put_byte _ c h
  · exact sB_byte s c h
theorem opM_bytes (m : Nat) (o : OpV) : Bytes (opM m o) := fun c hc => by
  unfold opM at hc
  simp only [List.mem_append] at hc
  have pI : ∀ y : Int, c ∈ putI y → c < 256 := fun y h => put_byte _ c h
  have pT : c ∈ putT (sB o.text) → c < 256 := fun h => putT_bytes _ c h
  have it : ∀ (n : Nat) (l : List Nat), (c ∈ l → c < 256) → c ∈ (if n = 1 then l else []) → c < 256 := fun n l h1 h2 => by
    by_cases h : n = 1
    · rw [if_pos h] at h2; exact h1 h2
    · rw [if_neg h] at h2; cases h2
  rcases hc with (((((h | h) | h) | h) | h) | h) | h
  · exact pI _ h
  all_goals exact it _ _ (by first | exact pI _ | exact pT) h
theorem recL_bytes (k : Int) (o : OpV) (xs : List Int) : Bytes (recL k o xs) := fun c hc => by
  unfold recL at hc
  split at hc
  · split at hc
    · cases hc
    · rcases List.mem_append.1 hc with h | h
      · exact put_byte _ c h
      · unfold opL at h
        split at h
        · exact opM_bytes _ o c h
        · first | cases h | exact put_byte _ c h
  · split at hc
    · rcases List.mem_append.1 hc with h | h
      · exact put_byte _ c h
      · unfold putL at h
        rcases List.mem_append.1 h with h | h
        · exact put_byte _ c h
        · obtain ⟨x, _, h⟩ := List.mem_flatMap.1 h
          exact put_byte _ c h
    · cases hc
theorem recL_len (k : Int) (o : OpV) (ok : o.Ok) (xs : List Int) (hx : I64s xs) (hl : xs.length ≤ 1000000000) : (recL k o xs).length ≤ 20000000000 := by
  have h1 := opL_len o ok
  have h2 := putL_len xs hx hl
  have p1 : (put 1).length = 1 := by rw [put_one]; rfl
  have p2 : (put 2).length = 1 := by rw [put_two]; rfl
  unfold recL
  split
  · split
    · simp
    · rw [List.length_append]; omega
  · split
    · rw [List.length_append]; omega
    · simp

theorem rdB_take {w : World} {a : Option Addr} {n cap : Nat} {bs : List Nat} (h : RdB w (.slice a n cap) bs) (c : Nat) (hc : c < bs.length) : RdB w (.slice a c cap) (bs.take c) := by
  obtain ⟨ao, cp, e, h1, h2, h3⟩ := h
  cases e
  have hm : (List.map bv (bs.take c)).length = c := by rw [List.length_map, List.length_take]; omega
  have hm2 : (List.map bv bs).length = bs.length := List.length_map _
  refine ⟨a, cap, by rw [hm], by omega, h2, fun i hi => ?_⟩
  obtain ⟨b, off, e1, e2, e3⟩ := h3 i (by omega)
  refine ⟨b, off, e1, e2, ?_⟩
  rw [e3]
  simp

theorem Bytes_app {a b : List Nat} (h : Bytes a) (k : Bytes b) : Bytes (a ++ b) := fun c hc => by
  rcases List.mem_append.1 hc with h1 | h1
  · exact h c h1
  · exact k c h1

end Go.Proofs.Ytdbjjeaflfoppaa
