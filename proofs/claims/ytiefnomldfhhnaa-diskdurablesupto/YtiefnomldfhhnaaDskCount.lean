/-
  Ours: DiskCountdown's walk.
-/
import Derived.Test.YtiefnomldfhhnaaDskWorks
import Derived.Test.YtiefnomldfhhnaaDskNear
namespace Go.Proofs.Ytiefnomldfhhnaa
open Go.RowKit

/-- A list of rows of bytes that came in. -/
def RdC (w : World) (v : Value) (cs : List (List Nat)) : Prop :=
  ∃ ao cap, v = .slice ao cs.length cap ∧ ∀ i, i < cs.length → ∃ g o a c, ao = some ⟨g, o, none⟩ ∧ g < w.heap.size ∧ w.cell? ⟨g, o + i, none⟩ = some (.slice a (cs.getD i []).length c) ∧ RdB w (.slice a (cs.getD i []).length c) (cs.getD i [])

/-- The disk ahead of the k-th Append: xs was appended by those that were taken. -/
def stt (af kp k : Nat) (xs : List Nat) : Dk := if k < af then ⟨xs, 0, [], 0, [((af : Int) - k, (kp : Int))], (k : Int), false⟩ else ⟨xs.take kp, min kp xs.length, [], 0, [], (af : Int), true⟩
theorem stt_up {af kp k : Nat} {xs : List Nat} (h : k < af) : stt af kp k xs = ⟨xs, 0, [], 0, [((af : Int) - k, (kp : Int))], (k : Int), false⟩ := if_pos h
theorem stt_dn {af kp k : Nat} {xs : List Nat} (h : ¬ k < af) : stt af kp k xs = ⟨xs.take kp, min kp xs.length, [], 0, [], (af : Int), true⟩ := if_neg h
theorem stt_wr (af kp k : Nat) (xs : List Nat) (h1 : af ≤ 1000) (h2 : k ≤ 1000) : 0 ≤ (stt af kp k xs).wr ∧ (stt af kp k xs).wr < 4611686018427387904 := by
  unfold stt
  split
  · show 0 ≤ (k : Int) ∧ (k : Int) < _; omega
  · show 0 ≤ (af : Int) ∧ (af : Int) < _; omega
theorem stt_full {af kp k : Nat} {xs ds : List Nat} (h : k < af) (hf : 16777216 < xs.length + ds.length) : ((stt af kp k xs).append 0 ds).2 = 52 := by
  rw [stt_up h]
  unfold Dk.append
  rw [if_neg (by simp [Dk.no]), if_pos (by simpa [Dk.fb] using hf)]
theorem stt_ok {af kp k : Nat} {xs ds : List Nat} (h : k + 1 < af) (hf : ¬ 16777216 < xs.length + ds.length) : (stt af kp k xs).append 0 ds = (stt af kp (k + 1) (xs ++ ds), 0) := by
  rw [stt_up (by omega), stt_up h]
  unfold Dk.append
  rw [if_neg (by simp [Dk.no]), if_neg (by simpa [Dk.fb] using hf)]
  rw [Dk.write_cons (c := ((af : Int) - k, (kp : Int))) (q := []) rfl, if_pos (by show 0 < (af : Int) - k - 1; omega)]
  simp only [Dk.put, Dk.fb, Dk.fd, Dk.tick, if_true, Prod.mk.injEq, Dk.mk.injEq, and_true, true_and]
  refine ⟨?_, ?_⟩
  · congr 1; congr 1; omega
  · omega
theorem stt_last {af kp k : Nat} {xs ds : List Nat} (h : k + 1 = af) (hf : ¬ 16777216 < xs.length + ds.length) : (stt af kp k xs).append 0 ds = (stt af kp (k + 1) (xs ++ ds), 51) := by
  rw [stt_up (by omega), stt_dn (by omega)]
  unfold Dk.append
  rw [if_neg (by simp [Dk.no]), if_neg (by simpa [Dk.fb] using hf)]
  rw [Dk.write_cons (c := ((af : Int) - k, (kp : Int))) (q := []) rfl, if_neg (by show ¬ 0 < (af : Int) - k - 1; omega)]
  simp only [Dk.put, Dk.fb, Dk.fd, Dk.tick, Dk.down, Dk.lose0, Dk.lose1, left, if_true, Prod.mk.injEq, Dk.mk.injEq, and_true, true_and, Int.toNat_natCast, Nat.zero_add, Nat.sub_zero, List.tail_cons, List.length_nil, Nat.min_zero, List.take_nil]
  refine ⟨(List.take_eq_take_min).symm, by omega⟩
theorem stt_past {af kp k : Nat} {xs ds : List Nat} (h : af ≤ k) : (stt af kp k xs).append 0 ds = (stt af kp (k + 1) xs, 51) := by
  rw [stt_dn (by omega), stt_dn (by omega)]
  unfold Dk.append
  rw [if_pos (by simp [Dk.no])]
  rfl

end Go.Proofs.Ytiefnomldfhhnaa
