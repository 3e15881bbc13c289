/-
  Ours: the reference's decimal.
-/
import Derived.Test.YtkjnklagjhhhkaaGreatDoorProg
import Derived.Test.YtkjnklagjhhhkaaGreatDoorWirOwn
import Derived.Lib.ItoaNum
import Derived.Lib.ItoaMem
import Derived.Lib.AppendIntMem
namespace Go.Proofs.YtkjnklagjhhhkaaGreatDoor
open Go.RowKit Go.Lib

theorem conv_one (w : World) (c : Nat) (hlt : c < 256) (x : Int) (hx : x = (c : Int)) :
    (convert 22 9 (.slice (some ⟨w.heap.size, 0, none⟩) 1 1)).run Tryz.prog (w.alloc (.cells #[.int .u8 x] 5)) = .ok (.string ⟨#[UInt8.ofNat c]⟩) (w.alloc (.cells #[.int .u8 x] 5)) := by
  subst hx
  have h := run_convert_bytes_back (P := Tryz.prog) (w.alloc (.cells #[.int .u8 (c : Int)] 5)) 22 9 5 ⟨w.heap.size, 0, none⟩ 1 [UInt8.ofNat c] (by kernel_rfl) (by kernel_rfl) (by kernel_rfl) (fun j hj => by
    have hj0 : j = 0 := by simpa using hj
    subst hj0
    have e2 : (UInt8.ofNat c).toNat = c := by simp; omega
    simp [Addr.add, e2])
  exact h
theorem cons_str (x : UInt8) (l : List UInt8) : ({ data := #[x] } : ByteArray) ++ { data := l.toArray } = { data := (x :: l).toArray } := by
  apply ByteArray.ext
  simp [ByteArray.data_append]

/-- What decimal's loop holds. -/
structure DcI (N M : Nat) (l : List UInt8) : Prop where
  a : M = 0 → l = decDigits N
  b : M ≠ 0 → decDigits M ++ l = decDigits N
theorem DcI.step {N M : Nat} {l : List UInt8} (h : DcI N M l) (hM : M ≠ 0) : DcI N (M / 10) (UInt8.ofNat (48 + M % 10) :: l) := by
  have hb := h.b hM
  rw [decDigits] at hb
  by_cases h10 : M < 10
  · rw [dif_pos h10] at hb
    refine ⟨fun _ => ?_, fun e => absurd (by omega) e⟩
    rw [← hb, show M % 10 = M by omega]
    rfl
  · rw [dif_neg h10] at hb
    refine ⟨fun e => by omega, fun _ => ?_⟩
    rw [← hb, List.append_assoc]
    rfl
theorem dec_len (u : Nat) (h : u < 100000000000000000000) : (decDigits u).length ≤ 20 ∧ 0 < (decDigits u).length := by
  have H : ∀ (k u : Nat), u < 10 ^ (k + 1) → nDigits u ≤ k + 1 := by
    intro k
    induction k with
    | zero => intro u h; rw [nDigits, dif_pos (by simpa using h)]; omega
    | succ k ih =>
      intro u h
      by_cases hu : u < 10
      · rw [nDigits, dif_pos hu]; omega
      · rw [nDigits, dif_neg hu]
        have := ih (u / 10) (by rw [Nat.pow_succ] at h; omega)
        omega
  rw [decDigits_length]
  refine ⟨H 19 u (by rw [show 10 ^ (19 + 1) = 100000000000000000000 by decide]; omega), ?_⟩
  rw [nDigits]; split <;> omega
theorem DcI.len {N M : Nat} {l : List UInt8} (h : DcI N M l) (hN : N < 100000000000000000000) : l.length ≤ 20 := by
  have h1 := (dec_len N hN).1
  by_cases e : M = 0
  · rw [h.a e]; exact h1
  · have := congrArg List.length (h.b e); simp at this; omega

end Go.Proofs.YtkjnklagjhhhkaaGreatDoor
