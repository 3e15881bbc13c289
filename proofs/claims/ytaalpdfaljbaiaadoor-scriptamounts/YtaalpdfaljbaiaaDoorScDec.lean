/-
  Ours: the reference's decimal.
-/
import Derived.Test.YtaalpdfaljbaiaaDoorProg
import Derived.Test.YtaalpdfaljbaiaaDoorWirOwn
import Derived.Lib.ItoaNum
import Derived.Lib.ItoaMem
import Derived.Lib.AppendIntMem
namespace Go.Proofs.YtaalpdfaljbaiaaDoor
open Go.RowKit Go.Lib

theorem conv_one (w : World) (c : Nat) (hlt : c < 256) (x : Int) (hx : x = (c : Int)) :
    (convert 40 9 (.slice (some ⟨w.heap.size, 0, none⟩) 1 1)).run Tryd.prog (w.alloc (.cells #[.int .u8 x] 5)) = .ok (.string ⟨#[UInt8.ofNat c]⟩) (w.alloc (.cells #[.int .u8 x] 5)) := by
  subst hx
  have h := run_convert_bytes_back (P := Tryd.prog) (w.alloc (.cells #[.int .u8 (c : Int)] 5)) 40 9 5 ⟨w.heap.size, 0, none⟩ 1 [UInt8.ofNat c] (by kernel_rfl) (by kernel_rfl) (by kernel_rfl) (fun j hj => by
    have hj0 : j = 0 := by simpa using hj
    subst hj0
    have e2 : (UInt8.ofNat c).toNat = c := by simp; omega
    simp [Addr.add, e2])
  exact h
theorem cons_str (x : UInt8) (l : List UInt8) : ({ data := #[x] } : ByteArray) ++ { data := l.toArray } = { data := (x :: l).toArray } := by
  apply ByteArray.ext
  simp [ByteArray.data_append]

/-- What decimal's loop holds. -/
structure DcI (N M : Nat) (l : List UInt8) : Prop where
  a : M = 0 → l = decDigits N
  b : M ≠ 0 → decDigits M ++ l = decDigits N
theorem DcI.step {N M : Nat} {l : List UInt8} (h : DcI N M l) (hM : M ≠ 0) : DcI N (M / 10) (UInt8.ofNat (48 + M % 10) :: l) := by
  have hb := h.b hM
  rw [decDigits] at hb
  by_cases h10 : M < 10
  · rw [dif_pos h10] at hb
    refine ⟨fun _ => ?_, fun e => absurd (by omega) e⟩
    rw [← hb, show M % 10 = M by omega]
    rfl
  · rw [dif_neg h10] at hb
    refine ⟨fun e => by omega, fun _ => ?_⟩
    rw [← hb, List.append_assoc]
    rfl
theorem dec_len (u : Nat) (h : u < 100000000000000000000) : (decDigits u).length ≤ 20 ∧ 0 < (decDigits u).length := by
  have H : ∀ (k u : Nat), u < 10 ^ (k + 1) → nDigits u ≤ k + 1 := by
    intro k
    induction k with
    | zero => intro u h; rw [nDigits, dif_pos (by simpa using h)]; omega
    | succ k ih =>
      intro u h
      by_cases hu : u < 10
      · rw [nDigits, dif_pos hu]; omega
      · rw [nDigits, dif_neg hu]
        have := ih (u / 10) (by rw [Nat.pow_succ] at h; omega)
        omega
  rw [decDigits_length]
  refine ⟨H 19 u (by rw [show 10 ^ (19 + 1) = 100000000000000000000 by decide]; omega), ?_⟩
  rw [nDigits]; split <;> omega
theorem DcI.len {N M : Nat} {l : List UInt8} (h : DcI N M l) (hN : N < 100000000000000000000) : l.length ≤ 20 := by
  have h1 := (dec_len N hN).1
  by_cases e : M = 0
  · rw [h.a e]; exact h1
  · have := congrArg List.length (h.b e); simp at this; omega

set_option maxHeartbeats 2000000 in
theorem decimal_at (n : Int) (h0 : -9223372036854775808 ≤ n) (h1 : n ≤ 9223372036854775807) (w : World) :
    Calls Tryd.prog 19 #[.int .i64 n] w fun e w' => e = .returned (.string ⟨(itoa n).toArray⟩) ∧ Below w.heap.size w w' := by
  by_cases hz : n = 0
  · subst hz
    have e0 : itoa 0 = [48] := by rw [show (0 : Int) = ((0 : Nat) : Int) from rfl, itoa_nonneg, decDigits]; rfl
    rw [e0]
    go_enter Tryd.func19, Tryd.ntmps19
    go_wp2_with fail
    go_ret
    exact ⟨rfl, Below.refl _ _⟩
  have dz : (n == 0) = false := by rw [beq_eq_false_iff_ne]; exact hz
  have H0 : Hid (DcI n.natAbs n.natAbs []) := ⟨fun e => by omega, fun _ => by simp⟩
  have HN : n.natAbs < 100000000000000000000 := by omega
  by_cases hneg : n < 0
  · have EI : Hid (itoa n = 45 :: decDigits n.natAbs) := by show _ = _; unfold itoa; rw [if_pos hneg]
    rw [EI.out]
    obtain ⟨N, rfl⟩ : ∃ N : Nat, n = -(N : Int) := ⟨n.natAbs, by omega⟩
    simp only [Int.natAbs_neg, Int.natAbs_natCast] at H0 HN ⊢
    clear EI
    go_enter Tryd.func19, Tryd.ntmps19
    go_wp2_with fail
    go_loopw [3, 4] (fun vs vm wr => ∃ (M : Nat) (l : List UInt8), vm = .int .i64 (-(M : Int)) ∧ M ≤ N ∧ vs = .string ⟨l.toArray⟩ ∧ Hid (DcI N M l) ∧ Below w.heap.size w wr) (fun _ vm _ => (intOf vm).natAbs)
    case atStart => exact ⟨N, [], rfl, Nat.le_refl _, rfl, H0, Below.refl _ _⟩
    case round =>
      clear H0
      obtain ⟨M, l, rfl, hM, rfl, I, B⟩ := hrel
      have hl := I.out.len HN
      have hsz : ({ data := l.toArray } : ByteArray).size = l.length := rfl
      by_cases hM0 : M = 0
      · have e : l = decDigits N := I.out.a hM0
        have dm : ((-((M : Nat) : Int)) != 0) = false := by rw [hM0]; rfl
        have CS := cons_str 45 l
        have dn : -(N : Int) < 0 := hneg
        subst e
        clear I hM0
        go_wp2_with fail
        go_ret
        exact ⟨by rw [← CS]; rfl, B⟩
      · have dm : ((-((M : Nat) : Int)) != 0) = true := bne_iff_ne.2 (by omega)
        have NX : Hid (DcI N (M / 10) (UInt8.ofNat (48 + M % 10) :: l)) := I.out.step hM0
        have kb := conv_one wr (48 + M % 10) (by omega)
        have CS := cons_str (UInt8.ofNat (48 + M % 10)) l
        have t1 : Int.tmod (-(M : Int)) 10 = -((M % 10 : Nat) : Int) := by rw [Int.neg_tmod]; rfl
        have t2 : Int.tdiv (-(M : Int)) 10 = -((M / 10 : Nat) : Int) := by rw [Int.neg_tdiv]; rfl
        clear I
        generalize UInt8.ofNat (48 + M % 10) = x at *
        by_cases hr : M % 10 = 0
        · have d1 : ¬ (-((M % 10 : Nat) : Int)) < 0 := by omega
          go_wp2_with fail
          go_roundw
          case rel => exact ⟨M / 10, x :: l, by go_num, by omega, rfl, NX, below_trans B (below_alloc _ _)⟩
          case measure => simp [intOf]; omega
        · have d1 : (-((M % 10 : Nat) : Int)) < 0 := by omega
          go_wp2_with fail
          go_roundw
          case rel => exact ⟨M / 10, x :: l, by go_num, by omega, rfl, NX, below_trans B (below_alloc _ _)⟩
          case measure => simp [intOf]; omega
  · have EI : Hid (itoa n = decDigits n.natAbs) := by show _ = _; unfold itoa; rw [if_neg hneg]; congr 1; omega
    rw [EI.out]
    obtain ⟨N, rfl⟩ : ∃ N : Nat, n = (N : Int) := ⟨n.natAbs, by omega⟩
    simp only [Int.natAbs_natCast] at H0 HN ⊢
    clear EI
    go_enter Tryd.func19, Tryd.ntmps19
    go_wp2_with fail
    go_loopw [3, 4] (fun vs vm wr => ∃ (M : Nat) (l : List UInt8), vm = .int .i64 (M : Int) ∧ M ≤ N ∧ vs = .string ⟨l.toArray⟩ ∧ Hid (DcI N M l) ∧ Below w.heap.size w wr) (fun _ vm _ => (intOf vm).toNat)
    case atStart => exact ⟨N, [], rfl, Nat.le_refl _, rfl, H0, Below.refl _ _⟩
    case round =>
      clear H0
      obtain ⟨M, l, rfl, hM, rfl, I, B⟩ := hrel
      by_cases hM0 : M = 0
      · have e : l = decDigits N := I.out.a hM0
        have dm : (((M : Nat) : Int) != 0) = false := by rw [hM0]; rfl
        subst e
        clear I hM0
        go_wp2_with fail
        go_ret
        exact ⟨rfl, B⟩
      · have dm : (((M : Nat) : Int) != 0) = true := bne_iff_ne.2 (by omega)
        have hl := I.out.len HN
        have NX : Hid (DcI N (M / 10) (UInt8.ofNat (48 + M % 10) :: l)) := I.out.step hM0
        have kb := conv_one wr (48 + M % 10) (by omega)
        have hsz : ({ data := l.toArray } : ByteArray).size = l.length := rfl
        have CS := cons_str (UInt8.ofNat (48 + M % 10)) l
        clear I
        generalize UInt8.ofNat (48 + M % 10) = x at *
        go_wp2_with fail
        go_roundw
        case rel => exact ⟨M / 10, x :: l, by go_num, by omega, rfl, NX, below_trans B (below_alloc _ _)⟩
        case measure => simp [intOf]; omega
end Go.Proofs.YtaalpdfaljbaiaaDoor
