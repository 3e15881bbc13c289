/-
  Ours: the program's Int and the reference's.
-/
import Derived.Test.YtdbjjeaflfoppaaWirUint
import Derived.WalkSmall
namespace Go.Proofs.Ytdbjjeaflfoppaa
open Go.RowKit

/-- What a reader of int64s answers. -/
def rdIAns (r : Option (Nat × Nat)) : Ending := match r with
  | some (v, n) => .returned (.tuple #[.int .i64 (unzz v), .int .i64 (n : Int), .bool true])
  | none => .returned (.tuple #[.int .i64 0, .int .i64 0, .bool false])

theorem ret3v {a b c d : Int} {k l : IntKind} {p q : Bool} (h : a = c) (h' : b = d) (hp : p = q) : Ending.returned (.tuple #[.int k a, .int l b, .bool p]) = .returned (.tuple #[.int k c, .int l d, .bool q]) := by rw [h, h', hp]

set_option maxRecDepth 20000 in
set_option maxHeartbeats 2000000 in
theorem int_at (bs : List Nat) (p : Int) (v : Value) (w : World) (hb : ∀ c ∈ bs, c < 256) (hl : bs.length ≤ 140737488355328) (p0 : -9223372036854775808 ≤ p) (p1 : p ≤ 9223372036854775807) (h : RdB w v bs) :
    Calls Try.prog 16 #[v, .int .i64 p] w fun e w' => e = rdIAns (rd bs p) ∧ w' = w := by
  have C : Hid (Calls Try.prog 43 #[v, .int .i64 p] w fun e w' => e = rdAns (rd bs p) ∧ w' = w) := uint_at bs p v w hb hl p0 p1 h
  cases hr : rd bs p with
  | none =>
    rw [hr] at C
    clear hr h
    go_enter Try.func16, Try.ntmps16
    go_wp2_with fail
    refine C.out.mono ?_
    rintro e w1 ⟨rfl, hw⟩; rw [hw]; clear hw w1
    simp only [rdAns]
    go_wp2_with fail
    go_ret3
    exact ⟨rfl, rfl⟩
  | some q =>
    obtain ⟨u, n⟩ := q
    obtain ⟨_, _, hn, hu⟩ := rd_le bs p u n hb hr
    rw [hr] at C
    clear hr h
    have n1 : (n : Int) ≤ 140737488355328 := by omega
    have U0 : (0 : Int) ≤ (u : Int) := by omega
    have U1 : (u : Int) ≤ 18446744073709551615 := by omega
    have A1 := and_one_u64 (u : Int) U0 U1
    rcases Nat.mod_two_eq_zero_or_one u with e | e
    · have E : Hid (unzz u = (u : Int) / 2) := by show unzz u = _; unfold unzz; rw [if_pos e]; omega
      have d : ((u : Int) % 2 == 1) = false := by rw [beq_eq_false_iff_ne]; omega
      clear e hn hu hl
      go_enter Try.func16, Try.ntmps16
      go_wp2_with fail
      refine C.out.mono ?_
      rintro e w1 ⟨rfl, hw⟩; rw [hw]; clear hw w1
      simp only [rdAns]
      go_wp2_with fail
      go_ret3
      exact ⟨ret3v E.out.symm rfl rfl, rfl⟩
    · have E : Hid (unzz u = -((u : Int) / 2) - 1) := by show unzz u = _; unfold unzz; rw [if_neg (by omega)]; omega
      have d : ((u : Int) % 2 == 1) = true := by rw [beq_iff_eq]; omega
      clear e hn hu hl
      go_enter Try.func16, Try.ntmps16
      go_wp2_with fail
      refine C.out.mono ?_
      rintro e w1 ⟨rfl, hw⟩; rw [hw]; clear hw w1
      simp only [rdAns]
      go_wp2_with fail
      go_ret3
      exact ⟨ret3v E.out.symm rfl rfl, rfl⟩

set_option maxRecDepth 20000 in
set_option maxHeartbeats 2000000 in
theorem rint_at (bs : List Nat) (p : Int) (v : Value) (w : World) (hb : ∀ c ∈ bs, c < 256) (hl : bs.length ≤ 140737488355328) (p0 : -9223372036854775808 ≤ p) (p1 : p ≤ 9223372036854775807) (h : RdB w v bs) :
    Calls Try.prog 129 #[v, .int .i64 p] w fun e w' => e = rdIAns (rd bs p) ∧ Below w.heap.size w w' := by
  have C : Hid (Calls Try.prog 121 #[v, .int .i64 p] w fun e w' => e = rdAns (rd bs p) ∧ Below w.heap.size w w') := ruint_at bs p v w hb hl p0 p1 h
  cases hr : rd bs p with
  | none =>
    rw [hr] at C
    clear hr h
    go_enter Try.func129, Try.ntmps129
    go_wp2_with fail
    refine C.out.mono ?_
    rintro e w1 ⟨rfl, b1⟩
    simp only [rdAns]
    go_wp2_with fail
    go_ret3
    exact ⟨rfl, b1⟩
  | some q =>
    obtain ⟨u, n⟩ := q
    obtain ⟨_, _, hn, hu⟩ := rd_le bs p u n hb hr
    rw [hr] at C
    clear hr h
    have n1 : (n : Int) ≤ 140737488355328 := by omega
    have U0 : (0 : Int) ≤ (u : Int) := by omega
    have U1 : (u : Int) ≤ 18446744073709551615 := by omega
    rcases Nat.mod_two_eq_zero_or_one u with e | e
    · have E : Hid (unzz u = (u : Int) / 2) := by show unzz u = _; unfold unzz; rw [if_pos e]; omega
      have d : ((u : Int) % 2 == 0) = true := by rw [beq_iff_eq]; omega
      clear e hn hu hl
      go_enter Try.func129, Try.ntmps129
      go_wp2_with fail
      refine C.out.mono ?_
      rintro e w1 ⟨rfl, b1⟩
      simp only [rdAns]
      go_wp2_with fail
      go_ret3
      exact ⟨ret3v E.out.symm rfl rfl, b1⟩
    · have E : Hid (unzz u = -((u : Int) / 2) - 1) := by show unzz u = _; unfold unzz; rw [if_neg (by omega)]; omega
      have d : ((u : Int) % 2 == 0) = false := by rw [beq_eq_false_iff_ne]; omega
      clear e hn hu hl
      go_enter Try.func129, Try.ntmps129
      go_wp2_with fail
      refine C.out.mono ?_
      rintro e w1 ⟨rfl, b1⟩
      simp only [rdAns]
      go_wp2_with fail
      go_ret3
      exact ⟨ret3v E.out.symm rfl rfl, b1⟩
end Go.Proofs.Ytdbjjeaflfoppaa
