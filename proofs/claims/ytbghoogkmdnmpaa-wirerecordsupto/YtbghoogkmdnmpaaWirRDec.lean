/-
  Ours: the reference's In.done and DecodeOp.
-/
import Derived.Test.YtbghoogkmdnmpaaWirInOp
import Derived.Deep.QuietTactic
import Derived.BigQuiet
namespace Go.Proofs.Ytbghoogkmdnmpaa
open Go.RowKit

theorem IS.start {bs : List Nat} {R : Nat} {v : Value} {w : World} {ty : TypeId} (h : Blk R ty [v, .int .i64 0, .bool false] w) (hr : RdB w v bs) (ha : 0 < bs.length → v.ownBlock ≠ some R) : IS bs R v (some 0) w :=
  ⟨⟨h.cell 0 _ rfl, ⟨0, h.cell 1 _ rfl, fun q h => by cases h; rfl⟩, h.cell 2 _ rfl, h.fz, h.lt, hr, ha, fun q h => by cases h; omega⟩, 0, h.cell 1 _ rfl, by omega, by omega⟩
theorem below_past {w a b : World} {G : Nat} (h : Below w.heap.size w a) (k : a.grownBy b (some G)) (hG : w.heap.size ≤ G) : Below w.heap.size w b :=
  ⟨k.os.trans h.os, k.tape.trans h.tape, k.output.trans h.output, Nat.le_trans h.size k.size, fun i hi => (k.block i (Nat.lt_of_lt_of_le hi h.size) (fun e => by injection e with e; omega)).trans (h.block i hi)⟩

set_option maxRecDepth 20000 in
theorem inDone_at (bs : List Nat) (hl : bs.length ≤ 1000000000000) (R : Nat) (v : Value) (st : Option Nat) (w : World) (h : IS bs R v st w) :
    Calls Try.prog 71 #[.pointer (some ⟨R, 0, none⟩)] w fun e w' => e = .returned (.bool (decide (st = some bs.length))) ∧ Below w.heap.size w w' := by
  have c0 := h.rs.c0
  have c2 := h.rs.c2
  obtain ⟨p, c1, p1⟩ := h.rs.c1
  obtain ⟨ao, cap, rfl, _, _⟩ := h.rs.rd.len
  obtain ⟨L, hL⟩ : ∃ L, bs.length = L := ⟨_, rfl⟩
  rw [List.length_map, hL] at c0
  rw [hL] at hl ⊢
  clear h
  cases st with
  | none =>
    simp only [Option.isNone] at c2
    clear p1
    go_enter Try.func71, Try.ntmps71
    go_wp2_with fail
    go_quiet (fail)
    go_wp2_with fail
    go_ret
    exact ⟨by simp, below_drewN (Below.refl _ _) _⟩
  | some q =>
    obtain rfl := p1 q rfl
    clear p1
    simp only [Option.isNone] at c2
    by_cases e : q = L
    · subst e
      have e0 : ((q : Int) == (q : Int)) = true := by simp
      go_enter Try.func71, Try.ntmps71
      go_wp2_with fail
      go_quiet (fail)
      go_wp2_with fail
      go_ret
      exact ⟨by simp, below_drewN (Below.refl _ _) _⟩
    · have e0 : ((q : Int) == (L : Int)) = false := by rw [beq_eq_false_iff_ne]; omega
      have E : Hid (¬ q = L) := e
      clear e
      go_enter Try.func71, Try.ntmps71
      go_wp2_with fail
      go_quiet (fail)
      go_wp2_with fail
      go_ret
      exact ⟨by simp [E.out], below_drewN (Below.refl _ _) _⟩

end Go.Proofs.Ytbghoogkmdnmpaa
