/-
  Ours: texts and numbers from 0 on, taken; the reader's cents and number.
-/
import Derived.Test.YtdbjjeaflfoppaaWirTakeB
namespace Go.Proofs.Ytdbjjeaflfoppaa
open Go.RowKit

theorem textR_le {bs : List Nat} {q : Int} {u : List Nat} {n : Nat} (hb : ∀ c ∈ bs, c < 256) (h : textR bs q = some (u, n)) : 0 ≤ q ∧ q < n ∧ n ≤ bs.length := by
  unfold textR at h
  cases hr : lenR bs q with
  | none => rw [hr] at h; cases h
  | some k =>
    obtain ⟨a, f⟩ := k
    have := lenR_le hb hr
    rw [hr] at h
    simp only [Option.some.injEq, Prod.mk.injEq] at h
    omega
/-- A text taken. -/
def tkT (bs : List Nat) (st : Option Nat) : ByteArray × Option Nat := match st with
  | none => (⟨#[]⟩, none)
  | some p => match textR bs p with
    | some (u, n) => (textOf u, some n)
    | none => (⟨#[]⟩, none)
/-- A number from 0 on taken. -/
def tkU (bs : List Nat) (st : Option Nat) : Nat × Option Nat := match st with
  | none => (0, none)
  | some p => match Go.Proofs.Ytdbjjeaflfoppaa.rd bs p with
    | some (u, n) => (u, some n)
    | none => (0, none)

set_option maxRecDepth 20000 in
set_option maxHeartbeats 1000000 in
theorem takeT_at (bs : List Nat) (hb : ∀ c ∈ bs, c < 256) (hl : bs.length ≤ 1000000000000) (R : Nat) (v : Value) (st : Option Nat) (w : World) (h : RS bs R v st w) :
    Calls Try.prog 94 #[.pointer (some ⟨R, 0, none⟩), .func (.func 95) #[] #[]] w fun e w' => e = .returned (.string (tkT bs st).1) ∧ RS bs R v (tkT bs st).2 w' ∧ w.grownBy w' (some R) := by
  have c0 := h.c0
  have c2 := h.c2
  obtain ⟨p, c1, hp⟩ := h.c1
  have fz1 := h.fz 1
  have fz2 := h.fz 2
  cases st with
  | none =>
    simp only [Option.isNone] at c2
    have HH : Hid (RS bs R v none w) := h
    clear h hp
    go_enter Try.func94, Try.ntmps94
    go_wp2_with fail
    go_ret
    exact ⟨rfl, HH.out, grownBy_refl _ _⟩
  | some q =>
    obtain rfl := hp q rfl
    have hq := h.le q rfl
    simp only [Option.isNone] at c2
    have C : Hid (∀ n, Calls Try.prog 95 #[v, .int .i64 (q : Int)] (w.drewN n) fun e w' => e = textAns (textR bs q) ∧ w' = w.drewN n) := fun n => text_at bs q v (w.drewN n) hb (by omega) (by omega) (by omega) h.rd
    cases hr : textR bs q with
    | none =>
      have T : Hid (tkT bs (some q) = (⟨#[]⟩, none)) := by show _ = _; unfold tkT; simp only; rw [hr]
      have PT : Hid (∀ n, RS bs R v none (((w.drewN n).setCell ⟨R, 1, none⟩ (.int .i64 0)).setCell ⟨R, 2, none⟩ (.bool true)) ∧ w.grownBy (((w.drewN n).setCell ⟨R, 1, none⟩ (.int .i64 0)).setCell ⟨R, 2, none⟩ (.bool true)) (some R)) := fun n => h.put (st' := none) n 0 (fun q h => by cases h) (fun q h => by cases h)
      rw [hr] at C
      simp only [textAns] at C
      clear h hr hp
      go_enter Try.func94, Try.ntmps94
      go_wp2_with fail
      go_quiet ((go_at_call 95; exact Calls.quiet_of_same (C.out _)))
      go_wp2_with fail
      go_ret
      refine ⟨?_, ?_⟩
      · rw [T.out]; rfl
      · rw [T.out]; exact PT.out _
    | some un =>
      obtain ⟨u, n⟩ := un
      have ln := textR_le hb hr
      have T : Hid (tkT bs (some q) = (textOf u, some n)) := by show _ = _; unfold tkT; simp only; rw [hr]
      have PT : Hid (∀ k, RS bs R v (some n) (((w.drewN k).setCell ⟨R, 1, none⟩ (.int .i64 (n : Int))).setCell ⟨R, 2, none⟩ (.bool false)) ∧ w.grownBy (((w.drewN k).setCell ⟨R, 1, none⟩ (.int .i64 (n : Int))).setCell ⟨R, 2, none⟩ (.bool false)) (some R)) := fun k => h.put (st' := some n) k n (fun q h => by cases h; rfl) (fun q h => by cases h; omega)
      rw [hr] at C
      simp only [textAns] at C
      clear h hr hp ln
      go_enter Try.func94, Try.ntmps94
      go_wp2_with fail
      go_quiet ((go_at_call 95; exact Calls.quiet_of_same (C.out _)))
      go_wp2_with fail
      go_ret
      refine ⟨?_, ?_⟩
      · rw [T.out]; rfl
      · rw [T.out]; exact PT.out _

set_option maxRecDepth 20000 in
set_option maxHeartbeats 1000000 in
theorem takeU_at (bs : List Nat) (hb : ∀ c ∈ bs, c < 256) (hl : bs.length ≤ 1000000000000) (R : Nat) (v : Value) (st : Option Nat) (w : World) (h : RS bs R v st w) :
    Calls Try.prog 70 #[.pointer (some ⟨R, 0, none⟩), .func (.func 43) #[] #[]] w fun e w' => e = .returned (.int .u64 ((tkU bs st).1 : Int)) ∧ RS bs R v (tkU bs st).2 w' ∧ w.grownBy w' (some R) := by
  have c0 := h.c0
  have c2 := h.c2
  obtain ⟨p, c1, hp⟩ := h.c1
  have fz1 := h.fz 1
  have fz2 := h.fz 2
  cases st with
  | none =>
    simp only [Option.isNone] at c2
    have HH : Hid (RS bs R v none w) := h
    clear h hp
    go_enter Try.func70, Try.ntmps70
    go_wp2_with fail
    go_ret
    exact ⟨rfl, HH.out, grownBy_refl _ _⟩
  | some q =>
    obtain rfl := hp q rfl
    have hq := h.le q rfl
    simp only [Option.isNone] at c2
    have C : Hid (∀ n, Calls Try.prog 43 #[v, .int .i64 (q : Int)] (w.drewN n) fun e w' => e = rdAns (Go.Proofs.Ytdbjjeaflfoppaa.rd bs q) ∧ w' = w.drewN n) := fun n => uint_at bs q v (w.drewN n) hb (by omega) (by omega) (by omega) h.rd
    cases hr : Go.Proofs.Ytdbjjeaflfoppaa.rd bs q with
    | none =>
      have T : Hid (tkU bs (some q) = (0, none)) := by show _ = _; unfold tkU; simp only; rw [hr]
      have PT : Hid (∀ n, RS bs R v none (((w.drewN n).setCell ⟨R, 1, none⟩ (.int .i64 0)).setCell ⟨R, 2, none⟩ (.bool true)) ∧ w.grownBy (((w.drewN n).setCell ⟨R, 1, none⟩ (.int .i64 0)).setCell ⟨R, 2, none⟩ (.bool true)) (some R)) := fun n => h.put (st' := none) n 0 (fun q h => by cases h) (fun q h => by cases h)
      rw [hr] at C
      simp only [rdAns] at C
      clear h hr hp
      go_enter Try.func70, Try.ntmps70
      go_wp2_with fail
      go_quiet ((go_at_call 43; exact Calls.quiet_of_same (C.out _)))
      go_wp2_with fail
      go_ret
      refine ⟨?_, ?_⟩
      · rw [T.out]; rfl
      · rw [T.out]; exact PT.out _
    | some un =>
      obtain ⟨u, n⟩ := un
      have ln := rd_le bs q u n hb hr
      have T : Hid (tkU bs (some q) = (u, some n)) := by show _ = _; unfold tkU; simp only; rw [hr]
      have PT : Hid (∀ k, RS bs R v (some n) (((w.drewN k).setCell ⟨R, 1, none⟩ (.int .i64 (n : Int))).setCell ⟨R, 2, none⟩ (.bool false)) ∧ w.grownBy (((w.drewN k).setCell ⟨R, 1, none⟩ (.int .i64 (n : Int))).setCell ⟨R, 2, none⟩ (.bool false)) (some R)) := fun k => h.put (st' := some n) k n (fun q h => by cases h; rfl) (fun q h => by cases h; omega)
      rw [hr] at C
      simp only [rdAns] at C
      clear h hr hp ln
      go_enter Try.func70, Try.ntmps70
      go_wp2_with fail
      go_quiet ((go_at_call 43; exact Calls.quiet_of_same (C.out _)))
      go_wp2_with fail
      go_ret
      refine ⟨?_, ?_⟩
      · rw [T.out]; rfl
      · rw [T.out]; exact PT.out _

theorem cents_at (bs : List Nat) (hb : ∀ c ∈ bs, c < 256) (hl : bs.length ≤ 1000000000000) (R : Nat) (v : Value) (st : Option Nat) (w : World) (h : RS bs R v st w) :
    Calls Try.prog 80 #[.pointer (some ⟨R, 0, none⟩)] w fun e w' => e = .returned (.int .i64 (tkI bs st).1) ∧ RS bs R v (tkI bs st).2 w' ∧ w.grownBy w' (some R) := by
  have C : Hid (Calls Try.prog 102 #[.pointer (some ⟨R, 0, none⟩), .func (.func 16) #[] #[]] w fun e w' => e = .returned (.int .i64 (tkI bs st).1) ∧ RS bs R v (tkI bs st).2 w' ∧ w.grownBy w' (some R)) := takeI_at bs hb hl R v st w h
  clear h
  generalize (tkI bs st).1 = x at *
  generalize (tkI bs st).2 = st' at *
  go_enter Try.func80, Try.ntmps80
  go_wp2_with fail
  refine C.out.mono ?_
  rintro e w1 ⟨rfl, r1, g1⟩
  have R1 : Hid (RS bs R v st' w1) := r1
  clear r1
  go_wp2_with fail
  go_ret
  exact ⟨rfl, R1.out, g1⟩
theorem number_at (bs : List Nat) (hb : ∀ c ∈ bs, c < 256) (hl : bs.length ≤ 1000000000000) (R : Nat) (v : Value) (st : Option Nat) (w : World) (h : RS bs R v st w) :
    Calls Try.prog 74 #[.pointer (some ⟨R, 0, none⟩)] w fun e w' => e = .returned (.int .i64 (tkI bs st).1) ∧ RS bs R v (tkI bs st).2 w' ∧ w.grownBy w' (some R) := by
  have C : Hid (Calls Try.prog 80 #[.pointer (some ⟨R, 0, none⟩)] w fun e w' => e = .returned (.int .i64 (tkI bs st).1) ∧ RS bs R v (tkI bs st).2 w' ∧ w.grownBy w' (some R)) := cents_at bs hb hl R v st w h
  clear h
  generalize (tkI bs st).1 = x at *
  generalize (tkI bs st).2 = st' at *
  go_enter Try.func74, Try.ntmps74
  go_wp2_with fail
  refine C.out.mono ?_
  rintro e w1 ⟨rfl, r1, g1⟩
  have R1 : Hid (RS bs R v st' w1) := r1
  clear r1
  go_wp2_with fail
  go_ret
  exact ⟨rfl, R1.out, g1⟩
end Go.Proofs.Ytdbjjeaflfoppaa
