/-
  Ours: the reference's In.count.
-/
import Derived.Test.YtbghoogkmdnmpaaWirRDec
namespace Go.Proofs.Ytbghoogkmdnmpaa
open Go.RowKit

/-- How many follow, taken. -/
def tkC (bs : List Nat) (st : Option Nat) : Nat × Option Nat := match st with
  | none => (0, none)
  | some p => match lenR bs p with
    | some (v, n) => (v, some n)
    | none => (0, none)

set_option maxRecDepth 20000 in
set_option maxHeartbeats 1000000 in
theorem inCount_at (bs : List Nat) (hb : ∀ c ∈ bs, c < 256) (hl : bs.length ≤ 1000000000000) (R : Nat) (v : Value) (st : Option Nat) (w : World) (h : IS bs R v st w) :
    Calls Try.prog 97 #[.pointer (some ⟨R, 0, none⟩)] w fun e w' => e = .returned (.int .i64 ((tkC bs st).1 : Int)) ∧ IS bs R v (tkC bs st).2 w' ∧ w.grownBy w' (some R) := by
  obtain ⟨ao, cap, ev, -, -⟩ := h.rs.rd.len
  obtain ⟨L, hL⟩ : ∃ L, bs.length = L := ⟨_, rfl⟩
  rw [List.length_map, hL] at ev
  subst ev
  have c0 := h.rs.c0
  obtain ⟨p, c1, p0, p1⟩ := h.pb
  have hp := h.rs.c1
  have C : Hid (∀ w', Below w.heap.size w w' → Calls Try.prog 127 #[.slice ao L cap, .int .i64 p] w' fun e w'' => e = rdAns (Go.Proofs.Ytbghoogkmdnmpaa.rd bs p) ∧ Below w'.heap.size w' w'') := fun w' hb' => ruint_at bs p _ w' hb (by omega) (by omega) (by omega) (Rd.later h.rs.rd hb')
  have HB : Hid (∀ w', Below w.heap.size w w' → IS bs R (.slice ao L cap) st w') := fun w' hb' => h.below hb'
  have HE : Hid (∀ q, st = some q → p = (q : Int)) := fun q hq => by
    obtain ⟨p', e1, e2⟩ := hp
    rw [c1] at e1
    cases e1
    exact e2 q hq
  have hl' : L ≤ 1000000000000 := by omega
  clear h hp
  cases st with
  | none =>
    have T0 : Hid (tkC bs none = (0, none)) := rfl
    cases hr : Go.Proofs.Ytbghoogkmdnmpaa.rd bs p with
    | none =>
      rw [hr] at C
      simp only [rdAns] at C
      clear hr HE hL
      go_enter Try.func97, Try.ntmps97
      go_wp2_with fail
      go_region_with (go_at_call 127; refine (C.out _ (below_drewN (Below.refl _ _) _)).mono ?_; rintro e w1 ⟨rfl, b1⟩; have B1 : Below w.heap.size w w1 := below_trans (below_drewN (Below.refl _ _) _) b1; have I1 := HB.out w1 B1; have d0 := I1.rs.c0; have d2 := I1.rs.c2; have f1' := I1.rs.fz 1; have f2' := I1.rs.fz 2; have k1 : ∃ p', w1.cell? ⟨R, 1, none⟩ = some (.int .i64 p') := ⟨_, I1.pb.choose_spec.1⟩; obtain ⟨p', k1'⟩ := k1; simp only [Option.isNone] at d2)
      all_goals
        go_wp2_with fail
        go_ret
        refine ⟨?_, ?_, below_set B1 _ _⟩
        · rw [T0.out]; rfl
        · rw [T0.out]; exact I1.bad
    | some un =>
      obtain ⟨u, n⟩ := un
      rw [hr] at C
      simp only [rdAns] at C
      clear hr HE hL
      go_enter Try.func97, Try.ntmps97
      go_wp2_with fail
      go_region_with (go_at_call 127; refine (C.out _ (below_drewN (Below.refl _ _) _)).mono ?_; rintro e w1 ⟨rfl, b1⟩; have B1 : Below w.heap.size w w1 := below_trans (below_drewN (Below.refl _ _) _) b1; have I1 := HB.out w1 B1; have d0 := I1.rs.c0; have d2 := I1.rs.c2; have f1' := I1.rs.fz 1; have f2' := I1.rs.fz 2; have k1 : ∃ p', w1.cell? ⟨R, 1, none⟩ = some (.int .i64 p') := ⟨_, I1.pb.choose_spec.1⟩; obtain ⟨p', k1'⟩ := k1; simp only [Option.isNone] at d2)
      all_goals
        go_wp2_with fail
        go_ret
        refine ⟨?_, ?_, below_set B1 _ _⟩
        · rw [T0.out]; rfl
        · rw [T0.out]; exact I1.bad
  | some q =>
    obtain rfl := HE.out q rfl
    cases hr : Go.Proofs.Ytbghoogkmdnmpaa.rd bs (q : Int) with
    | none =>
      have T0 : Hid (tkC bs (some q) = (0, none)) := by show _ = _; unfold tkC lenR; simp only; rw [hr]
      rw [hr] at C
      simp only [rdAns] at C
      clear hr HE hL
      go_enter Try.func97, Try.ntmps97
      go_wp2_with fail
      go_region_with (go_at_call 127; refine (C.out _ (below_drewN (Below.refl _ _) _)).mono ?_; rintro e w1 ⟨rfl, b1⟩; have B1 : Below w.heap.size w w1 := below_trans (below_drewN (Below.refl _ _) _) b1; have I1 := HB.out w1 B1; have d0 := I1.rs.c0; have d2 := I1.rs.c2; have f1' := I1.rs.fz 1; have f2' := I1.rs.fz 2; have k1 : ∃ p', w1.cell? ⟨R, 1, none⟩ = some (.int .i64 p') := ⟨_, I1.pb.choose_spec.1⟩; obtain ⟨p', k1'⟩ := k1; simp only [Option.isNone] at d2)
      all_goals
        go_wp2_with fail
        go_ret
        refine ⟨?_, ?_, below_set B1 _ _⟩
        · rw [T0.out]; rfl
        · rw [T0.out]; exact I1.bad
    | some un =>
      obtain ⟨u, n⟩ := un
      obtain ⟨_, _, n2, n3⟩ := rd_le bs q u n hb hr
      rw [hL] at n2
      by_cases hc : u ≤ L - n
      · have T0 : Hid (tkC bs (some q) = (u, some n)) := by show _ = _; unfold tkC lenR; simp only; rw [hr]; simp only; rw [hL, if_pos hc]
        have hn : Hid (n ≤ bs.length) := by show _ ≤ _; omega
        have d : decide ((L : Int) - (n : Int) < (u : Int)) = false := decide_eq_false (by omega)
        rw [hr] at C
        simp only [rdAns] at C
        clear hr HE hL
        go_enter Try.func97, Try.ntmps97
        go_wp2_with fail
        go_region_with (go_at_call 127; refine (C.out _ (below_drewN (Below.refl _ _) _)).mono ?_; rintro e w1 ⟨rfl, b1⟩; have B1 : Below w.heap.size w w1 := below_trans (below_drewN (Below.refl _ _) _) b1; have I1 := HB.out w1 B1; have d0 := I1.rs.c0; have d2 := I1.rs.c2; have f1' := I1.rs.fz 1; have f2' := I1.rs.fz 2; have k1 : ∃ p', w1.cell? ⟨R, 1, none⟩ = some (.int .i64 p') := ⟨_, I1.pb.choose_spec.1⟩; obtain ⟨p', k1'⟩ := k1; simp only [Option.isNone] at d2)
        all_goals
          go_wp2_with fail
          go_ret
          refine ⟨?_, ?_, below_set B1 _ _⟩
          · rw [T0.out]; rfl
          · rw [T0.out]; exact I1.move hn.out
      · have T0 : Hid (tkC bs (some q) = (0, none)) := by show _ = _; unfold tkC lenR; simp only; rw [hr]; simp only; rw [hL, if_neg hc]
        have d : decide ((L : Int) - (n : Int) < (u : Int)) = true := decide_eq_true (by omega)
        rw [hr] at C
        simp only [rdAns] at C
        clear hr HE hL
        go_enter Try.func97, Try.ntmps97
        go_wp2_with fail
        go_region_with (go_at_call 127; refine (C.out _ (below_drewN (Below.refl _ _) _)).mono ?_; rintro e w1 ⟨rfl, b1⟩; have B1 : Below w.heap.size w w1 := below_trans (below_drewN (Below.refl _ _) _) b1; have I1 := HB.out w1 B1; have d0 := I1.rs.c0; have d2 := I1.rs.c2; have f1' := I1.rs.fz 1; have f2' := I1.rs.fz 2; have k1 : ∃ p', w1.cell? ⟨R, 1, none⟩ = some (.int .i64 p') := ⟨_, I1.pb.choose_spec.1⟩; obtain ⟨p', k1'⟩ := k1; simp only [Option.isNone] at d2)
        all_goals
          go_wp2_with fail
          go_ret
          refine ⟨?_, ?_, below_set B1 _ _⟩
          · rw [T0.out]; rfl
          · rw [T0.out]; exact I1.bad
end Go.Proofs.Ytbghoogkmdnmpaa
