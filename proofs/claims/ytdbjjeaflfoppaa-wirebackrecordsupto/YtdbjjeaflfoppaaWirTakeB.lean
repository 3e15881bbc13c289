/-
  Ours: the program's reader: its fields taken one behind the other.
-/
import Derived.Test.YtdbjjeaflfoppaaWirEncOpB
import Derived.Deep.QuietTactic
import Derived.BigQuiet
namespace Go.Proofs.Ytdbjjeaflfoppaa
open Go.RowKit

theorem Rd.grownN {w w' : World} {v : Value} {vs : List Value} {g : Nat} (h : Rd w v vs) (hg : w.grownBy w' (some g)) (hn : 0 < vs.length → v.ownBlock ≠ some g) : Rd w' v vs := by
  by_cases h0 : 0 < vs.length
  · exact Rd.grown h hg (fun g' h1 h2 => hn h0 (by rw [h1]; exact h2.symm))
  · obtain ⟨ao, cap, rfl, h1, h2, h3⟩ := h
    exact ⟨ao, cap, rfl, h1, h2, fun i hi => by omega⟩
theorem Rd.block {w : World} {v : Value} {vs : List Value} (h : Rd w v vs) (h0 : 0 < vs.length) {g : Nat} (hg : v.ownBlock = some g) : g < w.heap.size := by
  obtain ⟨ao, cap, rfl, h1, h2, h3⟩ := h
  obtain ⟨b, o, e, lt, _⟩ := h3 0 h0
  subst e
  cases hg; exact lt

/-- A reader in memory, over bytes bs; st: the place where it stands, or none where something was refused. -/
structure RS (bs : List Nat) (R : Nat) (v : Value) (st : Option Nat) (w : World) : Prop where
  c0 : w.cell? ⟨R, 0, none⟩ = some v
  c1 : ∃ p : Int, w.cell? ⟨R, 1, none⟩ = some (.int .i64 p) ∧ ∀ q, st = some q → p = (q : Int)
  c2 : w.cell? ⟨R, 2, none⟩ = some (.bool st.isNone)
  fz : ∀ i, w.frozen? ⟨R, i, none⟩ = false
  lt : R < w.heap.size
  rd : RdB w v bs
  ap : 0 < bs.length → v.ownBlock ≠ some R
  le : ∀ q, st = some q → q ≤ bs.length

/-- A number taken. -/
def tkI (bs : List Nat) (st : Option Nat) : Int × Option Nat := match st with
  | none => (0, none)
  | some p => match Go.Proofs.Ytdbjjeaflfoppaa.rd bs p with
    | some (u, n) => (unzz u, some n)
    | none => (0, none)

theorem setCell_grown (w : World) (R i : Nat) (u : Value) : w.grownBy (w.setCell ⟨R, i, none⟩ u) (some R) := ⟨rfl, rfl, rfl, Nat.le_of_eq (by simp), fun k _ hk => Below.heap_setCell _ _ _ _ (fun e => hk (by rw [e]))⟩

theorem RS.put {bs : List Nat} {R : Nat} {v : Value} {st st' : Option Nat} {w : World} (h : RS bs R v st w) (n : Nat) (p : Int) (hp : ∀ q, st' = some q → p = (q : Int)) (hq : ∀ q, st' = some q → q ≤ bs.length) :
    RS bs R v st' (((w.drewN n).setCell ⟨R, 1, none⟩ (.int .i64 p)).setCell ⟨R, 2, none⟩ (.bool st'.isNone)) ∧ w.grownBy (((w.drewN n).setCell ⟨R, 1, none⟩ (.int .i64 p)).setCell ⟨R, 2, none⟩ (.bool st'.isNone)) (some R) := by
  have g : w.grownBy (((w.drewN n).setCell ⟨R, 1, none⟩ (.int .i64 p)).setCell ⟨R, 2, none⟩ (.bool st'.isNone)) (some R) := grownBy_trans (grownBy_trans (grownBy_drewN (grownBy_refl w _) n) (setCell_grown _ R 1 _)) (setCell_grown _ R 2 _)
  obtain ⟨p0, hp0, _⟩ := h.c1
  have e0 := h.c0
  have e2 := h.c2
  have d0 : (w.drewN n).cell? ⟨R, 0, none⟩ = some v := e0
  have d1 : (w.drewN n).cell? ⟨R, 1, none⟩ = some (.int .i64 p0) := hp0
  have d2 : (w.drewN n).cell? ⟨R, 2, none⟩ = some (.bool st.isNone) := e2
  refine ⟨⟨?_, ⟨p, ?_, hp⟩, ?_, ?_, Nat.lt_of_lt_of_le h.lt g.size, ?_, h.ap, hq⟩, g⟩
  · rw [World.cell?_setCell_other _ _ _ _ (by simp), World.cell?_setCell_other _ _ _ _ (by simp)]; exact d0
  · rw [World.cell?_setCell_other _ _ _ _ (by simp)]; exact World.cell?_setCell_same _ _ _ d1
  · refine World.cell?_setCell_same _ _ _ ((World.cell?_setCell_other _ _ _ _ (by simp)).trans d2)
  · intro i
    have := h.fz i
    rw [World.frozen?_setCell, World.frozen?_setCell]
    exact this
  · exact Rd.grownN h.rd g (by rw [List.length_map]; exact h.ap)

set_option maxRecDepth 20000 in
set_option maxHeartbeats 1000000 in
theorem takeI_at (bs : List Nat) (hb : ∀ c ∈ bs, c < 256) (hl : bs.length ≤ 1000000000000) (R : Nat) (v : Value) (st : Option Nat) (w : World) (h : RS bs R v st w) :
    Calls Try.prog 102 #[.pointer (some ⟨R, 0, none⟩), .func (.func 16) #[] #[]] w fun e w' => e = .returned (.int .i64 (tkI bs st).1) ∧ RS bs R v (tkI bs st).2 w' ∧ w.grownBy w' (some R) := by
  have c0 := h.c0
  have c2 := h.c2
  obtain ⟨p, c1, hp⟩ := h.c1
  have fz1 := h.fz 1
  have fz2 := h.fz 2
  cases st with
  | none =>
    simp only [Option.isNone] at c2
    have HH : Hid (RS bs R v none w) := h
    clear h hp
    go_enter Try.func102, Try.ntmps102
    go_wp2_with fail
    go_ret
    exact ⟨rfl, HH.out, grownBy_refl _ _⟩
  | some q =>
    obtain rfl := hp q rfl
    have hq := h.le q rfl
    simp only [Option.isNone] at c2
    have C : Hid (∀ n, Calls Try.prog 16 #[v, .int .i64 (q : Int)] (w.drewN n) fun e w' => e = rdIAns (Go.Proofs.Ytdbjjeaflfoppaa.rd bs q) ∧ w' = w.drewN n) := fun n => int_at bs q v (w.drewN n) hb (by omega) (by omega) (by omega) h.rd
    cases hr : Go.Proofs.Ytdbjjeaflfoppaa.rd bs q with
    | none =>
      have T : Hid (tkI bs (some q) = (0, none)) := by show _ = _; unfold tkI; simp only; rw [hr]
      have PT : Hid (∀ n, RS bs R v none (((w.drewN n).setCell ⟨R, 1, none⟩ (.int .i64 0)).setCell ⟨R, 2, none⟩ (.bool true)) ∧ w.grownBy (((w.drewN n).setCell ⟨R, 1, none⟩ (.int .i64 0)).setCell ⟨R, 2, none⟩ (.bool true)) (some R)) := fun n => h.put (st' := none) n 0 (fun q h => by cases h) (fun q h => by cases h)
      rw [hr] at C
      simp only [rdIAns] at C
      clear h hr hp
      go_enter Try.func102, Try.ntmps102
      go_wp2_with fail
      go_quiet ((go_at_call 16; exact Calls.quiet_of_same (C.out _)))
      go_wp2_with fail
      go_ret
      refine ⟨?_, ?_⟩
      · rw [T.out]; rfl
      · rw [T.out]; exact PT.out _
    | some un =>
      obtain ⟨u, n⟩ := un
      have ln := rd_le bs q u n hb hr
      have T : Hid (tkI bs (some q) = (unzz u, some n)) := by show _ = _; unfold tkI; simp only; rw [hr]
      have PT : Hid (∀ k, RS bs R v (some n) (((w.drewN k).setCell ⟨R, 1, none⟩ (.int .i64 (n : Int))).setCell ⟨R, 2, none⟩ (.bool false)) ∧ w.grownBy (((w.drewN k).setCell ⟨R, 1, none⟩ (.int .i64 (n : Int))).setCell ⟨R, 2, none⟩ (.bool false)) (some R)) := fun k => h.put (st' := some n) k n (fun q h => by cases h; rfl) (fun q h => by cases h; omega)
      rw [hr] at C
      simp only [rdIAns] at C
      clear h hr hp ln
      go_enter Try.func102, Try.ntmps102
      go_wp2_with fail
      go_quiet ((go_at_call 16; exact Calls.quiet_of_same (C.out _)))
      go_wp2_with fail
      go_ret
      refine ⟨?_, ?_⟩
      · rw [T.out]; rfl
      · rw [T.out]; exact PT.out _
end Go.Proofs.Ytdbjjeaflfoppaa
