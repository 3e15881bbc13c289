/-
  Ours: the reader's id; the program's List of ids.
-/
import Derived.Test.YtbghoogkmdnmpaaWirWhole
import Derived.Test.YtbghoogkmdnmpaaWirRec0
namespace Go.Proofs.Ytbghoogkmdnmpaa
open Go.RowKit

abbrev RowN (base : Nat) (w : World) (v : Value) (xs : List Int) : Prop := RowV 3 base w v (xs.map (Value.int .i64))
theorem infoN : (Try.prog.info? 3).map (fun i => (i.zero, i.size, i.bytes)) = some (some (.int .i64 0), 1, 8) := by kernel_rfl
theorem underN : Try.prog.underlying 24 = some (.slice 3) := by kernel_rfl

/-- Numbers read one behind the other. -/
def elemsI (bs : List Nat) : Nat → Nat → Option (List Int × Nat)
  | 0, p => some ([], p)
  | n + 1, p => match Go.Proofs.Ytbghoogkmdnmpaa.rd bs (p : Int) with
    | some (u, q) => (elemsI bs n q).map fun r => (unzz u :: r.1, r.2)
    | none => none
/-- A list of numbers at a place. -/
def listI (bs : List Nat) (p : Nat) : Option (List Int × Nat) := match lenR bs (p : Int) with
  | some (v, n) => elemsI bs v n
  | none => none
theorem elemsI_len (bs : List Nat) : ∀ (n p : Nat) (q : List Int × Nat), elemsI bs n p = some q → q.1.length = n
  | 0, p, q, h => by simp [elemsI] at h; subst h; rfl
  | n + 1, p, q, h => by
    unfold elemsI at h
    cases hr : Go.Proofs.Ytbghoogkmdnmpaa.rd bs (p : Int) with
    | none => rw [hr] at h; cases h
    | some u =>
      obtain ⟨u, q'⟩ := u
      rw [hr] at h
      simp only at h
      obtain ⟨r, h1, rfl⟩ := Option.map_eq_some_iff.1 h
      simp [elemsI_len bs n _ r h1]
theorem elemsI_le (bs : List Nat) (hb : ∀ c ∈ bs, c < 256) : ∀ (n p : Nat) (q : List Int × Nat), p ≤ bs.length → elemsI bs n p = some q → q.2 ≤ bs.length
  | 0, p, q, hp, h => by simp [elemsI] at h; subst h; exact hp
  | n + 1, p, q, hp, h => by
    unfold elemsI at h
    cases hr : Go.Proofs.Ytbghoogkmdnmpaa.rd bs (p : Int) with
    | none => rw [hr] at h; cases h
    | some u =>
      obtain ⟨u, q'⟩ := u
      have := rd_le bs p u q' hb hr
      rw [hr] at h
      simp only at h
      obtain ⟨r, h1, rfl⟩ := Option.map_eq_some_iff.1 h
      exact elemsI_le bs hb n q' r (by omega) h1
/-- The state of a reading: n were asked for at first, k are read. -/
structure ReadI (bs : List Nat) (n p0 k : Nat) (xs : List Int) (p : Nat) : Prop where
  le : k ≤ n
  len : xs.length = k
  rest : elemsI bs n p0 = (elemsI bs (n - k) p).map fun q => (xs ++ q.1, q.2)
theorem ReadI.start (bs : List Nat) (n p : Nat) : ReadI bs n p 0 [] p := ⟨by omega, rfl, by simp⟩
theorem ReadI.step {bs : List Nat} {n p0 k p u q : Nat} {xs : List Int} (h : ReadI bs n p0 k xs p) (hk : k < n) (h1 : Go.Proofs.Ytbghoogkmdnmpaa.rd bs (p : Int) = some (u, q)) : ReadI bs n p0 (k + 1) (xs ++ [unzz u]) q := by
  refine ⟨by omega, by simp [h.len], ?_⟩
  rw [h.rest, show n - k = (n - (k + 1)) + 1 by omega, elemsI, h1]
  simp only
  rw [Option.map_map]
  congr 1
  funext q
  simp
theorem ReadI.fails {bs : List Nat} {n p0 k p : Nat} {xs : List Int} (h : ReadI bs n p0 k xs p) (hk : k < n) (h1 : Go.Proofs.Ytbghoogkmdnmpaa.rd bs (p : Int) = none) : elemsI bs n p0 = none := by
  rw [h.rest, show n - k = (n - (k + 1)) + 1 by omega, elemsI, h1]; rfl
theorem ReadI.ends {bs : List Nat} {n p0 p : Nat} {xs : List Int} (h : ReadI bs n p0 n xs p) : elemsI bs n p0 = some (xs, p) := by
  rw [h.rest, Nat.sub_self, elemsI]; simp

theorem RS.drewN {bs : List Nat} {R : Nat} {v : Value} {st : Option Nat} {w : World} (h : RS bs R v st w) (n : Nat) : RS bs R v st (w.drewN n) := ⟨h.c0, h.c1, h.c2, h.fz, h.lt, h.rd, h.ap, h.le⟩
/-- The reader set to another place. -/
theorem RS.seek {bs : List Nat} {R q0 : Nat} {v : Value} {w : World} (h : RS bs R v (some q0) w) (p : Nat) (hp : p ≤ bs.length) :
    RS bs R v (some p) ((w.setCell ⟨R, 0, none⟩ v).setCell ⟨R, 1, none⟩ (.int .i64 (p : Int))) ∧ w.grownBy ((w.setCell ⟨R, 0, none⟩ v).setCell ⟨R, 1, none⟩ (.int .i64 (p : Int))) (some R) := by
  have g := grownBy_trans (setCell_grown w R 0 v) (setCell_grown (w.setCell ⟨R, 0, none⟩ v) R 1 (.int .i64 (p : Int)))
  obtain ⟨p0, hp0, _⟩ := h.c1
  refine ⟨⟨?_, ⟨p, ?_, fun q h => by cases h; rfl⟩, ?_, ?_, Nat.lt_of_lt_of_le h.lt g.size, ?_, h.ap, fun q h => by cases h; exact hp⟩, g⟩
  · rw [World.cell?_setCell_other _ _ _ _ (by simp)]; exact World.cell?_setCell_same _ _ _ h.c0
  · exact World.cell?_setCell_same _ _ _ ((World.cell?_setCell_other _ _ _ _ (by simp)).trans hp0)
  · rw [World.cell?_setCell_other _ _ _ _ (by simp), World.cell?_setCell_other _ _ _ _ (by simp)]; exact h.c2
  · intro i
    rw [World.frozen?_setCell, World.frozen?_setCell]; exact h.fz i
  · exact Rd.grownN h.rd g (by rw [List.length_map]; exact h.ap)

set_option maxRecDepth 20000 in
theorem seekS_at (bs : List Nat) (R q0 : Nat) (v : Value) (p : Nat) (w : World) (h : RS bs R v (some q0) w) (hp : p ≤ bs.length) :
    Calls Try.prog 75 #[.pointer (some ⟨R, 0, none⟩), v, .int .i64 (p : Int)] w fun e w' => e = .returned (.tuple #[]) ∧ RS bs R v (some p) w' ∧ w.grownBy w' (some R) := by
  have S : Hid (RS bs R v (some p) ((w.setCell ⟨R, 0, none⟩ v).setCell ⟨R, 1, none⟩ (.int .i64 (p : Int))) ∧ w.grownBy ((w.setCell ⟨R, 0, none⟩ v).setCell ⟨R, 1, none⟩ (.int .i64 (p : Int))) (some R)) := h.seek p hp
  have c0 := h.c0
  obtain ⟨p0, c1, _⟩ := h.c1
  have f0 := h.fz 0
  have f1 := h.fz 1
  obtain ⟨ao, cap, rfl, _, _⟩ := h.rd.len
  simp only [List.length_map] at S c0 ⊢
  clear h
  go_enter Try.func75, Try.ntmps75
  go_wp2_with fail
  go_end0
  exact ⟨rfl, S.out⟩

set_option maxRecDepth 20000 in
set_option maxHeartbeats 1000000 in
theorem id_at (bs : List Nat) (hb : ∀ c ∈ bs, c < 256) (hl : bs.length ≤ 1000000000000) (R q0 : Nat) (v : Value) (p : Nat) (w : World) (h : RS bs R v (some q0) w) (hp : p ≤ bs.length) :
    Calls Try.prog 79 #[.pointer (some ⟨R, 0, none⟩), v, .int .i64 (p : Int)] w fun e w' => (∃ y : Int, e = .returned (.tuple #[.int .i64 (tkI bs (some p)).1, .int .i64 y, .bool (tkI bs (some p)).2.isSome]) ∧ ∀ q, (tkI bs (some p)).2 = some q → y = (q : Int)) ∧ RS bs R v (tkI bs (some p)).2 w' ∧ w.grownBy w' (some R) := by
  have SK : Hid (Calls Try.prog 75 #[.pointer (some ⟨R, 0, none⟩), v, .int .i64 (p : Int)] w fun e w' => e = .returned (.tuple #[]) ∧ RS bs R v (some p) w' ∧ w.grownBy w' (some R)) := seekS_at bs R q0 v p w h hp
  have NU : Hid (∀ w, RS bs R v (some p) w → Calls Try.prog 81 #[.pointer (some ⟨R, 0, none⟩)] w fun e w' => e = .returned (.int .i64 (tkI bs (some p)).1) ∧ RS bs R v (tkI bs (some p)).2 w' ∧ w.grownBy w' (some R)) := fun w h => number_at bs hb hl R v (some p) w h
  obtain ⟨ao, cap, ev, _, _⟩ := h.rd.len
  generalize (bs.map bv).length = L at ev
  subst ev
  generalize (tkI bs (some p)).2 = st' at *
  generalize (tkI bs (some p)).1 = x at *
  clear h hb hl hp
  go_enter Try.func79, Try.ntmps79
  go_wp2_with fail
  refine SK.out.mono ?_
  rintro e w1 ⟨rfl, s1, g1⟩
  have S1 : Hid (RS bs R (.slice ao L cap) (some p) w1) := s1
  clear s1
  go_wp2_with fail
  refine (NU.out _ S1.out).mono ?_
  rintro e w2 ⟨rfl, s2, g2⟩
  obtain ⟨y, c1, hy⟩ := s2.c1
  have c2 := s2.c2
  have S2 : Hid (RS bs R (.slice ao L cap) st' w2) := s2
  have HY : Hid (∀ q, st' = some q → y = (q : Int)) := hy
  have G2 : Hid (w.grownBy w2 (some R)) := grownBy_trans g1 g2
  clear s2 hy g1 g2 SK NU S1
  obtain ⟨nb, hnb⟩ : ∃ b, st'.isNone = b := ⟨_, rfl⟩
  have NB : Hid (st'.isSome = !nb) := by show _ = _; rw [← hnb]; cases st' <;> rfl
  rw [hnb] at c2
  clear hnb
  go_wp2_with fail
  go_quiet (fail)
  go_wp2_with fail
  go_ret3
  refine ⟨⟨y, ?_, HY.out⟩, ?_, ?_⟩
  · rw [NB.out]; rfl
  · exact S2.out.drewN _
  · exact grownBy_drewN G2.out _
end Go.Proofs.Ytbghoogkmdnmpaa
