/-
  Ours: the program's reader.record.
-/
import Derived.Test.YtdbjjeaflfoppaaWirTkL
import Derived.Test.YtdbjjeaflfoppaaWirEncR
namespace Go.Proofs.Ytdbjjeaflfoppaa
open Go.RowKit

theorem Blk.nine {G : Nat} {ty : TypeId} {z0 z1 z2 z3 z4 z5 z6 z7 z8 : Value} {w : World} (h : Blk G ty [z0, z1, z2, z3, z4, z5, z6, z7, z8] w) (a b c d e f g k l : Value) :
    Blk G ty [a, b, c, d, e, f, g, k, l] (((((((((w.setCell ⟨G, 0, none⟩ (a)).setCell ⟨G, 1, none⟩ (b)).setCell ⟨G, 2, none⟩ (c)).setCell ⟨G, 3, none⟩ (d)).setCell ⟨G, 4, none⟩ (e)).setCell ⟨G, 5, none⟩ (f)).setCell ⟨G, 6, none⟩ (g)).setCell ⟨G, 7, none⟩ (k)).setCell ⟨G, 8, none⟩ (l)) ∧ w.grownBy (((((((((w.setCell ⟨G, 0, none⟩ (a)).setCell ⟨G, 1, none⟩ (b)).setCell ⟨G, 2, none⟩ (c)).setCell ⟨G, 3, none⟩ (d)).setCell ⟨G, 4, none⟩ (e)).setCell ⟨G, 5, none⟩ (f)).setCell ⟨G, 6, none⟩ (g)).setCell ⟨G, 7, none⟩ (k)).setCell ⟨G, 8, none⟩ (l)) (some G) := by
  refine ⟨?_, ?_⟩
  · exact Blk.set (i := 8) (Blk.set (i := 7) (Blk.set (i := 6) (Blk.set (i := 5) (Blk.set (i := 4) (Blk.set (i := 3) (Blk.set (i := 2) (Blk.set (i := 1) (Blk.set (i := 0) h a) b) c) d) e) f) g) k) l
  · exact grownBy_trans (grownBy_trans (grownBy_trans (grownBy_trans (grownBy_trans (grownBy_trans (grownBy_trans (grownBy_trans (setCell_grown _ G 0 _) (setCell_grown _ G 1 _)) (setCell_grown _ G 2 _)) (setCell_grown _ G 3 _)) (setCell_grown _ G 4 _)) (setCell_grown _ G 5 _)) (setCell_grown _ G 6 _)) (setCell_grown _ G 7 _)) (setCell_grown _ G 8 _)
/-- The seven cells of an operation within a record's. -/
theorem Blk.mid {G : Nat} {ty : TypeId} {z0 z1 z2 z3 z4 z5 z6 z7 z8 : Value} {w : World} (h : Blk G ty [z0, z1, z2, z3, z4, z5, z6, z7, z8] w) (b c d e f g k : Value) :
    Blk G ty [z0, b, c, d, e, f, g, k, z8] (((((((w.setCell ⟨G, 1, none⟩ (b)).setCell ⟨G, 2, none⟩ (c)).setCell ⟨G, 3, none⟩ (d)).setCell ⟨G, 4, none⟩ (e)).setCell ⟨G, 5, none⟩ (f)).setCell ⟨G, 6, none⟩ (g)).setCell ⟨G, 7, none⟩ (k)) ∧ w.grownBy (((((((w.setCell ⟨G, 1, none⟩ (b)).setCell ⟨G, 2, none⟩ (c)).setCell ⟨G, 3, none⟩ (d)).setCell ⟨G, 4, none⟩ (e)).setCell ⟨G, 5, none⟩ (f)).setCell ⟨G, 6, none⟩ (g)).setCell ⟨G, 7, none⟩ (k)) (some G) := by
  refine ⟨?_, ?_⟩
  · exact Blk.set (i := 7) (Blk.set (i := 6) (Blk.set (i := 5) (Blk.set (i := 4) (Blk.set (i := 3) (Blk.set (i := 2) (Blk.set (i := 1) h b) c) d) e) f) g) k
  · exact grownBy_trans (grownBy_trans (grownBy_trans (grownBy_trans (grownBy_trans (grownBy_trans (setCell_grown _ G 1 _) (setCell_grown _ G 2 _)) (setCell_grown _ G 3 _)) (setCell_grown _ G 4 _)) (setCell_grown _ G 5 _)) (setCell_grown _ G 6 _)) (setCell_grown _ G 7 _)

/-- What a record's bytes read as: its kind, its operation, its list; the place behind it. -/
abbrev RecR := (Int × OpV × List Int) × Option Nat
def recW (u : Nat) (o : OpV × Option Nat) (l : List Int × Option Nat) : RecR :=
  if u = 1 then ((1, o.1, []), o.2) else if u = 2 then ((2, opZ, l.1), l.2) else ((0, opZ, []), none)
def recR (bs : List Nat) : RecR := recW (tkU bs (some 0)).1 (opR bs (tkU bs (some 0)).2) (tkL bs (tkU bs (some 0)).2)

set_option maxRecDepth 20000 in
set_option maxHeartbeats 4000000 in
theorem readerRec_at (bs : List Nat) (hb : ∀ c ∈ bs, c < 256) (hl : bs.length ≤ 1000000000000) (R : Nat) (v u0 u1 : Value) (w : World) (ty : TypeId) (h : Blk R ty [u0, u1, .bool false] w) (hr : RdB w v bs) (ha : 0 < bs.length → v.ownBlock ≠ some R) :
    Calls Try.prog 50 #[.pointer (some ⟨R, 0, none⟩), v, .int .i64 0] w fun e w' => (∃ (p : Int) (va : Value), e = .returned (.tuple #[recV (recR bs).1.1 (recR bs).1.2.1 va, .int .i64 p, .bool (recR bs).2.isSome]) ∧ (∀ q, (recR bs).2 = some q → p = (q : Int)) ∧ RowN w.heap.size w' va (recR bs).1.2.2) ∧ w.grownBy w' (some R) := by
  have SK : Hid (∀ w, Blk R ty [u0, u1, .bool false] w → RdB w v bs → Calls Try.prog 68 #[.pointer (some ⟨R, 0, none⟩), v, .int .i64 0] w fun e w' => e = .returned (.tuple #[]) ∧ RS bs R v (some 0) w' ∧ w.grownBy w' (some R)) := fun w h hr => seek_at bs R v u0 u1 0 w ty h (Nat.zero_le _) hr ha
  have TU : Hid (∀ w, RS bs R v (some 0) w → Calls Try.prog 70 #[.pointer (some ⟨R, 0, none⟩), .func (.func 43) #[] #[]] w fun e w' => e = .returned (.int .u64 ((tkU bs (some 0)).1 : Int)) ∧ RS bs R v (tkU bs (some 0)).2 w' ∧ w.grownBy w' (some R)) := fun w h => takeU_at bs hb hl R v (some 0) w h
  have OF : Hid (∀ w, RS bs R v (tkU bs (some 0)).2 w → Calls Try.prog 69 #[.pointer (some ⟨R, 0, none⟩)] w fun e w' => e = .returned (opV (opR bs (tkU bs (some 0)).2).1) ∧ RS bs R v (opR bs (tkU bs (some 0)).2).2 w' ∧ w.grownBy w' (some R)) := fun w h => opFields_at bs hb hl R v _ w h
  have TL : Hid (∀ w, RS bs R v (tkU bs (some 0)).2 w → Calls Try.prog 71 #[.pointer (some ⟨R, 0, none⟩), .func (.func 72) #[.pointer (some ⟨R, 0, none⟩)] #[]] w fun e w' => ∃ vl, e = .returned vl ∧ RowN w.heap.size w' vl (tkL bs (tkU bs (some 0)).2).1 ∧ RS bs R v (tkL bs (tkU bs (some 0)).2).2 w' ∧ w.grownBy w' (some R)) := fun w h => takeList_at bs hb hl R v _ w h
  have RE : Hid (recR bs = recW (tkU bs (some 0)).1 (opR bs (tkU bs (some 0)).2) (tkL bs (tkU bs (some 0)).2)) := rfl
  have hR := h.lt
  have hV : Hid (∀ g, w.heap.size ≤ g → 0 < bs.length → v.ownBlock ≠ some g) := fun g hg h0 e => by
    have := Rd.block hr (by rw [List.length_map]; exact h0) e
    omega
  obtain ⟨ao, cap, ev, _, _⟩ := hr.len
  generalize (bs.map bv).length = LL at ev
  subst ev
  generalize recR bs = rr at *
  generalize opR bs (tkU bs (some 0)).2 = oo at *
  generalize tkL bs (tkU bs (some 0)).2 = ll at *
  generalize (tkU bs (some 0)).2 = s1 at *
  generalize (tkU bs (some 0)).1 = u at *
  have BA := below_alloc w (.cells #[.int .i64 0, .int .i64 0, .int .i64 0, .int .i64 0, .int .i64 0, .int .i64 0, .int .i64 0, .string ⟨#[]⟩, .slice none 0 0] 26)
  have BD0 := Blk.new 26 [.int .i64 0, .int .i64 0, .int .i64 0, .int .i64 0, .int .i64 0, .int .i64 0, .int .i64 0, .string ⟨#[]⟩, .slice none 0 0] w
  have h1 := h.below BA
  have r1 := Rd.later hr BA
  obtain ⟨D, hDe⟩ : ∃ D, w.heap.size = D := ⟨_, rfl⟩
  have GA := grownBy_below BA (some R)
  go_enter Try.func50, Try.ntmps50
  go_wp2_with fail
  rw [hDe] at BD0 hR hV
  have GA2 : w.grownBy (w.alloc (.cells #[.int .i64 0, .int .i64 0, .int .i64 0, .int .i64 0, .int .i64 0, .int .i64 0, .int .i64 0, .string ⟨#[]⟩, .slice none 0 0] 26)) (some R) := GA
  have hDe' : Hid (w.heap.size = D) := hDe
  clear h hr BA hDe GA hb hl ha
  generalize w.alloc (.cells #[.int .i64 0, .int .i64 0, .int .i64 0, .int .i64 0, .int .i64 0, .int .i64 0, .int .i64 0, .string ⟨#[]⟩, .slice none 0 0] 26) = W0 at *
  refine (SK.out _ h1 r1).mono ?_
  rintro e w1 ⟨rfl, t1, g1⟩
  have BD1 : Blk D 26 [.int .i64 0, .int .i64 0, .int .i64 0, .int .i64 0, .int .i64 0, .int .i64 0, .int .i64 0, .string ⟨#[]⟩, .slice none 0 0] w1 := Blk.grown BD0 g1 (by omega)
  have G1 := grownBy_trans GA2 g1
  clear h1 r1 BD0 GA2 g1
  have BA1 := below_alloc w1 (.cells #[.int .i64 0, .int .i64 0, .int .i64 0, .int .i64 0, .int .i64 0, .int .i64 0, .int .i64 0, .string ⟨#[]⟩, .slice none 0 0] 26)
  have BE0 := Blk.new 26 [.int .i64 0, .int .i64 0, .int .i64 0, .int .i64 0, .int .i64 0, .int .i64 0, .int .i64 0, .string ⟨#[]⟩, .slice none 0 0] w1
  have BD2 := BD1.below BA1
  have T1 := t1.below BA1
  have G2 := grownBy_trans G1 (grownBy_below BA1 (some R))
  have hDE := BD1.lt
  obtain ⟨E, hEe⟩ : ∃ E, w1.heap.size = E := ⟨_, rfl⟩
  rw [hEe] at BE0 hDE
  clear BA1 t1 BD1 G1 SK
  go_wp2_with fail
  clear hEe
  generalize w1.alloc (.cells #[.int .i64 0, .int .i64 0, .int .i64 0, .int .i64 0, .int .i64 0, .int .i64 0, .int .i64 0, .string ⟨#[]⟩, .slice none 0 0] 26) = W1 at *
  refine (TU.out _ T1).mono ?_
  rintro e w2 ⟨rfl, t2, g2⟩
  have BD3 : Blk D 26 [.int .i64 0, .int .i64 0, .int .i64 0, .int .i64 0, .int .i64 0, .int .i64 0, .int .i64 0, .string ⟨#[]⟩, .slice none 0 0] w2 := Blk.grown BD2 g2 (by omega)
  have BE3 : Blk E 26 [.int .i64 0, .int .i64 0, .int .i64 0, .int .i64 0, .int .i64 0, .int .i64 0, .int .i64 0, .string ⟨#[]⟩, .slice none 0 0] w2 := Blk.grown BE0 g2 (by omega)
  have G3 := grownBy_trans G2 g2
  have VE := hV.out E (by omega)
  have VD := hV.out D (by omega)
  clear T1 BD2 BE0 G2 g2 TU
  by_cases u1 : u = 1
  · have e1 : ((u : Int) == 1) = true := by rw [u1]; rfl
    have RR : rr = ((1, oo.1, []), oo.2) := by rw [RE.out]; unfold recW; rw [if_pos u1]
    subst RR
    try simp only
    clear RE u1 TL
    obtain ⟨o, so⟩ := oo
    obtain ⟨f0, f1, f2, f3, f4, f5, f6⟩ := o
    unfold opV at *
    try simp only at *
    have T3 := t2.other (setCell_grown w2 E 0 (.int .i64 1)) (by omega) VE
    have BE4 : Blk E 26 [.int .i64 1, .int .i64 0, .int .i64 0, .int .i64 0, .int .i64 0, .int .i64 0, .int .i64 0, .string ⟨#[]⟩, .slice none 0 0] (w2.setCell ⟨E, 0, none⟩ (.int .i64 1)) := Blk.set (i := 0) BE3 (.int .i64 1)
    have BD4 := BD3.grown (setCell_grown w2 E 0 (.int .i64 1)) (by omega)
    have G4 := grown_more G3 (setCell_grown w2 E 0 (.int .i64 1)) (by have := hDe'.out; omega)
    have lz0 := BE3.cell 0 _ rfl
    have lf0 := BE3.fz 0
    clear t2 BE3 BD3 G3
    go_wp2_with fail
    generalize w2.setCell ⟨E, 0, none⟩ (.int .i64 1) = W3 at *
    refine (OF.out _ T3).mono ?_
    rintro e w4 ⟨rfl, t4, g4⟩
    have BE4' : Blk E 26 [.int .i64 1, .int .i64 0, .int .i64 0, .int .i64 0, .int .i64 0, .int .i64 0, .int .i64 0, .string ⟨#[]⟩, .slice none 0 0] w4 := BE4.grown g4 (by omega)
    have BD4' : Blk D 26 [.int .i64 0, .int .i64 0, .int .i64 0, .int .i64 0, .int .i64 0, .int .i64 0, .int .i64 0, .string ⟨#[]⟩, .slice none 0 0] w4 := BD4.grown g4 (by omega)
    have G4' := grownBy_trans G4 g4
    clear T3 BE4 BD4 G4 g4 OF lz0 lf0
    obtain ⟨BE5, g5⟩ := Blk.mid BE4' (.int .i64 f0) (.int .i64 f1) (.int .i64 f2) (.int .i64 f3) (.int .i64 f4) (.int .i64 f5) (.string f6)
    have BD5 := BD4'.grown g5 (by omega)
    have T5 := t4.other g5 (by omega) VE
    have G5 := grown_more G4' g5 (by have := hDe'.out; omega)
    have lm1 := BE4'.cell 1 _ rfl
    have lg1 := BE4'.fz 1
    have lm2 := BE4'.cell 2 _ rfl
    have lg2 := BE4'.fz 2
    have lm3 := BE4'.cell 3 _ rfl
    have lg3 := BE4'.fz 3
    have lm4 := BE4'.cell 4 _ rfl
    have lg4 := BE4'.fz 4
    have lm5 := BE4'.cell 5 _ rfl
    have lg5 := BE4'.fz 5
    have lm6 := BE4'.cell 6 _ rfl
    have lg6 := BE4'.fz 6
    have lm7 := BE4'.cell 7 _ rfl
    have lg7 := BE4'.fz 7
    clear t4 BE4' BD4' G4' g5
    go_wp2_with fail
    generalize (((((((w4.setCell ⟨E, 1, none⟩ (.int .i64 f0)).setCell ⟨E, 2, none⟩ (.int .i64 f1)).setCell ⟨E, 3, none⟩ (.int .i64 f2)).setCell ⟨E, 4, none⟩ (.int .i64 f3)).setCell ⟨E, 5, none⟩ (.int .i64 f4)).setCell ⟨E, 6, none⟩ (.int .i64 f5)).setCell ⟨E, 7, none⟩ (.string f6)) = W5 at *
    clear lm1 lg1
    clear lm2 lg2
    clear lm3 lg3
    clear lm4 lg4
    clear lm5 lg5
    clear lm6 lg6
    clear lm7 lg7
    obtain ⟨p, c1, hp⟩ := T5.c1
    have c2 := T5.c2
    have ld0 := BE5.cell 0 _ rfl
    have lz0 := BD5.cell 0 _ rfl
    have lf0 := BD5.fz 0
    have ld1 := BE5.cell 1 _ rfl
    have lz1 := BD5.cell 1 _ rfl
    have lf1 := BD5.fz 1
    have ld2 := BE5.cell 2 _ rfl
    have lz2 := BD5.cell 2 _ rfl
    have lf2 := BD5.fz 2
    have ld3 := BE5.cell 3 _ rfl
    have lz3 := BD5.cell 3 _ rfl
    have lf3 := BD5.fz 3
    have ld4 := BE5.cell 4 _ rfl
    have lz4 := BD5.cell 4 _ rfl
    have lf4 := BD5.fz 4
    have ld5 := BE5.cell 5 _ rfl
    have lz5 := BD5.cell 5 _ rfl
    have lf5 := BD5.fz 5
    have ld6 := BE5.cell 6 _ rfl
    have lz6 := BD5.cell 6 _ rfl
    have lf6 := BD5.fz 6
    have ld7 := BE5.cell 7 _ rfl
    have lz7 := BD5.cell 7 _ rfl
    have lf7 := BD5.fz 7
    have ld8 := BE5.cell 8 _ rfl
    have lz8 := BD5.cell 8 _ rfl
    have lf8 := BD5.fz 8
    have HP : Hid (∀ q, so = some q → p = (q : Int)) := hp
    clear hp
    obtain ⟨nb, hnb⟩ : ∃ b, (so).isNone = b := ⟨_, rfl⟩
    have NB : Hid ((so).isSome = !nb) := by show _ = _; rw [← hnb]; cases (so : Option Nat) <;> rfl
    rw [hnb] at c2
    clear hnb T5
    obtain ⟨b9, g9⟩ := Blk.nine BD5 (.int .i64 1) (.int .i64 f0) (.int .i64 f1) (.int .i64 f2) (.int .i64 f3) (.int .i64 f4) (.int .i64 f5) (.string f6) (.slice none 0 0)
    have B9 : Hid (Blk D 26 [.int .i64 1, .int .i64 f0, .int .i64 f1, .int .i64 f2, .int .i64 f3, .int .i64 f4, .int .i64 f5, .string f6, .slice none 0 0] (((((((((W5.setCell ⟨D, 0, none⟩ (.int .i64 1)).setCell ⟨D, 1, none⟩ (.int .i64 f0)).setCell ⟨D, 2, none⟩ (.int .i64 f1)).setCell ⟨D, 3, none⟩ (.int .i64 f2)).setCell ⟨D, 4, none⟩ (.int .i64 f3)).setCell ⟨D, 5, none⟩ (.int .i64 f4)).setCell ⟨D, 6, none⟩ (.int .i64 f5)).setCell ⟨D, 7, none⟩ (.string f6)).setCell ⟨D, 8, none⟩ (.slice none 0 0))) := b9
    have GF : Hid (w.grownBy (((((((((W5.setCell ⟨D, 0, none⟩ (.int .i64 1)).setCell ⟨D, 1, none⟩ (.int .i64 f0)).setCell ⟨D, 2, none⟩ (.int .i64 f1)).setCell ⟨D, 3, none⟩ (.int .i64 f2)).setCell ⟨D, 4, none⟩ (.int .i64 f3)).setCell ⟨D, 5, none⟩ (.int .i64 f4)).setCell ⟨D, 6, none⟩ (.int .i64 f5)).setCell ⟨D, 7, none⟩ (.string f6)).setCell ⟨D, 8, none⟩ (.slice none 0 0)) (some R)) := grown_more G5 g9 (Nat.le_of_eq hDe'.out)
    have RF : Hid (RowN D (((((((((W5.setCell ⟨D, 0, none⟩ (.int .i64 1)).setCell ⟨D, 1, none⟩ (.int .i64 f0)).setCell ⟨D, 2, none⟩ (.int .i64 f1)).setCell ⟨D, 3, none⟩ (.int .i64 f2)).setCell ⟨D, 4, none⟩ (.int .i64 f3)).setCell ⟨D, 5, none⟩ (.int .i64 f4)).setCell ⟨D, 6, none⟩ (.int .i64 f5)).setCell ⟨D, 7, none⟩ (.string f6)).setCell ⟨D, 8, none⟩ (.slice none 0 0)) (.slice none 0 0) []) := RowV.nil _ _ _
    clear b9 g9 BD5 BE5 G5
    go_region
    generalize (((((((((W5.setCell ⟨D, 0, none⟩ (.int .i64 1)).setCell ⟨D, 1, none⟩ (.int .i64 f0)).setCell ⟨D, 2, none⟩ (.int .i64 f1)).setCell ⟨D, 3, none⟩ (.int .i64 f2)).setCell ⟨D, 4, none⟩ (.int .i64 f3)).setCell ⟨D, 5, none⟩ (.int .i64 f4)).setCell ⟨D, 6, none⟩ (.int .i64 f5)).setCell ⟨D, 7, none⟩ (.string f6)).setCell ⟨D, 8, none⟩ (.slice none 0 0)) = W9 at *
    go_wp2_with fail
    refine bodyPost_cell_tmp2 rfl rfl D _ _ _ _ rfl B9.out Try.underlying26 rfl (by kernel_rfl) ⟨⟨p, (.slice none 0 0), ?_, HP.out, ?_⟩, ?_⟩
    · rw [NB.out]; rfl
    · rw [hDe'.out]; exact RF.out
    · exact ⟨GF.out.os, GF.out.tape, GF.out.output, GF.out.size, GF.out.block⟩
  · by_cases u2 : u = 2
    · have e1 : ((u : Int) == 1) = false := by simp; omega
      have e2 : ((u : Int) == 2) = true := by rw [u2]; rfl
      have RR : rr = ((2, opZ, ll.1), ll.2) := by rw [RE.out]; unfold recW; rw [if_neg u1, if_pos u2]
      subst RR
      try simp only
      clear RE u1 u2 OF
      try simp only at *
      have T3 := t2.other (setCell_grown w2 E 0 (.int .i64 2)) (by omega) VE
      have BE4 : Blk E 26 [.int .i64 2, .int .i64 0, .int .i64 0, .int .i64 0, .int .i64 0, .int .i64 0, .int .i64 0, .string ⟨#[]⟩, .slice none 0 0] (w2.setCell ⟨E, 0, none⟩ (.int .i64 2)) := Blk.set (i := 0) BE3 (.int .i64 2)
      have BD4 := BD3.grown (setCell_grown w2 E 0 (.int .i64 2)) (by omega)
      have G4 := grown_more G3 (setCell_grown w2 E 0 (.int .i64 2)) (by have := hDe'.out; omega)
      have lz0 := BE3.cell 0 _ rfl
      have lf0 := BE3.fz 0
      clear t2 BE3 BD3 G3
      go_wp2_with fail
      generalize w2.setCell ⟨E, 0, none⟩ (.int .i64 2) = W3 at *
      refine (TL.out _ T3).mono ?_
      rintro e w4 ⟨vl, rfl, r4, t4, g4⟩
      have BE4' : Blk E 26 [.int .i64 2, .int .i64 0, .int .i64 0, .int .i64 0, .int .i64 0, .int .i64 0, .int .i64 0, .string ⟨#[]⟩, .slice none 0 0] w4 := BE4.grown g4 (by omega)
      have BD4' : Blk D 26 [.int .i64 0, .int .i64 0, .int .i64 0, .int .i64 0, .int .i64 0, .int .i64 0, .int .i64 0, .string ⟨#[]⟩, .slice none 0 0] w4 := BD4.grown g4 (by omega)
      have G4' := grownBy_trans G4 g4
      have hE4 := BE4.lt
      have sz := BE4.lt
      obtain ⟨al, cl, el, _, _⟩ := r4.rd.len
      generalize (List.map (Value.int .i64) ll.1).length = nl at el
      subst el
      have g5 := setCell_grown w4 E 8 (.slice al nl cl)
      have BE5 : Blk E 26 [.int .i64 2, .int .i64 0, .int .i64 0, .int .i64 0, .int .i64 0, .int .i64 0, .int .i64 0, .string ⟨#[]⟩, .slice al nl cl] (w4.setCell ⟨E, 8, none⟩ (.slice al nl cl)) := Blk.set (i := 8) BE4' (.slice al nl cl)
      have BD5 := BD4'.grown g5 (by omega)
      have T5 := t4.other g5 (by omega) VE
      have G5 := grown_more G4' g5 (by have := hDe'.out; omega)
      have r5 := RowV.kept r4 g5 (fun g hg e => by have := r4.block_ge hg; injection e with e; omega)
      have lz8 := BE4'.cell 8 _ rfl
      have lf8 := BE4'.fz 8
      have R4 : Hid (∀ g, (Value.slice al nl cl).ownBlock = some g → D ≠ g) := fun g hg e => by have := r4.block_ge hg; omega
      have R5 : RowN D _ _ ll.1 := RowV.mono r5 (by omega)
      clear T3 BE4 BD4 G4 g4 lz0 lf0 t4 BE4' BD4' G4' g5 r4 r5 hE4 sz TL
      go_wp2_with fail
      generalize w4.setCell ⟨E, 8, none⟩ (.slice al nl cl) = W5 at *
      clear lz8 lf8
      obtain ⟨p, c1, hp⟩ := T5.c1
      have c2 := T5.c2
      have ld0 := BE5.cell 0 _ rfl
      have lz0 := BD5.cell 0 _ rfl
      have lf0 := BD5.fz 0
      have ld1 := BE5.cell 1 _ rfl
      have lz1 := BD5.cell 1 _ rfl
      have lf1 := BD5.fz 1
      have ld2 := BE5.cell 2 _ rfl
      have lz2 := BD5.cell 2 _ rfl
      have lf2 := BD5.fz 2
      have ld3 := BE5.cell 3 _ rfl
      have lz3 := BD5.cell 3 _ rfl
      have lf3 := BD5.fz 3
      have ld4 := BE5.cell 4 _ rfl
      have lz4 := BD5.cell 4 _ rfl
      have lf4 := BD5.fz 4
      have ld5 := BE5.cell 5 _ rfl
      have lz5 := BD5.cell 5 _ rfl
      have lf5 := BD5.fz 5
      have ld6 := BE5.cell 6 _ rfl
      have lz6 := BD5.cell 6 _ rfl
      have lf6 := BD5.fz 6
      have ld7 := BE5.cell 7 _ rfl
      have lz7 := BD5.cell 7 _ rfl
      have lf7 := BD5.fz 7
      have ld8 := BE5.cell 8 _ rfl
      have lz8 := BD5.cell 8 _ rfl
      have lf8 := BD5.fz 8
      have HP : Hid (∀ q, ll.2 = some q → p = (q : Int)) := hp
      clear hp
      obtain ⟨nb, hnb⟩ : ∃ b, (ll.2).isNone = b := ⟨_, rfl⟩
      have NB : Hid ((ll.2).isSome = !nb) := by show _ = _; rw [← hnb]; cases (ll.2 : Option Nat) <;> rfl
      rw [hnb] at c2
      clear hnb T5
      obtain ⟨b9, g9⟩ := Blk.nine BD5 (.int .i64 2) (.int .i64 0) (.int .i64 0) (.int .i64 0) (.int .i64 0) (.int .i64 0) (.int .i64 0) (.string ⟨#[]⟩) (.slice al nl cl)
      have B9 : Hid (Blk D 26 [.int .i64 2, .int .i64 0, .int .i64 0, .int .i64 0, .int .i64 0, .int .i64 0, .int .i64 0, .string ⟨#[]⟩, .slice al nl cl] (((((((((W5.setCell ⟨D, 0, none⟩ (.int .i64 2)).setCell ⟨D, 1, none⟩ (.int .i64 0)).setCell ⟨D, 2, none⟩ (.int .i64 0)).setCell ⟨D, 3, none⟩ (.int .i64 0)).setCell ⟨D, 4, none⟩ (.int .i64 0)).setCell ⟨D, 5, none⟩ (.int .i64 0)).setCell ⟨D, 6, none⟩ (.int .i64 0)).setCell ⟨D, 7, none⟩ (.string ⟨#[]⟩)).setCell ⟨D, 8, none⟩ (.slice al nl cl))) := b9
      have GF : Hid (w.grownBy (((((((((W5.setCell ⟨D, 0, none⟩ (.int .i64 2)).setCell ⟨D, 1, none⟩ (.int .i64 0)).setCell ⟨D, 2, none⟩ (.int .i64 0)).setCell ⟨D, 3, none⟩ (.int .i64 0)).setCell ⟨D, 4, none⟩ (.int .i64 0)).setCell ⟨D, 5, none⟩ (.int .i64 0)).setCell ⟨D, 6, none⟩ (.int .i64 0)).setCell ⟨D, 7, none⟩ (.string ⟨#[]⟩)).setCell ⟨D, 8, none⟩ (.slice al nl cl)) (some R)) := grown_more G5 g9 (Nat.le_of_eq hDe'.out)
      have RF : Hid (RowN D (((((((((W5.setCell ⟨D, 0, none⟩ (.int .i64 2)).setCell ⟨D, 1, none⟩ (.int .i64 0)).setCell ⟨D, 2, none⟩ (.int .i64 0)).setCell ⟨D, 3, none⟩ (.int .i64 0)).setCell ⟨D, 4, none⟩ (.int .i64 0)).setCell ⟨D, 5, none⟩ (.int .i64 0)).setCell ⟨D, 6, none⟩ (.int .i64 0)).setCell ⟨D, 7, none⟩ (.string ⟨#[]⟩)).setCell ⟨D, 8, none⟩ (.slice al nl cl)) (.slice al nl cl) ll.1) := RowV.kept R5 g9 (fun g hg e => R4.out g hg (by injection e))
      clear b9 g9 BD5 BE5 G5
      go_region
      generalize (((((((((W5.setCell ⟨D, 0, none⟩ (.int .i64 2)).setCell ⟨D, 1, none⟩ (.int .i64 0)).setCell ⟨D, 2, none⟩ (.int .i64 0)).setCell ⟨D, 3, none⟩ (.int .i64 0)).setCell ⟨D, 4, none⟩ (.int .i64 0)).setCell ⟨D, 5, none⟩ (.int .i64 0)).setCell ⟨D, 6, none⟩ (.int .i64 0)).setCell ⟨D, 7, none⟩ (.string ⟨#[]⟩)).setCell ⟨D, 8, none⟩ (.slice al nl cl)) = W9 at *
      go_wp2_with fail
      refine bodyPost_cell_tmp2 rfl rfl D _ _ _ _ rfl B9.out Try.underlying26 rfl (by kernel_rfl) ⟨⟨p, (.slice al nl cl), ?_, HP.out, ?_⟩, ?_⟩
      · rw [NB.out]; rfl
      · rw [hDe'.out]; exact RF.out
      · exact ⟨GF.out.os, GF.out.tape, GF.out.output, GF.out.size, GF.out.block⟩
    · have e1 : ((u : Int) == 1) = false := by simp; omega
      have e2 : ((u : Int) == 2) = false := by simp; omega
      have RR : rr = ((0, opZ, []), none) := by rw [RE.out]; unfold recW; rw [if_neg u1, if_neg u2]
      subst RR
      clear RE u1 u2 OF TL
      have T5 := t2.bad
      have g5 := setCell_grown w2 R 2 (.bool true)
      have BE5 := BE3.grown g5 (by omega)
      have BD5 := BD3.grown g5 (by omega)
      have G5 := grownBy_trans G3 g5
      have cc2 := t2.c2
      have ff2 := t2.fz 2
      clear t2 BE3 BD3 G3 g5
      go_wp2_with fail
      generalize w2.setCell ⟨R, 2, none⟩ (.bool true) = W5 at *
      clear cc2 ff2
      obtain ⟨p, c1, hp⟩ := T5.c1
      have c2 := T5.c2
      have ld0 := BE5.cell 0 _ rfl
      have lz0 := BD5.cell 0 _ rfl
      have lf0 := BD5.fz 0
      have ld1 := BE5.cell 1 _ rfl
      have lz1 := BD5.cell 1 _ rfl
      have lf1 := BD5.fz 1
      have ld2 := BE5.cell 2 _ rfl
      have lz2 := BD5.cell 2 _ rfl
      have lf2 := BD5.fz 2
      have ld3 := BE5.cell 3 _ rfl
      have lz3 := BD5.cell 3 _ rfl
      have lf3 := BD5.fz 3
      have ld4 := BE5.cell 4 _ rfl
      have lz4 := BD5.cell 4 _ rfl
      have lf4 := BD5.fz 4
      have ld5 := BE5.cell 5 _ rfl
      have lz5 := BD5.cell 5 _ rfl
      have lf5 := BD5.fz 5
      have ld6 := BE5.cell 6 _ rfl
      have lz6 := BD5.cell 6 _ rfl
      have lf6 := BD5.fz 6
      have ld7 := BE5.cell 7 _ rfl
      have lz7 := BD5.cell 7 _ rfl
      have lf7 := BD5.fz 7
      have ld8 := BE5.cell 8 _ rfl
      have lz8 := BD5.cell 8 _ rfl
      have lf8 := BD5.fz 8
      have HP : Hid (∀ q, (none : Option Nat) = some q → p = (q : Int)) := hp
      clear hp
      obtain ⟨nb, hnb⟩ : ∃ b, ((none : Option Nat)).isNone = b := ⟨_, rfl⟩
      have NB : Hid (((none : Option Nat)).isSome = !nb) := by show _ = _; rw [← hnb]; cases ((none : Option Nat) : Option Nat) <;> rfl
      rw [hnb] at c2
      clear hnb T5
      obtain ⟨b9, g9⟩ := Blk.nine BD5 (.int .i64 0) (.int .i64 0) (.int .i64 0) (.int .i64 0) (.int .i64 0) (.int .i64 0) (.int .i64 0) (.string ⟨#[]⟩) (.slice none 0 0)
      have B9 : Hid (Blk D 26 [.int .i64 0, .int .i64 0, .int .i64 0, .int .i64 0, .int .i64 0, .int .i64 0, .int .i64 0, .string ⟨#[]⟩, .slice none 0 0] (((((((((W5.setCell ⟨D, 0, none⟩ (.int .i64 0)).setCell ⟨D, 1, none⟩ (.int .i64 0)).setCell ⟨D, 2, none⟩ (.int .i64 0)).setCell ⟨D, 3, none⟩ (.int .i64 0)).setCell ⟨D, 4, none⟩ (.int .i64 0)).setCell ⟨D, 5, none⟩ (.int .i64 0)).setCell ⟨D, 6, none⟩ (.int .i64 0)).setCell ⟨D, 7, none⟩ (.string ⟨#[]⟩)).setCell ⟨D, 8, none⟩ (.slice none 0 0))) := b9
      have GF : Hid (w.grownBy (((((((((W5.setCell ⟨D, 0, none⟩ (.int .i64 0)).setCell ⟨D, 1, none⟩ (.int .i64 0)).setCell ⟨D, 2, none⟩ (.int .i64 0)).setCell ⟨D, 3, none⟩ (.int .i64 0)).setCell ⟨D, 4, none⟩ (.int .i64 0)).setCell ⟨D, 5, none⟩ (.int .i64 0)).setCell ⟨D, 6, none⟩ (.int .i64 0)).setCell ⟨D, 7, none⟩ (.string ⟨#[]⟩)).setCell ⟨D, 8, none⟩ (.slice none 0 0)) (some R)) := grown_more G5 g9 (Nat.le_of_eq hDe'.out)
      have RF : Hid (RowN D (((((((((W5.setCell ⟨D, 0, none⟩ (.int .i64 0)).setCell ⟨D, 1, none⟩ (.int .i64 0)).setCell ⟨D, 2, none⟩ (.int .i64 0)).setCell ⟨D, 3, none⟩ (.int .i64 0)).setCell ⟨D, 4, none⟩ (.int .i64 0)).setCell ⟨D, 5, none⟩ (.int .i64 0)).setCell ⟨D, 6, none⟩ (.int .i64 0)).setCell ⟨D, 7, none⟩ (.string ⟨#[]⟩)).setCell ⟨D, 8, none⟩ (.slice none 0 0)) (.slice none 0 0) []) := RowV.nil _ _ _
      clear b9 g9 BD5 BE5 G5
      go_region
      generalize (((((((((W5.setCell ⟨D, 0, none⟩ (.int .i64 0)).setCell ⟨D, 1, none⟩ (.int .i64 0)).setCell ⟨D, 2, none⟩ (.int .i64 0)).setCell ⟨D, 3, none⟩ (.int .i64 0)).setCell ⟨D, 4, none⟩ (.int .i64 0)).setCell ⟨D, 5, none⟩ (.int .i64 0)).setCell ⟨D, 6, none⟩ (.int .i64 0)).setCell ⟨D, 7, none⟩ (.string ⟨#[]⟩)).setCell ⟨D, 8, none⟩ (.slice none 0 0)) = W9 at *
      go_wp2_with fail
      refine bodyPost_cell_tmp2 rfl rfl D _ _ _ _ rfl B9.out Try.underlying26 rfl (by kernel_rfl) ⟨⟨p, (.slice none 0 0), ?_, ?_⟩, ?_⟩
      · have hq := NB.out; cases nb <;> first | rfl | (simp at hq)
      · rw [hDe'.out]; exact RF.out
      · exact ⟨GF.out.os, GF.out.tape, GF.out.output, GF.out.size, GF.out.block⟩
end Go.Proofs.Ytdbjjeaflfoppaa
