/-
  Ours: the reference's In: its fields taken one behind the other.
-/
import Derived.Test.YtbghoogkmdnmpaaWirWhole
import Derived.Deep.RegionWith
namespace Go.Proofs.Ytbghoogkmdnmpaa
open Go.RowKit

/-- The reference's In in memory: as the program's reader, and its place never leaves the bytes. -/
structure IS (bs : List Nat) (R : Nat) (v : Value) (st : Option Nat) (w : World) : Prop where
  rs : RS bs R v st w
  pb : ∃ p : Int, w.cell? ⟨R, 1, none⟩ = some (.int .i64 p) ∧ 0 ≤ p ∧ p ≤ bs.length
theorem IS.below {bs : List Nat} {R : Nat} {v : Value} {st : Option Nat} {w w' : World} (h : IS bs R v st w) (hb : Below w.heap.size w w') : IS bs R v st w' := by
  obtain ⟨p, c1, p0, p1⟩ := h.pb
  exact ⟨h.rs.below hb, p, (hb.cell (p := ⟨R, 1, none⟩) h.rs.lt).trans c1, p0, p1⟩
theorem IS.bad {bs : List Nat} {R : Nat} {v : Value} {st : Option Nat} {w : World} (h : IS bs R v st w) : IS bs R v none (w.setCell ⟨R, 2, none⟩ (.bool true)) := by
  obtain ⟨p, c1, p0, p1⟩ := h.pb
  exact ⟨h.rs.bad, p, (World.cell?_setCell_other _ _ _ _ (by simp)).trans c1, p0, p1⟩
theorem IS.move {bs : List Nat} {R q n : Nat} {v : Value} {w : World} (h : IS bs R v (some q) w) (hn : n ≤ bs.length) : IS bs R v (some n) (w.setCell ⟨R, 1, none⟩ (.int .i64 (n : Int))) := by
  obtain ⟨p, c1, p0, p1⟩ := h.pb
  have e1 : (w.setCell ⟨R, 1, none⟩ (.int .i64 (n : Int))).cell? ⟨R, 1, none⟩ = some (.int .i64 (n : Int)) := World.cell?_setCell_same _ _ _ c1
  refine ⟨⟨?_, ⟨n, e1, fun q h => by cases h; rfl⟩, ?_, fun i => by rw [World.frozen?_setCell]; exact h.rs.fz i, by simp; exact h.rs.lt, Rd.grownN h.rs.rd (setCell_grown w R 1 _) (by rw [List.length_map]; exact h.rs.ap), h.rs.ap, (fun q h => by cases h; exact hn)⟩, n, e1, by omega, by omega⟩
  · rw [World.cell?_setCell_other _ _ _ _ (by simp)]; exact h.rs.c0
  · rw [World.cell?_setCell_other _ _ _ _ (by simp)]; exact h.rs.c2
theorem below_set {w a : World} {R : Nat} (h : Below w.heap.size w a) (i : Nat) (u : Value) : w.grownBy (a.setCell ⟨R, i, none⟩ u) (some R) := grownBy_trans (grownBy_below h (some R)) (setCell_grown a R i u)

set_option maxRecDepth 20000 in
set_option maxHeartbeats 1000000 in
theorem inNum_at (bs : List Nat) (hb : ∀ c ∈ bs, c < 256) (hl : bs.length ≤ 1000000000000) (R : Nat) (v : Value) (st : Option Nat) (w : World) (h : IS bs R v st w) :
    Calls Try.prog 125 #[.pointer (some ⟨R, 0, none⟩)] w fun e w' => e = .returned (.int .i64 (tkI bs st).1) ∧ IS bs R v (tkI bs st).2 w' ∧ w.grownBy w' (some R) := by
  have c0 := h.rs.c0
  obtain ⟨p, c1, p0, p1⟩ := h.pb
  have hp := h.rs.c1
  have C : Hid (∀ w', Below w.heap.size w w' → Calls Try.prog 140 #[v, .int .i64 p] w' fun e w'' => e = rdIAns (Go.Proofs.Ytbghoogkmdnmpaa.rd bs p) ∧ Below w'.heap.size w' w'') := fun w' hb' => rint_at bs p v w' hb (by omega) (by omega) (by omega) (Rd.later h.rs.rd hb')
  have HB : Hid (∀ w', Below w.heap.size w w' → IS bs R v st w') := fun w' hb' => h.below hb'
  have HE : Hid (∀ q, st = some q → p = (q : Int)) := fun q hq => by
    obtain ⟨p', e1, e2⟩ := hp
    rw [c1] at e1
    cases e1
    exact e2 q hq
  clear h hp
  cases st with
  | none =>
    have T0 : Hid (tkI bs none = (0, none)) := rfl
    cases hr : Go.Proofs.Ytbghoogkmdnmpaa.rd bs p with
    | none =>
      rw [hr] at C
      simp only [rdIAns] at C
      clear hr HE
      go_enter Try.func125, Try.ntmps125
      go_wp2_with fail
      go_region_with (go_at_call 140; refine (C.out _ (below_drewN (Below.refl _ _) _)).mono ?_; rintro e w1 ⟨rfl, b1⟩; have B1 : Below w.heap.size w w1 := below_trans (below_drewN (Below.refl _ _) _) b1; have I1 := HB.out w1 B1; have d2 := I1.rs.c2; have f1' := I1.rs.fz 1; have f2' := I1.rs.fz 2; have k1 : ∃ p', w1.cell? ⟨R, 1, none⟩ = some (.int .i64 p') := ⟨_, I1.pb.choose_spec.1⟩; obtain ⟨p', k1'⟩ := k1; simp only [Option.isNone] at d2)
      all_goals
        go_wp2_with fail
        go_ret
        refine ⟨?_, ?_, below_set B1 _ _⟩
        · rw [T0.out]; rfl
        · rw [T0.out]; exact I1.bad
    | some un =>
      obtain ⟨u, n⟩ := un
      rw [hr] at C
      simp only [rdIAns] at C
      clear hr HE
      go_enter Try.func125, Try.ntmps125
      go_wp2_with fail
      go_region_with (go_at_call 140; refine (C.out _ (below_drewN (Below.refl _ _) _)).mono ?_; rintro e w1 ⟨rfl, b1⟩; have B1 : Below w.heap.size w w1 := below_trans (below_drewN (Below.refl _ _) _) b1; have I1 := HB.out w1 B1; have d2 := I1.rs.c2; have f1' := I1.rs.fz 1; have f2' := I1.rs.fz 2; have k1 : ∃ p', w1.cell? ⟨R, 1, none⟩ = some (.int .i64 p') := ⟨_, I1.pb.choose_spec.1⟩; obtain ⟨p', k1'⟩ := k1; simp only [Option.isNone] at d2)
      all_goals
        go_wp2_with fail
        go_ret
        refine ⟨?_, ?_, below_set B1 _ _⟩
        · rw [T0.out]; rfl
        · rw [T0.out]; exact I1.bad
  | some q =>
    obtain rfl := HE.out q rfl
    cases hr : Go.Proofs.Ytbghoogkmdnmpaa.rd bs (q : Int) with
    | none =>
      have T0 : Hid (tkI bs (some q) = (0, none)) := by show _ = _; unfold tkI; simp only; rw [hr]
      rw [hr] at C
      simp only [rdIAns] at C
      clear hr HE
      go_enter Try.func125, Try.ntmps125
      go_wp2_with fail
      go_region_with (go_at_call 140; refine (C.out _ (below_drewN (Below.refl _ _) _)).mono ?_; rintro e w1 ⟨rfl, b1⟩; have B1 : Below w.heap.size w w1 := below_trans (below_drewN (Below.refl _ _) _) b1; have I1 := HB.out w1 B1; have d2 := I1.rs.c2; have f1' := I1.rs.fz 1; have f2' := I1.rs.fz 2; have k1 : ∃ p', w1.cell? ⟨R, 1, none⟩ = some (.int .i64 p') := ⟨_, I1.pb.choose_spec.1⟩; obtain ⟨p', k1'⟩ := k1; simp only [Option.isNone] at d2)
      all_goals
        go_wp2_with fail
        go_ret
        refine ⟨?_, ?_, below_set B1 _ _⟩
        · rw [T0.out]; rfl
        · rw [T0.out]; exact I1.bad
    | some un =>
      obtain ⟨u, n⟩ := un
      have T0 : Hid (tkI bs (some q) = (unzz u, some n)) := by show _ = _; unfold tkI; simp only; rw [hr]
      have hn : Hid (n ≤ bs.length) := by show _ ≤ _; have := rd_le bs q u n hb hr; omega
      rw [hr] at C
      simp only [rdIAns] at C
      clear hr HE
      go_enter Try.func125, Try.ntmps125
      go_wp2_with fail
      go_region_with (go_at_call 140; refine (C.out _ (below_drewN (Below.refl _ _) _)).mono ?_; rintro e w1 ⟨rfl, b1⟩; have B1 : Below w.heap.size w w1 := below_trans (below_drewN (Below.refl _ _) _) b1; have I1 := HB.out w1 B1; have d2 := I1.rs.c2; have f1' := I1.rs.fz 1; have f2' := I1.rs.fz 2; have k1 : ∃ p', w1.cell? ⟨R, 1, none⟩ = some (.int .i64 p') := ⟨_, I1.pb.choose_spec.1⟩; obtain ⟨p', k1'⟩ := k1; simp only [Option.isNone] at d2)
      all_goals
        go_wp2_with fail
        go_ret
        refine ⟨?_, ?_, below_set B1 _ _⟩
        · rw [T0.out]; rfl
        · rw [T0.out]; exact I1.move hn.out

set_option maxRecDepth 20000 in
theorem rtext_at (bs : List Nat) (p : Int) (v : Value) (w : World) (hb : ∀ c ∈ bs, c < 256) (hl : bs.length ≤ 140737488355328) (p0 : -9223372036854775808 ≤ p) (p1 : p ≤ 9223372036854775807) (h : RdB w v bs) :
    Calls Try.prog 141 #[v, .int .i64 p] w fun e w' => e = textAns (textR bs p) ∧ Below w.heap.size w w' := by
  have C : Hid (Calls Try.prog 127 #[v, .int .i64 p] w fun e w' => e = rdAns (Go.Proofs.Ytbghoogkmdnmpaa.rd bs p) ∧ Below w.heap.size w w') := ruint_at bs p v w hb hl p0 p1 h
  obtain ⟨L, hL⟩ : ∃ L, bs.length = L := ⟨_, rfl⟩
  obtain ⟨ao, cap, ev, hcap, hn⟩ := h.len
  rw [List.length_map, hL] at ev hcap
  subst ev
  unfold textR lenR
  rw [hL]
  cases hr : Go.Proofs.Ytbghoogkmdnmpaa.rd bs p with
  | none =>
    rw [hr] at C
    clear hr h
    go_enter Try.func141, Try.ntmps141
    go_wp2_with fail
    refine C.out.mono ?_
    rintro e w1 ⟨rfl, b1⟩
    simp only [rdAns]
    go_wp2_with fail
    go_ret3
    exact ⟨rfl, b1⟩
  | some q =>
    obtain ⟨n, f⟩ := q
    obtain ⟨f0, f1, f2, f3⟩ := rd_le bs p n f hb hr
    rw [hr] at C
    rw [hL] at f2 hl
    simp only
    by_cases hc : n ≤ L - f
    · rw [if_pos hc]
      have d : decide ((L : Int) - (f : Int) < (n : Int)) = false := decide_eq_false (by omega)
      obtain ⟨g, o, rfl, lt⟩ := h.addr (by omega)
      have hlt : ((bs.drop f).take n).length = n := by simp; omega
      have CV : Hid (∀ w', Below w.heap.size w w' → ∀ c a, (n = 0 ∨ a = ⟨g, o + f, none⟩) → (convert 27 9 (.slice (some a) n c)).run Try.prog w' = .ok (.string (textOf ((bs.drop f).take n))) w') := fun w' hw c a ha => by
        have := run_convert_bytes_back (P := Try.prog) w' 27 9 5 a c (((bs.drop f).take n).map UInt8.ofNat) underB underU8 underS (fun j hj => by
          rw [List.length_map, hlt] at hj
          rcases ha with h0 | rfl
          · omega
          · obtain ⟨g', o', e1, _, e2⟩ := RdB.at (Rd.later h hw) (i := f + j) (by omega)
            cases e1
            have hadd : (⟨g, o + f, none⟩ : Addr).add j = ⟨g, o + (f + j), none⟩ := by unfold Addr.add; split <;> simp_all [Nat.add_assoc]
            rw [hadd, e2]
            have lt1 : f + j < bs.length := by omega
            have b1 := hb _ (List.getElem_mem lt1)
            simp [List.getD_eq_getElem?_getD, List.getElem?_eq_getElem lt1]
            omega)
        rw [List.length_map, hlt] at this
        exact this
      clear hlt
      simp only
      generalize (bs.drop f).take n = ts at *
      have F : Hid (∀ S, S = textOf ts → ∀ m : Int, m = ((f + n : Nat) : Int) → Ending.returned (.tuple #[.string S, .int .i64 m, .bool true]) = textAns (some (ts, f + n))) := fun S h1 m h2 => by rw [h1, h2]; rfl
      clear hr h hL hb
      obtain ⟨S, hS⟩ : ∃ S, textOf ts = S := ⟨_, rfl⟩
      have HS : Hid (S = textOf ts) := hS.symm
      rw [hS] at CV
      clear hS
      by_cases hcf : cap = f
      · subst hcf
        obtain rfl : n = 0 := by omega
        go_enter Try.func141, Try.ntmps141
        go_wp2_with fail
        refine C.out.mono ?_
        rintro e w1 ⟨rfl, b1⟩
        simp only [rdAns]
        have cv := CV.out w1 b1 0 ⟨g, o, none⟩ (.inl (by simp))
        go_wp2_with fail
        go_ret3
        exact ⟨F.out S HS.out _ (by omega), b1⟩
      · have z2 : (cap - f == 0) = false := by rw [beq_eq_false_iff_ne]; omega
        go_enter Try.func141, Try.ntmps141
        go_wp2_with fail
        refine C.out.mono ?_
        rintro e w1 ⟨rfl, b1⟩
        simp only [rdAns]
        have cv := CV.out w1 b1 (cap - f) ⟨g, o + f, none⟩ (.inr rfl)
        go_wp2_with fail
        go_ret3
        exact ⟨F.out S HS.out _ (by omega), b1⟩
    · rw [if_neg hc]
      have d : decide ((L : Int) - (f : Int) < (n : Int)) = true := decide_eq_true (by omega)
      have hl' : L ≤ 140737488355328 := hl
      clear hr h hL hb
      simp only
      go_enter Try.func141, Try.ntmps141
      go_wp2_with fail
      refine C.out.mono ?_
      rintro e w1 ⟨rfl, b1⟩
      simp only [rdAns]
      go_wp2_with fail
      go_ret3
      exact ⟨rfl, b1⟩

set_option maxRecDepth 20000 in
set_option maxHeartbeats 1000000 in
theorem inText_at (bs : List Nat) (hb : ∀ c ∈ bs, c < 256) (hl : bs.length ≤ 1000000000000) (R : Nat) (v : Value) (st : Option Nat) (w : World) (h : IS bs R v st w) :
    Calls Try.prog 126 #[.pointer (some ⟨R, 0, none⟩)] w fun e w' => e = .returned (.string (tkT bs st).1) ∧ IS bs R v (tkT bs st).2 w' ∧ w.grownBy w' (some R) := by
  have c0 := h.rs.c0
  obtain ⟨p, c1, p0, p1⟩ := h.pb
  have hp := h.rs.c1
  have C : Hid (∀ w', Below w.heap.size w w' → Calls Try.prog 141 #[v, .int .i64 p] w' fun e w'' => e = textAns (textR bs p) ∧ Below w'.heap.size w' w'') := fun w' hb' => rtext_at bs p v w' hb (by omega) (by omega) (by omega) (Rd.later h.rs.rd hb')
  have HB : Hid (∀ w', Below w.heap.size w w' → IS bs R v st w') := fun w' hb' => h.below hb'
  have HE : Hid (∀ q, st = some q → p = (q : Int)) := fun q hq => by
    obtain ⟨p', e1, e2⟩ := hp
    rw [c1] at e1
    cases e1
    exact e2 q hq
  clear h hp
  cases st with
  | none =>
    have T0 : Hid (tkT bs none = (⟨#[]⟩, none)) := rfl
    cases hr : textR bs p with
    | none =>
      rw [hr] at C
      simp only [textAns] at C
      clear hr HE
      go_enter Try.func126, Try.ntmps126
      go_wp2_with fail
      go_region_with (go_at_call 141; refine (C.out _ (below_drewN (Below.refl _ _) _)).mono ?_; rintro e w1 ⟨rfl, b1⟩; have B1 : Below w.heap.size w w1 := below_trans (below_drewN (Below.refl _ _) _) b1; have I1 := HB.out w1 B1; have d2 := I1.rs.c2; have f1' := I1.rs.fz 1; have f2' := I1.rs.fz 2; have k1 : ∃ p', w1.cell? ⟨R, 1, none⟩ = some (.int .i64 p') := ⟨_, I1.pb.choose_spec.1⟩; obtain ⟨p', k1'⟩ := k1; simp only [Option.isNone] at d2)
      all_goals
        go_wp2_with fail
        go_ret
        refine ⟨?_, ?_, below_set B1 _ _⟩
        · rw [T0.out]; rfl
        · rw [T0.out]; exact I1.bad
    | some un =>
      obtain ⟨u, n⟩ := un
      rw [hr] at C
      simp only [textAns] at C
      clear hr HE
      go_enter Try.func126, Try.ntmps126
      go_wp2_with fail
      go_region_with (go_at_call 141; refine (C.out _ (below_drewN (Below.refl _ _) _)).mono ?_; rintro e w1 ⟨rfl, b1⟩; have B1 : Below w.heap.size w w1 := below_trans (below_drewN (Below.refl _ _) _) b1; have I1 := HB.out w1 B1; have d2 := I1.rs.c2; have f1' := I1.rs.fz 1; have f2' := I1.rs.fz 2; have k1 : ∃ p', w1.cell? ⟨R, 1, none⟩ = some (.int .i64 p') := ⟨_, I1.pb.choose_spec.1⟩; obtain ⟨p', k1'⟩ := k1; simp only [Option.isNone] at d2)
      all_goals
        go_wp2_with fail
        go_ret
        refine ⟨?_, ?_, below_set B1 _ _⟩
        · rw [T0.out]; rfl
        · rw [T0.out]; exact I1.bad
  | some q =>
    obtain rfl := HE.out q rfl
    cases hr : textR bs (q : Int) with
    | none =>
      have T0 : Hid (tkT bs (some q) = (⟨#[]⟩, none)) := by show _ = _; unfold tkT; simp only; rw [hr]
      rw [hr] at C
      simp only [textAns] at C
      clear hr HE
      go_enter Try.func126, Try.ntmps126
      go_wp2_with fail
      go_region_with (go_at_call 141; refine (C.out _ (below_drewN (Below.refl _ _) _)).mono ?_; rintro e w1 ⟨rfl, b1⟩; have B1 : Below w.heap.size w w1 := below_trans (below_drewN (Below.refl _ _) _) b1; have I1 := HB.out w1 B1; have d2 := I1.rs.c2; have f1' := I1.rs.fz 1; have f2' := I1.rs.fz 2; have k1 : ∃ p', w1.cell? ⟨R, 1, none⟩ = some (.int .i64 p') := ⟨_, I1.pb.choose_spec.1⟩; obtain ⟨p', k1'⟩ := k1; simp only [Option.isNone] at d2)
      all_goals
        go_wp2_with fail
        go_ret
        refine ⟨?_, ?_, below_set B1 _ _⟩
        · rw [T0.out]; rfl
        · rw [T0.out]; exact I1.bad
    | some un =>
      obtain ⟨u, n⟩ := un
      have T0 : Hid (tkT bs (some q) = (textOf u, some n)) := by show _ = _; unfold tkT; simp only; rw [hr]
      have hn : Hid (n ≤ bs.length) := by show _ ≤ _; have := textR_le hb hr; omega
      rw [hr] at C
      simp only [textAns] at C
      clear hr HE
      go_enter Try.func126, Try.ntmps126
      go_wp2_with fail
      go_region_with (go_at_call 141; refine (C.out _ (below_drewN (Below.refl _ _) _)).mono ?_; rintro e w1 ⟨rfl, b1⟩; have B1 : Below w.heap.size w w1 := below_trans (below_drewN (Below.refl _ _) _) b1; have I1 := HB.out w1 B1; have d2 := I1.rs.c2; have f1' := I1.rs.fz 1; have f2' := I1.rs.fz 2; have k1 : ∃ p', w1.cell? ⟨R, 1, none⟩ = some (.int .i64 p') := ⟨_, I1.pb.choose_spec.1⟩; obtain ⟨p', k1'⟩ := k1; simp only [Option.isNone] at d2)
      all_goals
        go_wp2_with fail
        go_ret
        refine ⟨?_, ?_, below_set B1 _ _⟩
        · rw [T0.out]; rfl
        · rw [T0.out]; exact I1.move hn.out

theorem inN_at (bs : List Nat) (hb : ∀ c ∈ bs, c < 256) (hl : bs.length ≤ 1000000000000) (R : Nat) (v : Value) (st : Option Nat) (w : World) (h : IS bs R v st w) :
    Calls Try.prog 98 #[.pointer (some ⟨R, 0, none⟩)] w fun e w' => e = .returned (.int .i64 (tkI bs st).1) ∧ IS bs R v (tkI bs st).2 w' ∧ w.grownBy w' (some R) := by
  have C : Hid (Calls Try.prog 125 #[.pointer (some ⟨R, 0, none⟩)] w fun e w' => e = .returned (.int .i64 (tkI bs st).1) ∧ IS bs R v (tkI bs st).2 w' ∧ w.grownBy w' (some R)) := inNum_at bs hb hl R v st w h
  clear h
  generalize (tkI bs st).1 = x at *
  generalize (tkI bs st).2 = st' at *
  go_enter Try.func98, Try.ntmps98
  go_wp2_with fail
  refine C.out.mono ?_
  rintro e w1 ⟨rfl, r1, g1⟩
  have R1 : Hid (IS bs R v st' w1) := r1
  clear r1
  go_wp2_with fail
  go_ret
  exact ⟨rfl, R1.out, g1⟩
end Go.Proofs.Ytbghoogkmdnmpaa
