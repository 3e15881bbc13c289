/-
  Ours: the reference's In.done and DecodeOp.
-/
import Derived.Test.YtfdahdloihgjeabWirInOp
import Derived.Deep.QuietTactic
import Derived.BigQuiet
namespace Go.Proofs.Ytfdahdloihgjeab
open Go.RowKit

theorem IS.start {bs : List Nat} {R : Nat} {v : Value} {w : World} {ty : TypeId} (h : Blk R ty [v, .int .i64 0, .bool false] w) (hr : RdB w v bs) (ha : 0 < bs.length → v.ownBlock ≠ some R) : IS bs R v (some 0) w :=
  ⟨⟨h.cell 0 _ rfl, ⟨0, h.cell 1 _ rfl, fun q h => by cases h; rfl⟩, h.cell 2 _ rfl, h.fz, h.lt, hr, ha, fun q h => by cases h; omega⟩, 0, h.cell 1 _ rfl, by omega, by omega⟩
theorem below_past {w a b : World} {G : Nat} (h : Below w.heap.size w a) (k : a.grownBy b (some G)) (hG : w.heap.size ≤ G) : Below w.heap.size w b :=
  ⟨k.os.trans h.os, k.tape.trans h.tape, k.output.trans h.output, Nat.le_trans h.size k.size, fun i hi => (k.block i (Nat.lt_of_lt_of_le hi h.size) (fun e => by injection e with e; omega)).trans (h.block i hi)⟩

set_option maxRecDepth 20000 in
theorem inDone_at (bs : List Nat) (hl : bs.length ≤ 1000000000000) (R : Nat) (v : Value) (st : Option Nat) (w : World) (h : IS bs R v st w) :
    Calls Try.prog 48 #[.pointer (some ⟨R, 0, none⟩)] w fun e w' => e = .returned (.bool (decide (st = some bs.length))) ∧ Below w.heap.size w w' := by
  have c0 := h.rs.c0
  have c2 := h.rs.c2
  obtain ⟨p, c1, p1⟩ := h.rs.c1
  obtain ⟨ao, cap, rfl, _, _⟩ := h.rs.rd.len
  obtain ⟨L, hL⟩ : ∃ L, bs.length = L := ⟨_, rfl⟩
  rw [List.length_map, hL] at c0
  rw [hL] at hl ⊢
  clear h
  cases st with
  | none =>
    simp only [Option.isNone] at c2
    clear p1
    go_enter Try.func48, Try.ntmps48
    go_wp2_with fail
    go_quiet (fail)
    go_wp2_with fail
    go_ret
    exact ⟨by simp, below_drewN (Below.refl _ _) _⟩
  | some q =>
    obtain rfl := p1 q rfl
    clear p1
    simp only [Option.isNone] at c2
    by_cases e : q = L
    · subst e
      have e0 : ((q : Int) == (q : Int)) = true := by simp
      go_enter Try.func48, Try.ntmps48
      go_wp2_with fail
      go_quiet (fail)
      go_wp2_with fail
      go_ret
      exact ⟨by simp, below_drewN (Below.refl _ _) _⟩
    · have e0 : ((q : Int) == (L : Int)) = false := by rw [beq_eq_false_iff_ne]; omega
      have E : Hid (¬ q = L) := e
      clear e
      go_enter Try.func48, Try.ntmps48
      go_wp2_with fail
      go_quiet (fail)
      go_wp2_with fail
      go_ret
      exact ⟨by simp [E.out], below_drewN (Below.refl _ _) _⟩

set_option maxRecDepth 20000 in
set_option maxHeartbeats 1000000 in
theorem rdecodeOp_at (bs : List Nat) (hb : ∀ c ∈ bs, c < 256) (hl : bs.length ≤ 1000000000000) (v : Value) (w : World) (hr : RdB w v bs) :
    Calls Try.prog 13 #[v] w fun e w' => e = .returned (.tuple #[opV (decO bs).1, .bool (decO bs).2]) ∧ Below w.heap.size w w' := by
  obtain ⟨ao, cap, ev, -, -⟩ := hr.len
  obtain ⟨L, hL⟩ : ∃ L, (bs.map bv).length = L := ⟨_, rfl⟩
  rw [hL] at ev
  subst ev
  have BA := below_alloc w (.cells #[.int .i64 0, .int .i64 0, .int .i64 0, .int .i64 0, .int .i64 0, .int .i64 0, .string ⟨#[]⟩] 23)
  have BD0 := Blk.new 23 [.int .i64 0, .int .i64 0, .int .i64 0, .int .i64 0, .int .i64 0, .int .i64 0, .string ⟨#[]⟩] w
  have BA1 := below_alloc (w.alloc (.cells #[.int .i64 0, .int .i64 0, .int .i64 0, .int .i64 0, .int .i64 0, .int .i64 0, .string ⟨#[]⟩] 23)) (.cells #[.slice ao L cap, .int .i64 0, .bool false] 98)
  have BR1 := Blk.new 98 [.slice ao L cap, .int .i64 0, .bool false] (w.alloc (.cells #[.int .i64 0, .int .i64 0, .int .i64 0, .int .i64 0, .int .i64 0, .int .i64 0, .string ⟨#[]⟩] 23))
  have BD1 := BD0.below BA1
  have BB := below_trans BA BA1
  have hr1 := Rd.later hr BB
  obtain ⟨D, hDe⟩ : ∃ D, w.heap.size = D := ⟨_, rfl⟩
  obtain ⟨R, hRe⟩ : ∃ R, (w.alloc (.cells #[.int .i64 0, .int .i64 0, .int .i64 0, .int .i64 0, .int .i64 0, .int .i64 0, .string ⟨#[]⟩] 23)).heap.size = R := ⟨_, rfl⟩
  have hRe2 : D + 1 = R := by rw [← hRe, ← hDe]; simp
  have hV : 0 < bs.length → (Value.slice ao L cap).ownBlock ≠ some R := fun h0 e => by
    have := Rd.block hr (by rw [List.length_map]; exact h0) e
    omega
  rw [hRe] at BR1
  rw [hDe] at BD1
  have I1 := IS.start BR1 hr1 hV
  have OP : Hid (∀ w, IS bs R (.slice ao L cap) (some 0) w → Calls Try.prog 47 #[.pointer (some ⟨R, 0, none⟩)] w fun e w' => e = .returned (opV (opR bs (some 0)).1) ∧ IS bs R (.slice ao L cap) (opR bs (some 0)).2 w' ∧ w.grownBy w' (some R)) := fun w h => inOp_at bs hb hl R (.slice ao L cap) (some 0) w h
  have DN : Hid (∀ w, IS bs R (.slice ao L cap) (opR bs (some 0)).2 w → Calls Try.prog 48 #[.pointer (some ⟨R, 0, none⟩)] w fun e w' => e = .returned (.bool (decide ((opR bs (some 0)).2 = some bs.length))) ∧ Below w.heap.size w w') := fun w h => inDone_at bs hl R (.slice ao L cap) _ w h
  have DE : Hid (decO bs = match (opR bs (some 0)).2 with | some q => if q = bs.length then ((opR bs (some 0)).1, true) else (opZ, false) | none => (opZ, false)) := rfl
  generalize decO bs = dd at *
  generalize (opR bs (some 0)).2 = so at *
  generalize (opR bs (some 0)).1 = o at *
  obtain ⟨f0, f1, f2, f3, f4, f5, f6⟩ := o
  unfold opV at *
  simp only at *
  have hDe' : Hid (w.heap.size = D) := hDe
  clear BD0 BA BA1 hr hb hl hV BR1 hr1
  go_enter Try.func13, Try.ntmps13
  go_wp2_with fail
  clear hRe hDe
  generalize (w.alloc (.cells #[.int .i64 0, .int .i64 0, .int .i64 0, .int .i64 0, .int .i64 0, .int .i64 0, .string ⟨#[]⟩] 23)).alloc _ = W0 at *
  refine (OP.out _ I1).mono ?_
  rintro e w2 ⟨rfl, I2, g2⟩
  have BD2 : Blk D 23 [.int .i64 0, .int .i64 0, .int .i64 0, .int .i64 0, .int .i64 0, .int .i64 0, .string ⟨#[]⟩] w2 := Blk.grown BD1 g2 (by omega)
  have W2 : Below w.heap.size w w2 := below_past BB g2 (by have := hDe'.out; omega)
  clear BD1 g2 BB I1
  have BA2 := below_alloc w2 (.cells #[.int .i64 f0, .int .i64 f1, .int .i64 f2, .int .i64 f3, .int .i64 f4, .int .i64 f5, .string f6] 23)
  have BG3 := Blk.new 23 [.int .i64 f0, .int .i64 f1, .int .i64 f2, .int .i64 f3, .int .i64 f4, .int .i64 f5, .string f6] w2
  have BD3 := BD2.below BA2
  have I3 := I2.below BA2
  have hlt := BD2.lt
  have W3' : Below w.heap.size w (w2.alloc (.cells #[.int .i64 f0, .int .i64 f1, .int .i64 f2, .int .i64 f3, .int .i64 f4, .int .i64 f5, .string f6] 23)) := below_trans W2 BA2
  clear BA2 BD2 I2 W2
  go_wp2_with fail
  obtain ⟨G, hGe⟩ : ∃ G, w2.heap.size = G := ⟨_, rfl⟩
  rw [hGe] at BG3 hlt ⊢
  have BG4 : Blk G 23 [.int .i64 f0, .int .i64 f1, .int .i64 f2, .int .i64 f3, .int .i64 f4, .int .i64 f5, .string f6] (w2.alloc (.cells #[.int .i64 f0, .int .i64 f1, .int .i64 f2, .int .i64 f3, .int .i64 f4, .int .i64 f5, .string f6] 23)) := BG3
  clear BG3 hGe
  generalize w2.alloc (.cells #[.int .i64 f0, .int .i64 f1, .int .i64 f2, .int .i64 f3, .int .i64 f4, .int .i64 f5, .string f6] 23) = W3 at *
  refine (DN.out _ I3).mono ?_
  rintro e w4 ⟨rfl, b4⟩
  have BG5 := BG4.below b4
  have BD5 := BD3.below b4
  have W5 : Below w.heap.size w w4 := below_trans W3' b4
  have ld0 := BG5.cell 0 _ rfl
  have lz0 := BD5.cell 0 _ rfl
  have lf0 := BD5.fz 0
  have ld1 := BG5.cell 1 _ rfl
  have lz1 := BD5.cell 1 _ rfl
  have lf1 := BD5.fz 1
  have ld2 := BG5.cell 2 _ rfl
  have lz2 := BD5.cell 2 _ rfl
  have lf2 := BD5.fz 2
  have ld3 := BG5.cell 3 _ rfl
  have lz3 := BD5.cell 3 _ rfl
  have lf3 := BD5.fz 3
  have ld4 := BG5.cell 4 _ rfl
  have lz4 := BD5.cell 4 _ rfl
  have lf4 := BD5.fz 4
  have ld5 := BG5.cell 5 _ rfl
  have lz5 := BD5.cell 5 _ rfl
  have lf5 := BD5.fz 5
  have ld6 := BG5.cell 6 _ rfl
  have lz6 := BD5.cell 6 _ rfl
  have lf6 := BD5.fz 6
  clear BG4 BD3 W3' b4 I3 OP DN
  by_cases ok : so = some bs.length
  · have OK : Hid (so = some bs.length) := ok
    have od : decide (so = some bs.length) = true := decide_eq_true ok
    rw [od]
    obtain rfl : dd = (⟨f0, f1, f2, f3, f4, f5, f6⟩, true) := by have := DE.out; rw [ok] at this; simpa using this
    obtain ⟨b7, g7⟩ := Blk.seven BD5 (.int .i64 f0) (.int .i64 f1) (.int .i64 f2) (.int .i64 f3) (.int .i64 f4) (.int .i64 f5) (.string f6)
    have GF := below_past W5 g7 (Nat.le_of_eq hDe'.out)
    clear ok od DE OK
    simp only
    go_wp2_with fail
    exact bodyPost_cell_tmp rfl rfl D _ _ _ _ rfl b7 Try.underlying23 rfl (by kernel_rfl) ⟨rfl, GF⟩
  · have od : decide (so = some bs.length) = false := decide_eq_false ok
    rw [od]
    obtain rfl : dd = (opZ, false) := by
      have := DE.out
      cases so with
      | none => exact this
      | some q => simp only at this; rw [if_neg (fun e => ok (by rw [e]))] at this; exact this
    obtain ⟨b7, g7⟩ := Blk.seven BD5 (.int .i64 0) (.int .i64 0) (.int .i64 0) (.int .i64 0) (.int .i64 0) (.int .i64 0) (.string ⟨#[]⟩)
    have GF := below_past W5 g7 (Nat.le_of_eq hDe'.out)
    clear ok od DE
    simp only
    go_wp2_with fail
    exact bodyPost_cell_tmp rfl rfl D _ _ _ _ rfl b7 Try.underlying23 rfl (by kernel_rfl) ⟨rfl, GF⟩
end Go.Proofs.Ytfdahdloihgjeab
