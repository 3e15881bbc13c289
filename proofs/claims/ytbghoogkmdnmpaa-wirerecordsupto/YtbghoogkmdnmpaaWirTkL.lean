/-
  Ours: the program's takeList of ids.
-/
import Derived.Test.YtbghoogkmdnmpaaWirIdL
namespace Go.Proofs.Ytbghoogkmdnmpaa
open Go.RowKit

/-- A list of numbers taken. -/
def tkL (bs : List Nat) (st : Option Nat) : List Int × Option Nat := match st with
  | none => ([], none)
  | some p => match listI bs p with
    | some (xs, n) => (xs, some n)
    | none => ([], none)
theorem listI_le {bs : List Nat} {p n : Nat} {xs : List Int} (hb : ∀ c ∈ bs, c < 256) (h : listI bs p = some (xs, n)) : n ≤ bs.length ∧ xs.length ≤ bs.length := by
  unfold listI at h
  cases hr : lenR bs (p : Int) with
  | none => rw [hr] at h; cases h
  | some q =>
    obtain ⟨k, f⟩ := q
    have hle := lenR_le hb hr
    rw [hr] at h
    simp only at h
    have e1 := elemsI_len bs k f _ h
    have e2 := elemsI_le bs hb k f _ (by omega) h
    simp only at e1 e2
    omega
theorem tkL_len (bs : List Nat) (hb : ∀ c ∈ bs, c < 256) (st : Option Nat) : (tkL bs st).1.length ≤ bs.length := by
  cases st with
  | none => simp [tkL]
  | some p =>
    unfold tkL
    simp only
    cases hr : listI bs p with
    | none => simp
    | some q => obtain ⟨xs, n⟩ := q; exact (listI_le hb hr).2

abbrev idF (R : Nat) : Value := .func (.func 79) #[.pointer (some ⟨R, 0, none⟩)] #[]

set_option maxRecDepth 20000 in
theorem closL_at (bs : List Nat) (hb : ∀ c ∈ bs, c < 256) (hl : bs.length ≤ 1000000000000) (R q0 B : Nat) (v : Value) (p : Nat) (w : World) (h : RS bs R v (some q0) w) (hp : p ≤ bs.length) (hB : w.cell? ⟨B, 0, none⟩ = some (idF R)) :
    Calls Try.prog 106 #[v, .int .i64 (p : Int), .pointer (some ⟨B, 0, none⟩)] w (ListN bs R v w (listI bs p)) := by
  have C : Hid (Calls Try.prog 107 #[v, .int .i64 (p : Int), .func (.func 79) #[.pointer (some ⟨R, 0, none⟩)] #[]] w (ListN bs R v w (listI bs p))) := listN_at bs hb hl R q0 v p w h hp
  obtain ⟨ao, cap, ev, _, _⟩ := h.rd.len
  generalize (bs.map bv).length = L at ev
  subst ev
  clear h hb hl hp
  unfold idF at hB
  generalize listI bs p = r at *
  go_enter Try.func106, Try.ntmps106
  go_wp2_with fail
  refine C.out.mono ?_
  rintro e w1 ⟨vl, xs, y, k, rfl, r1, s1, g1, D1⟩
  have K : Hid (ListN bs R (.slice ao L cap) w r (.returned (.tuple #[vl, .int .i64 y, .bool k])) w1) := ⟨vl, xs, y, k, rfl, r1, s1, g1, D1⟩
  clear r1 s1 g1 D1
  go_wp2_with fail
  go_ret3
  exact K.out

set_option maxRecDepth 20000 in
set_option maxHeartbeats 1000000 in
theorem takeL_at (bs : List Nat) (hb : ∀ c ∈ bs, c < 256) (hl : bs.length ≤ 1000000000000) (R B : Nat) (v : Value) (st : Option Nat) (w : World) (h : RS bs R v st w) (hB : w.cell? ⟨B, 0, none⟩ = some (idF R)) :
    Calls Try.prog 105 #[.pointer (some ⟨R, 0, none⟩), .func (.func 106) #[] #[.pointer (some ⟨B, 0, none⟩)]] w fun e w' => ∃ vl, e = .returned vl ∧ RowN w.heap.size w' vl (tkL bs st).1 ∧ RS bs R v (tkL bs st).2 w' ∧ w.grownBy w' (some R) := by
  have c0 := h.c0
  have c2 := h.c2
  obtain ⟨p, c1, hp⟩ := h.c1
  have hR := h.lt
  cases st with
  | none =>
    simp only [Option.isNone] at c2
    have HH : Hid (RS bs R v none w) := h
    clear h hp hB
    go_enter Try.func105, Try.ntmps105
    go_wp2_with fail
    go_ret
    exact ⟨_, rfl, RowV.nil _ _ _, HH.out, grownBy_refl _ _⟩
  | some q =>
    obtain rfl := hp q rfl
    have hq := h.le q rfl
    simp only [Option.isNone] at c2
    have C : Hid (∀ n, Calls Try.prog 106 #[v, .int .i64 (q : Int), .pointer (some ⟨B, 0, none⟩)] (w.drewN n) (ListN bs R v (w.drewN n) (listI bs q))) := fun n => closL_at bs hb hl R q B v q (w.drewN n) (h.drewN n) hq hB
    have T : Hid (tkL bs (some q) = match listI bs q with | some (xs, n) => (xs, some n) | none => ([], none)) := rfl
    have LE : Hid (∀ xs n, listI bs q = some (xs, n) → n ≤ bs.length) := fun xs n e => (listI_le hb e).1
    generalize tkL bs (some q) = TT at *
    generalize listI bs q = LI at *
    clear h hp hB hq hb hl
    go_enter Try.func105, Try.ntmps105
    go_wp2_with fail
    go_cut [6, 7, 8] from 14 to 27 (fun x y z wx => ∃ xs y' k, y = .int .i64 y' ∧ z = .bool k ∧ RowN w.heap.size wx x xs ∧ Hid (∃ st, RS bs R v st wx) ∧ w.grownBy wx (some R) ∧ Hid ((LI = none ∧ xs = [] ∧ y' = 0 ∧ k = false) ∨ (∃ q : Nat, LI = some (xs, q) ∧ y' = (q : Int) ∧ k = true)))
    case first =>
      go_region_with (go_at_call 106; refine (C.out _).mono ?_; rintro e w1 ⟨vl, xs, y, k, rfl, r1, s1, g1, D1⟩)
      all_goals
        go_wp2_with fail
        go_meet
        exact ⟨xs, y, k, rfl, rfl, r1, s1, ⟨g1.os, g1.tape, g1.output, g1.size, g1.block⟩, D1⟩
    case rest =>
      obtain ⟨xs, y', k, rfl, rfl, r1, s1, g1, D1⟩ := hcut
      obtain ⟨st, s⟩ := s1.out
      obtain ⟨p1, k1, _⟩ := s.c1
      have k2 := s.c2
      have fz1 := s.fz 1
      have fz2 := s.fz 2
      have PT : Hid (∀ st' : Option Nat, (∀ q, st' = some q → y' = (q : Int)) → (∀ q, st' = some q → q ≤ bs.length) → RS bs R v st' ((wc.setCell ⟨R, 1, none⟩ (.int .i64 y')).setCell ⟨R, 2, none⟩ (.bool st'.isNone)) ∧ wc.grownBy ((wc.setCell ⟨R, 1, none⟩ (.int .i64 y')).setCell ⟨R, 2, none⟩ (.bool st'.isNone)) (some R)) := fun st' h1 h2 => s.put (st' := st') 0 y' h1 h2
      clear s s1 C
      rcases D1.out with ⟨rfl, rfl, rfl, rfl⟩ | ⟨q1, rfl, rfl, rfl⟩
      · have T' := T.out
        simp only at T'
        subst T'
        obtain ⟨F1, F2⟩ := PT.out none (fun q h => by cases h) (fun q h => by cases h)
        simp only [Option.isNone] at F1 F2
        have F1' : Hid (RS bs R v none ((wc.setCell ⟨R, 1, none⟩ (.int .i64 0)).setCell ⟨R, 2, none⟩ (.bool true))) := F1
        have F2' : Hid (w.grownBy ((wc.setCell ⟨R, 1, none⟩ (.int .i64 0)).setCell ⟨R, 2, none⟩ (.bool true)) (some R)) := grownBy_trans g1 F2
        clear F1 F2 PT D1
        go_wp2_with fail
        go_ret
        exact ⟨_, rfl, RowV.kept r1 (grownBy_trans (setCell_grown _ R 1 _) (setCell_grown _ R 2 _)) (fun g hg e => by have := r1.block_ge hg; injection e with e; omega), F1'.out, F2'.out⟩
      · have T' := T.out
        simp only at T'
        subst T'
        obtain ⟨F1, F2⟩ := PT.out (some q1) (fun q h => by cases h; rfl) (fun q h => by cases h; exact LE.out _ _ rfl)
        simp only [Option.isNone] at F1 F2
        have F1' : Hid (RS bs R v (some q1) ((wc.setCell ⟨R, 1, none⟩ (.int .i64 (q1 : Int))).setCell ⟨R, 2, none⟩ (.bool false))) := F1
        have F2' : Hid (w.grownBy ((wc.setCell ⟨R, 1, none⟩ (.int .i64 (q1 : Int))).setCell ⟨R, 2, none⟩ (.bool false)) (some R)) := grownBy_trans g1 F2
        clear F1 F2 PT D1
        go_wp2_with fail
        go_ret
        exact ⟨_, rfl, RowV.kept r1 (grownBy_trans (setCell_grown _ R 1 _) (setCell_grown _ R 2 _)) (fun g hg e => by have := r1.block_ge hg; injection e with e; omega), F1'.out, F2'.out⟩

set_option maxRecDepth 20000 in
set_option maxHeartbeats 1000000 in
theorem takeList_at (bs : List Nat) (hb : ∀ c ∈ bs, c < 256) (hl : bs.length ≤ 1000000000000) (R : Nat) (v : Value) (st : Option Nat) (w : World) (h : RS bs R v st w) :
    Calls Try.prog 78 #[.pointer (some ⟨R, 0, none⟩), idF R] w fun e w' => ∃ vl, e = .returned vl ∧ RowN w.heap.size w' vl (tkL bs st).1 ∧ RS bs R v (tkL bs st).2 w' ∧ w.grownBy w' (some R) := by
  have C : Hid (∀ w' B, Below w.heap.size w w' → w'.cell? ⟨B, 0, none⟩ = some (idF R) → Calls Try.prog 105 #[.pointer (some ⟨R, 0, none⟩), .func (.func 106) #[] #[.pointer (some ⟨B, 0, none⟩)]] w' fun e w'' => ∃ vl, e = .returned vl ∧ RowN w'.heap.size w'' vl (tkL bs st).1 ∧ RS bs R v (tkL bs st).2 w'' ∧ w'.grownBy w'' (some R)) := fun w' B h1 h2 => takeL_at bs hb hl R B v st w' (h.below h1) h2
  clear h hb hl
  generalize tkL bs st = TT at *
  unfold idF at *
  go_enter Try.func78, Try.ntmps78
  go_wp2_with fail
  refine (C.out _ _ (below_alloc w _) ((Blk.new _ [_] w).cell 0 _ rfl)).mono ?_
  rintro e w1 ⟨vl, rfl, r1, s1, g1⟩
  have F : Hid (RowN w.heap.size w1 vl TT.1 ∧ RS bs R v TT.2 w1 ∧ w.grownBy w1 (some R)) := ⟨RowV.mono r1 (by simp), s1, grownBy_trans (grownBy_below (below_alloc w _) _) g1⟩
  clear r1 s1 g1
  go_wp2_with fail
  go_ret
  exact ⟨_, rfl, F.out⟩
end Go.Proofs.Ytbghoogkmdnmpaa
