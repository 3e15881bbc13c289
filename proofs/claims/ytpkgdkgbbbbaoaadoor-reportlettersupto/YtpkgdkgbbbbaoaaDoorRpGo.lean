/-
  Ours: the table of wordings where it lies; report's fill, slots, isKind; strconv.Atoi of any text.
-/
import Derived.Test.YtpkgdkgbbbbaoaaDoorRpM
import Derived.Test.YtpkgdkgbbbbaoaaDoorMrtWalk1
import Derived.Test.YtpkgdkgbbbbaoaaDoorCalTxt2
import Derived.Test.YtpkgdkgbbbbaoaaDoorLedOwn
import Derived.Deep.RegionHeld3
import Derived.Laws.StructEq
import Derived.Lib.CutLaws
namespace Go.Proofs.YtpkgdkgbbbbaoaaDoor
open Go.RowKit Go.Lib CalM RpM

/-- The table of the wordings. -/
structure WdW (w : World) : Prop where
  a : ∀ k, k < 10 → w.cell? ⟨0, k * 4, none⟩ = some (.string ⟨(wrd k).a.toArray⟩)
  b : ∀ k, k < 10 → w.cell? ⟨0, k * 4 + 1, none⟩ = some (.string ⟨(wrd k).b.toArray⟩)
  c : ∀ k, k < 10 → w.cell? ⟨0, k * 4 + 2, none⟩ = some (.string ⟨(wrd k).c.toArray⟩)
  f : ∀ k, k < 10 → w.cell? ⟨0, k * 4 + 3, none⟩ = some (.bool (wrd k).f)
theorem WdW.lt {w : World} (h : WdW w) : 0 < w.heap.size := World.block_lt_of_cell? w _ (h.a 0 (by decide))
theorem WdW.later {w w' : World} (h : WdW w) (b : Below w.heap.size w w') : WdW w' :=
  ⟨fun k hk => (b.cell (p := ⟨0, k * 4, none⟩) h.lt).trans (h.a k hk), fun k hk => (b.cell (p := ⟨0, k * 4 + 1, none⟩) h.lt).trans (h.b k hk),
    fun k hk => (b.cell (p := ⟨0, k * 4 + 2, none⟩) h.lt).trans (h.c k hk), fun k hk => (b.cell (p := ⟨0, k * 4 + 3, none⟩) h.lt).trans (h.f k hk)⟩
abbrev wdV (k : Nat) : Value := .agg #[.string ⟨(wrd k).a.toArray⟩, .string ⟨(wrd k).b.toArray⟩, .string ⟨(wrd k).c.toArray⟩, .bool (wrd k).f]
/-- What the walks ask of the heap. -/
structure RpW (w : World) : Prop where
  tab : TabW w
  ahead : TabA w
  lens : TabL w
  wds : WdW w
  err : ErrW w
  mx : ∃ m : Int, w.cell? ⟨2, 0, none⟩ = some (.int .i64 m)
theorem RpW.later {w w' : World} (h : RpW w) (b : Below w.heap.size w w') : RpW w' := by
  refine ⟨tab_below h.tab b, h.ahead.up b, h.lens.up b, h.wds.later b, h.err.below b, ?_⟩
  obtain ⟨m, hm⟩ := h.mx
  exact ⟨m, (b.cell (World.block_lt_of_cell? w _ hm)).trans hm⟩
theorem bcat (x y : List UInt8) : ((⟨x.toArray⟩ : ByteArray) ++ ⟨y.toArray⟩) = ⟨(x ++ y).toArray⟩ := by
  apply ByteArray.ext
  simp
theorem isKind_at (n : Int) (w : World) : Calls Tryd.prog 10 #[.int .i64 n] w fun e w' => e = .returned (.bool (decide (1 ≤ n ∧ n ≤ 9))) ∧ w = w' := by
  by_cases h1 : 1 ≤ n
  · by_cases h2 : n ≤ 9
    · have h3 : n < 10 := by omega
      rw [decide_eq_true ⟨h1, h2⟩]
      go_enter Tryd.func10, Tryd.ntmps10
      go_wp2_with fail
      go_ret
      exact ⟨rfl, rfl⟩
    · have h3 : ¬ n < 10 := by omega
      rw [decide_eq_false (fun h => h2 h.2)]
      go_enter Tryd.func10, Tryd.ntmps10
      go_wp2_with fail
      go_ret
      exact ⟨rfl, rfl⟩
  · rw [decide_eq_false (fun h => h1 h.1)]
    go_enter Tryd.func10, Tryd.ntmps10
    go_wp2_with fail
    go_ret
    exact ⟨rfl, rfl⟩
set_option maxRecDepth 40000 in
set_option maxHeartbeats 1000000 in
theorem fill_gen (A B C X Y : List UInt8) (f : Bool) (hA : A.length ≤ 100) (hB : B.length ≤ 100) (hC : C.length ≤ 100) (hX : X.length ≤ 100) (hY : Y.length ≤ 100) (w : World) : Calls Tryd.prog 21 #[.agg #[.string ⟨A.toArray⟩, .string ⟨B.toArray⟩, .string ⟨C.toArray⟩, .bool f], .string ⟨X.toArray⟩, .string ⟨Y.toArray⟩] w fun e w' =>
    e = .returned (.string ⟨(A ++ (if f then Y else X) ++ B ++ (if f then X else Y) ++ C).toArray⟩) ∧ Below w.heap.size w w' := by
  cases f with
  | true =>
    go_enter Tryd.func21, Tryd.ntmps21
    go_wp2_with fail
    go_ret
    exact ⟨(ret_s (by simp) : Ending.returned (.string ⟨(A ++ Y ++ B ++ X ++ C).toArray⟩) = _), below_alloc _ _⟩
  | false =>
    go_enter Tryd.func21, Tryd.ntmps21
    go_wp2_with fail
    go_ret
    exact ⟨(ret_s (by simp) : Ending.returned (.string ⟨(A ++ X ++ B ++ Y ++ C).toArray⟩) = _), below_alloc _ _⟩
theorem wrd_len (k : Nat) : (wrd k).a.length ≤ 100 ∧ (wrd k).b.length ≤ 100 ∧ (wrd k).c.length ≤ 100 := by
  unfold wrd
  split <;> decide
theorem fill_at (k : Nat) (X Y : List UInt8) (hX : X.length ≤ 100) (hY : Y.length ≤ 100) (w : World) : Calls Tryd.prog 21 #[wdV k, .string ⟨X.toArray⟩, .string ⟨Y.toArray⟩] w fun e w' => e = .returned (.string ⟨(lay k X Y).toArray⟩) ∧ Below w.heap.size w w' := fill_gen _ _ _ X Y _ (wrd_len k).1 (wrd_len k).2.1 (wrd_len k).2.2 hX hY w
theorem cutP_at (s p : List UInt8) (w : World) : Calls Tryd.prog 23 #[.string ⟨s.toArray⟩, .string ⟨p.toArray⟩] w fun e w' => e = .returned (.tuple #[.string ⟨(trimPrefix s p).toArray⟩, .bool (hasPrefix s p)]) ∧ w = w' :=
  (Tryd.strings_CutPrefix ⟨s.toArray⟩ ⟨p.toArray⟩ w).mono fun _ _ h => ⟨h.1, h.2.symm⟩
theorem cutS_at (s p : List UInt8) (hs : s.length ≤ 9223372036854775807) (w : World) : Calls Tryd.prog 44 #[.string ⟨s.toArray⟩, .string ⟨p.toArray⟩] w fun e w' => e = .returned (.tuple #[.string ⟨(trimSuffix s p).toArray⟩, .bool (hasSuffix s p)]) ∧ w = w' :=
  (Tryd.strings_CutSuffix ⟨s.toArray⟩ ⟨p.toArray⟩ w hs).mono fun _ _ h => ⟨h.1, h.2.symm⟩
theorem cut_at (s p : List UInt8) (hs : s.length < 4294967281) (w : World) (hm : ∃ m : Int, w.cell? ⟨2, 0, none⟩ = some (.int .i64 m)) : Calls Tryd.prog 24 #[.string ⟨s.toArray⟩, .string ⟨p.toArray⟩] w fun e w' =>
    e = .returned (.tuple #[.string ⟨(cut s p).1.toArray⟩, .string ⟨(cut s p).2.1.toArray⟩, .bool (cut s p).2.2]) ∧ Below w.heap.size w w' := by
  obtain ⟨m, hm⟩ := hm
  refine (Tryd.strings_Cut ⟨s.toArray⟩ ⟨p.toArray⟩ m w hs hm).mono ?_
  rintro e w' ⟨rfl, n, rfl⟩
  exact ⟨rfl, below_drewN (Below.refl _ _) n⟩
theorem trimP_le (s p : List UInt8) : (trimPrefix s p).length ≤ s.length := by unfold trimPrefix; split <;> simp
theorem trimS_le (s p : List UInt8) : (trimSuffix s p).length ≤ s.length := by unfold trimSuffix; split <;> simp
theorem cut_le (s p : List UInt8) : (cut s p).1.length ≤ s.length ∧ (cut s p).2.1.length ≤ s.length := by unfold cut; split <;> simp; omega
set_option maxRecDepth 40000 in
set_option maxHeartbeats 1000000 in
theorem slots_gen (A B C : List UInt8) (f : Bool) (t : List UInt8) (ht : t.length < 4294967281) (w : World) (hm : ∃ m : Int, w.cell? ⟨2, 0, none⟩ = some (.int .i64 m)) :
    Calls Tryd.prog 25 #[.agg #[.string ⟨A.toArray⟩, .string ⟨B.toArray⟩, .string ⟨C.toArray⟩, .bool f], .string ⟨t.toArray⟩] w fun e w' =>
      e = .returned (.tuple #[.string ⟨(if f then (cut (trimSuffix (trimPrefix t A) C) B).2.1 else (cut (trimSuffix (trimPrefix t A) C) B).1).toArray⟩, .string ⟨(if f then (cut (trimSuffix (trimPrefix t A) C) B).1 else (cut (trimSuffix (trimPrefix t A) C) B).2.1).toArray⟩]) ∧ Below w.heap.size w w' := by
  have P1 : Hid (∀ w, Calls Tryd.prog 23 #[.string ⟨t.toArray⟩, .string ⟨A.toArray⟩] w fun e w' => e = .returned (.tuple #[.string ⟨(trimPrefix t A).toArray⟩, .bool (hasPrefix t A)]) ∧ w = w') := fun w => cutP_at t A w
  have l1 := trimP_le t A
  generalize trimPrefix t A = t1 at *
  generalize hasPrefix t A = p1 at *
  have P2 : Hid (∀ w, Calls Tryd.prog 44 #[.string ⟨t1.toArray⟩, .string ⟨C.toArray⟩] w fun e w' => e = .returned (.tuple #[.string ⟨(trimSuffix t1 C).toArray⟩, .bool (hasSuffix t1 C)]) ∧ w = w') := fun w => cutS_at t1 C (by omega) w
  have l2 := trimS_le t1 C
  generalize trimSuffix t1 C = t2 at *
  generalize hasSuffix t1 C = p2 at *
  have P3 : Hid (∀ w, (∃ m : Int, w.cell? ⟨2, 0, none⟩ = some (.int .i64 m)) → Calls Tryd.prog 24 #[.string ⟨t2.toArray⟩, .string ⟨B.toArray⟩] w fun e w' => e = .returned (.tuple #[.string ⟨(cut t2 B).1.toArray⟩, .string ⟨(cut t2 B).2.1.toArray⟩, .bool (cut t2 B).2.2]) ∧ Below w.heap.size w w') := fun w hm => cut_at t2 B (by omega) w hm
  generalize (cut t2 B).1 = x at *
  generalize (cut t2 B).2.1 = y at *
  generalize (cut t2 B).2.2 = z at *
  have HM : Hid (∃ m : Int, (w.alloc (.cells #[.string ⟨A.toArray⟩, .string ⟨B.toArray⟩, .string ⟨C.toArray⟩, .bool f] 33)).cell? ⟨2, 0, none⟩ = some (.int .i64 m)) := by
    obtain ⟨m, h⟩ := hm
    exact ⟨m, ((below_alloc w _).cell (World.block_lt_of_cell? w _ h)).trans h⟩
  clear hm l1 l2 ht
  go_enter Tryd.func25, Tryd.ntmps25
  go_wp2_with fail
  refine (P1.out _).mono ?_
  rintro e w1 ⟨rfl, rfl⟩
  go_wp2_with fail
  refine (P2.out _).mono ?_
  rintro e w2 ⟨rfl, rfl⟩
  go_wp2_with fail
  refine (P3.out _ HM.out).mono ?_
  rintro e w3 ⟨rfl, b3⟩
  have B3 : Hid (Below w.heap.size w w3) := below_trans (below_alloc w _) b3
  have C3 : w3.cell? ⟨w.heap.size, 3, none⟩ = some (.bool f) := (b3.cell (by simp)).trans (by simp)
  clear b3 HM P1 P2 P3
  cases f with
  | true =>
    go_wp2_with fail
    go_ret2
    exact ⟨rfl, B3.out⟩
  | false =>
    go_wp2_with fail
    go_ret2
    exact ⟨rfl, B3.out⟩
theorem slots_at (k : Nat) (t : List UInt8) (ht : t.length < 4294967281) (w : World) (hm : ∃ m : Int, w.cell? ⟨2, 0, none⟩ = some (.int .i64 m)) :
    Calls Tryd.prog 25 #[wdV k, .string ⟨t.toArray⟩] w fun e w' => e = .returned (.tuple #[.string ⟨(slots k t).1.toArray⟩, .string ⟨(slots k t).2.toArray⟩]) ∧ Below w.heap.size w w' := by
  have h := slots_gen (wrd k).a (wrd k).b (wrd k).c (wrd k).f t ht w hm
  have e1 : (slots k t).1 = (if (wrd k).f then (cut (trimSuffix (trimPrefix t (wrd k).a) (wrd k).c) (wrd k).b).2.1 else (cut (trimSuffix (trimPrefix t (wrd k).a) (wrd k).c) (wrd k).b).1) := by unfold slots; cases (wrd k).f <;> rfl
  have e2 : (slots k t).2 = (if (wrd k).f then (cut (trimSuffix (trimPrefix t (wrd k).a) (wrd k).c) (wrd k).b).1 else (cut (trimSuffix (trimPrefix t (wrd k).a) (wrd k).c) (wrd k).b).2.1) := by unfold slots; cases (wrd k).f <;> rfl
  rw [e1, e2]
  exact h
/-- strconv.Atoi of any text: a number, the text's own where it tells one. -/
theorem atoi_any (s : List UInt8) (hs : s.length ≤ 281474976710656) : ∃ v : Int, (-9223372036854775808 ≤ v ∧ v ≤ 9223372036854775807) ∧ (∀ n, atoiAll s = .ok n → v = n) ∧
    ∀ w, ErrW w → Calls Tryd.prog 26 #[.string ⟨s.toArray⟩] w fun e w' => (∃ er, e = .returned (.tuple #[.int .i64 v, er])) ∧ Below w.heap.size w w' := by
  cases h : atoiAll s with
  | ok v =>
    refine ⟨v, Lib.atoiAll_bounds h, fun n e => by injection e, fun w _ => (Tryd.strconv_Atoi_ok ⟨s.toArray⟩ (by show s.length ≤ _; omega) v h w).mono ?_⟩
    rintro e w' ⟨rfl, hw⟩
    refine ⟨⟨_, rfl⟩, ?_⟩
    rcases hw with rfl | ⟨t, rfl⟩
    · exact Below.refl _ _
    · exact Lib.bytesWorld_below _ _ _
  | «syntax» =>
    refine ⟨0, by omega, (fun n e => by cases e), fun w he => ?_⟩
    obtain ⟨tp, p, hv⟩ := he.syn
    refine (Tryd.strconv_Atoi_syntax_var ⟨s.toArray⟩ hs h tp p w hv).mono ?_
    rintro e w' ⟨N, rfl, _, _, b⟩
    exact ⟨⟨_, rfl⟩, b⟩
  | range =>
    refine ⟨atoiSat s, by unfold atoiSat; split <;> omega, (fun n e => by cases e), fun w he => ?_⟩
    obtain ⟨tp, p, hv⟩ := he.ran
    refine (Tryd.strconv_Atoi_range_var ⟨s.toArray⟩ hs h tp p w hv).mono ?_
    rintro e w' ⟨N, rfl, _, _, b⟩
    exact ⟨⟨_, rfl⟩, b⟩
end Go.Proofs.YtpkgdkgbbbbaoaaDoor
