/-
  Ours: the one move by which a loan is opened never fails (pure).
-/
import Derived.Test.YtgdmkcbbomfmdaaGreatDoorLoPln
import Derived.Test.YtgdmkcbbomfmdaaGreatDoorLoPst
import Derived.Test.YtgdmkcbbomfmdaaGreatDoorLoAtt
namespace Go.Proofs.YtgdmkcbbomfmdaaGreatDoor
open Go.RowKit LedM
/-- The bounds of terms. -/
def tmOk (k P r n s u : Int) : Bool := (decide (0 ≤ k) && decide (k ≤ 2)) && ((decide (1 ≤ P) && decide (P ≤ 10000000000000)) && ((decide (0 ≤ r) && decide (r ≤ 100000)) && ((decide (1 ≤ n) && decide (n ≤ 120)) && ((decide (1 ≤ s) && decide (s ≤ 3652059)) && ((decide (0 ≤ u) && decide (u ≤ 3)))))))
set_option maxRecDepth 20000 in
set_option maxHeartbeats 4000000 in
theorem termsMay_at (k P r n s u : Int) (w : World) : Calls Tryz.prog 28 #[.agg #[.int .i64 k, .int .i64 P, .int .i64 r, .int .i64 n, .int .i64 s, .int .i64 u]] w fun e w' => e = .returned (.bool (tmOk k P r n s u)) ∧ Below w.heap.size w w' := by
  have W0 : Hid (∀ w, Calls Tryz.prog 27 #[.int .i64 k, .int .i64 0, .int .i64 2] w fun e w' => e = .returned (.bool (decide (0 ≤ k) && decide (k ≤ 2))) ∧ w' = w) := fun w => within_at _ _ _ w
  have W1 : Hid (∀ w, Calls Tryz.prog 43 #[.int .i64 P, .int .i64 1, .int .i64 10000000000000] w fun e w' => e = .returned (.bool (decide (1 ≤ P) && decide (P ≤ 10000000000000))) ∧ w' = w) := fun w => within64_at _ _ _ w
  have W2 : Hid (∀ w, Calls Tryz.prog 44 #[.int .i64 r] w fun e w' => e = .returned (.bool (decide (0 ≤ r) && decide (r ≤ 100000))) ∧ w' = w) := fun w => rateMay_at _ w
  have W3 : Hid (∀ w, Calls Tryz.prog 45 #[.int .i64 n] w fun e w' => e = .returned (.bool (decide (1 ≤ n) && decide (n ≤ 120))) ∧ w' = w) := fun w => countMay_at _ w
  have W4 : Hid (∀ w, Calls Tryz.prog 27 #[.int .i64 s, .int .i64 1, .int .i64 3652059] w fun e w' => e = .returned (.bool (decide (1 ≤ s) && decide (s ≤ 3652059))) ∧ w' = w) := fun w => within_at _ _ _ w
  have W5 : Hid (∀ w, Calls Tryz.prog 27 #[.int .i64 u, .int .i64 0, .int .i64 3] w fun e w' => e = .returned (.bool (decide (0 ≤ u) && decide (u ≤ 3))) ∧ w' = w) := fun w => within_at _ _ _ w
  unfold tmOk
  generalize (decide (0 ≤ k) && decide (k ≤ 2)) = b0 at *
  generalize (decide (1 ≤ P) && decide (P ≤ 10000000000000)) = b1 at *
  generalize (decide (0 ≤ r) && decide (r ≤ 100000)) = b2 at *
  generalize (decide (1 ≤ n) && decide (n ≤ 120)) = b3 at *
  generalize (decide (1 ≤ s) && decide (s ≤ 3652059)) = b4 at *
  generalize (decide (0 ≤ u) && decide (u ≤ 3)) = b5 at *
  go_enter Tryz.func28, Tryz.ntmps28
  cases b0
  · go_wp2_with fail
    refine (W0.out _).mono ?_
    rintro e w1 ⟨rfl, hw⟩
    subst hw
    go_wp2_with fail
    go_ret
    exact ⟨rfl, below_alloc _ _⟩
  · cases b1
    · go_wp2_with fail
      refine (W0.out _).mono ?_
      rintro e w1 ⟨rfl, hw⟩
      subst hw
      go_wp2_with fail
      refine (W1.out _).mono ?_
      rintro e w1 ⟨rfl, hw⟩
      subst hw
      go_wp2_with fail
      go_ret
      exact ⟨rfl, below_alloc _ _⟩
    · cases b2
      · go_wp2_with fail
        refine (W0.out _).mono ?_
        rintro e w1 ⟨rfl, hw⟩
        subst hw
        go_wp2_with fail
        refine (W1.out _).mono ?_
        rintro e w1 ⟨rfl, hw⟩
        subst hw
        go_wp2_with fail
        refine (W2.out _).mono ?_
        rintro e w1 ⟨rfl, hw⟩
        subst hw
        go_wp2_with fail
        go_ret
        exact ⟨rfl, below_alloc _ _⟩
      · cases b3
        · go_wp2_with fail
          refine (W0.out _).mono ?_
          rintro e w1 ⟨rfl, hw⟩
          subst hw
          go_wp2_with fail
          refine (W1.out _).mono ?_
          rintro e w1 ⟨rfl, hw⟩
          subst hw
          go_wp2_with fail
          refine (W2.out _).mono ?_
          rintro e w1 ⟨rfl, hw⟩
          subst hw
          go_wp2_with fail
          refine (W3.out _).mono ?_
          rintro e w1 ⟨rfl, hw⟩
          subst hw
          go_wp2_with fail
          go_ret
          exact ⟨rfl, below_alloc _ _⟩
        · cases b4
          · go_wp2_with fail
            refine (W0.out _).mono ?_
            rintro e w1 ⟨rfl, hw⟩
            subst hw
            go_wp2_with fail
            refine (W1.out _).mono ?_
            rintro e w1 ⟨rfl, hw⟩
            subst hw
            go_wp2_with fail
            refine (W2.out _).mono ?_
            rintro e w1 ⟨rfl, hw⟩
            subst hw
            go_wp2_with fail
            refine (W3.out _).mono ?_
            rintro e w1 ⟨rfl, hw⟩
            subst hw
            go_wp2_with fail
            refine (W4.out _).mono ?_
            rintro e w1 ⟨rfl, hw⟩
            subst hw
            go_wp2_with fail
            go_ret
            exact ⟨rfl, below_alloc _ _⟩
          · cases b5
            · go_wp2_with fail
              refine (W0.out _).mono ?_
              rintro e w1 ⟨rfl, hw⟩
              subst hw
              go_wp2_with fail
              refine (W1.out _).mono ?_
              rintro e w1 ⟨rfl, hw⟩
              subst hw
              go_wp2_with fail
              refine (W2.out _).mono ?_
              rintro e w1 ⟨rfl, hw⟩
              subst hw
              go_wp2_with fail
              refine (W3.out _).mono ?_
              rintro e w1 ⟨rfl, hw⟩
              subst hw
              go_wp2_with fail
              refine (W4.out _).mono ?_
              rintro e w1 ⟨rfl, hw⟩
              subst hw
              go_wp2_with fail
              refine (W5.out _).mono ?_
              rintro e w1 ⟨rfl, hw⟩
              subst hw
              go_wp2_with fail
              go_ret
              exact ⟨rfl, below_alloc _ _⟩
            · go_wp2_with fail
              refine (W0.out _).mono ?_
              rintro e w1 ⟨rfl, hw⟩
              subst hw
              go_wp2_with fail
              refine (W1.out _).mono ?_
              rintro e w1 ⟨rfl, hw⟩
              subst hw
              go_wp2_with fail
              refine (W2.out _).mono ?_
              rintro e w1 ⟨rfl, hw⟩
              subst hw
              go_wp2_with fail
              refine (W3.out _).mono ?_
              rintro e w1 ⟨rfl, hw⟩
              subst hw
              go_wp2_with fail
              refine (W4.out _).mono ?_
              rintro e w1 ⟨rfl, hw⟩
              subst hw
              go_wp2_with fail
              refine (W5.out _).mono ?_
              rintro e w1 ⟨rfl, hw⟩
              subst hw
              go_wp2_with fail
              go_ret
              exact ⟨rfl, below_alloc _ _⟩
end Go.Proofs.YtgdmkcbbomfmdaaGreatDoor

namespace Go.Proofs.YtgdmkcbbomfmdaaGreatDoor
open Go.RowKit LedM CoM LoM
/-- A draft's cells by the policy, the loan and the rest: post's own form. -/
theorem dr_app {X : List Value} (L : Lo) (pa : List Int) (nt : Value) : drL X L pa nt = X ++ (lnL L ++ (i5 pa ++ [nt])) := rfl
theorem dr_len {X : List Value} (hX : X.length = 18) (L : Lo) (pa : List Int) (nt : Value) : (drL X L pa nt).length = 70 := by
  rw [dr_app, List.length_append, hX]; rfl
theorem dr_book {X : List Value} (hX : X.length = 18) (L : Lo) (pa : List Int) (nt : Value) : ((drL X L pa nt).drop 26).take 12 = i12 L.bk := by
  rw [dr_app, show 26 = X.length + 8 from by rw [hX], List.drop_length_add_append]
  rfl
theorem dr_set {X : List Value} (hX : X.length = 18) (L : Lo) (pa : List Int) (nt : Value) (b : List Int) : (drL X L pa nt).take 26 ++ i12 b ++ (drL X L pa nt).drop 38 = drL X { L with bk := b } pa nt := by
  rw [dr_app, dr_app, show 26 = X.length + 8 from by rw [hX], show 38 = X.length + 20 from by rw [hX], List.drop_length_add_append, List.take_length_add_append, List.append_assoc, List.append_assoc]
  rfl
theorem dr_pol {X : List Value} (hX : X.length = 18) (L : Lo) (pa : List Int) (nt : Value) {i : Nat} (hi : i < 18) : (drL X L pa nt)[i]? = X[i]? := by
  rw [dr_app, List.getElem?_append_left (by omega)]
/-- post at a draft: its book, or the whole given up. -/
theorem post_dr {X : List Value} (hX : X.length = 18) (DB : Nat) (L : Lo) (pa : List Int) (nt : Value) (es : List Ent) (v : Value) (w : World) (hl : BkOk L.bk) (hes : ∀ e ∈ es, EntOk e) (hn : es.length ≤ 1000000) (h : RdE w v es) (hT : TabD w) (hD : Blk DB 73 (drL X L pa nt) w) :
    Calls Tryz.prog 31 #[.pointer (some ⟨DB, 0, none⟩), v] w fun e w' =>
      (postE L.bk (nzE es) = 0 ∧ e = .returned (.tuple #[]) ∧ Blk DB 73 (drL X { L with bk := postB L.bk (nzE es) } pa nt) w' ∧ w.grownBy w' (some DB)) ∨
      (¬ postE L.bk (nzE es) = 0 ∧ e = gaveUp (postE L.bk (nzE es)) ∧ Below w.heap.size w w') := by
  refine (dpost_at DB (drL X L pa nt) L.bk es v w hl (dr_len hX L pa nt) ((dr_book hX L pa nt).trans (bk_i12 hl.1)) hes hn h hT hD).mono ?_
  rintro e w' (⟨h1, h2, h3, h4⟩ | h)
  · refine .inl ⟨h1, h2, ?_, h4⟩
    rw [← bk_i12 (postB_ok hl).1, dr_set hX] at h3
    exact h3
  · exact .inr h
/-- A loan that begins: its book, its time and its counters are zero. -/
def newL (id : Int) (tm : List Int) (pl : Value) (c : Cs) (s : Int) : Lo := ⟨id, tm, pl, [0, 0, 0, 0, 0, 0, 0, 0, 0, 0, 0, 0], c, s, 0, 0, [], false, 0, 0⟩
theorem built_new (id : Int) (tm : List Int) (a : Option Addr) (n m : Nat) (c : Cs) (s : Int) : Tryz.prog.built 37 [(0, .int .i64 id), (1, .agg (i6 tm).toArray), (2, .slice a n m), (4, .agg (csL c).toArray), (5, .int .i64 s)] = some (lnL (newL id tm (.slice a n m) c s)).toArray := by kernel_rfl
theorem build_new (id : Int) (tm : List Int) (a : Option Addr) (n m : Nat) (c : Cs) (s : Int) (w : World) : (Instr.build 37 #[(0, .int .i64 id), (1, .agg (i6 tm).toArray), (2, .slice a n m), (4, .agg (csL c).toArray), (5, .int .i64 s)]).run Tryz.prog w = .ok (.agg (lnL (newL id tm (.slice a n m) c s)).toArray) w := run_build w _ _ _ (built_new id tm a n m c s)
end Go.Proofs.YtgdmkcbbomfmdaaGreatDoor

namespace Go.Proofs.YtgdmkcbbomfmdaaGreatDoor
open Go.RowKit LedM CoM LoM

theorem tm_P {k P r n s u : Int} (h : tmOk k P r n s u = true) : 1 ≤ P ∧ P ≤ 10000000000000 := by
  unfold tmOk at h
  simp only [Bool.and_eq_true, decide_eq_true_eq] at h
  exact h.2.1
theorem moved_open {P : Int} : moved [0, 0, 0, 0, 0, 0, 0, 0, 0, 0, 0, 0] [⟨1, 6, P⟩] = [0, P, 0, 0, 0, 0, -P, 0, 0, 0, 0, 0] := by
  simp [moved, mv, mv1, total, List.range_succ]
theorem nz_open {P : Int} (h : 1 ≤ P) : nzE [⟨1, 6, P⟩] = [⟨1, 6, P⟩] := by
  unfold nzE
  rw [List.filter_cons_of_pos (by simp; omega)]
  rfl
theorem post_open {k P r n s u : Int} (h : tmOk k P r n s u = true) : postE [0, 0, 0, 0, 0, 0, 0, 0, 0, 0, 0, 0] (nzE [⟨1, 6, P⟩]) = 0 := by
  obtain ⟨h1, h2⟩ := tm_P h
  rw [nz_open h1]
  have f : faultE [⟨1, 6, P⟩] = 0 := by simp [faultE, entE, isA]; omega
  have e1 : fitsL [0, P, 0, 0, 0, 0, -P, 0, 0, 0, 0, 0] = true := by simp [fitsL, smOk, List.range_succ]; omega
  have e2 : rangeB [0, P, 0, 0, 0, 0, -P, 0, 0, 0, 0, 0] = true := by simp [rangeB, List.range_succ]; omega
  have e3 : sidesB [0, P, 0, 0, 0, 0, -P, 0, 0, 0, 0, 0] = true := by simp [sidesB, ownB, LedM.isD, List.range_succ]; omega
  unfold postE
  rw [f, if_pos rfl, moved_open, e1, e2, e3]
  rfl
theorem postB_open {k P r n s u : Int} (h : tmOk k P r n s u = true) : postB [0, 0, 0, 0, 0, 0, 0, 0, 0, 0, 0, 0] (nzE [⟨1, 6, P⟩]) = [0, P, 0, 0, 0, 0, -P, 0, 0, 0, 0, 0] := by
  unfold postB
  rw [post_open h, if_pos rfl, nz_open (tm_P h).1, moved_open]
end Go.Proofs.YtgdmkcbbomfmdaaGreatDoor
