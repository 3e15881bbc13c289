/-
  Ours: two postings are one: LedgerJoins.
-/
import Derived.Test.YtkmmpffkmoaceaaDoorLedSame
namespace Go.Proofs.YtkmmpffkmoaceaaDoor
open Go.RowKit LedM

namespace LedM
theorem postE_zero {l : List Int} {es : List Ent} : postE l es = 0 ↔ faultE es = 0 ∧ fitsL (moved l es) = true ∧ rangeB (moved l es) = true ∧ sidesB (moved l es) = true := by
  unfold postE
  constructor
  · intro h
    split at h
    · rename_i h0
      split at h
      · rename_i h1
        split at h
        · rename_i h2
          simp only [Bool.and_eq_true] at h1
          exact ⟨h0, h1.1, h1.2, h2⟩
        · cases h
      · cases h
    · rename_i h0; exact absurd h h0
  · rintro ⟨a, b, c, d⟩
    rw [if_pos a, b, c, d]; rfl
theorem postB_zero {l : List Int} {es : List Ent} (h : postE l es = 0) : postB l es = moved l es := by unfold postB; rw [if_pos h]
theorem moved_moved (l : List Int) (es fs : List Ent) : moved (moved l es) fs = moved l (es ++ fs) :=
  ext12 (moved_len _ _) (moved_len _ _) (fun j hj => by rw [moved_at _ _ j hj, moved_at _ _ j hj, moved_at _ _ j hj, mv_append]; omega)
theorem post_join {l : List Int} {es fs : List Ent} (h1 : postE l es = 0) (h2 : postE (postB l es) fs = 0) : postE l (es ++ fs) = 0 ∧ postB l (es ++ fs) = postB (postB l es) fs := by
  have e1 := postB_zero h1
  have e2 := postB_zero h2
  rw [e1] at h2 e2
  obtain ⟨a, b, c, d⟩ := postE_zero.1 h2
  rw [moved_moved] at b c d
  have h3 : postE l (es ++ fs) = 0 := postE_zero.2 ⟨fault_all (fun e he => by
    rcases List.mem_append.1 he with he | he
    · exact fault_zero (postE_zero.1 h1).1 e he
    · exact fault_zero a e he), b, c, d⟩
  refine ⟨h3, ?_⟩
  rw [postB_zero h3, e1, e2, moved_moved]
end LedM

set_option maxRecDepth 20000 in
set_option maxHeartbeats 1000000 in
theorem joins_any (l : List Int) (es fs : List Ent) (v1 v2 : Value) (w : World) (hl : BkOk l) (h1 : RdE w v1 es) (h2 : RdE w v2 fs) (k1 : ∀ e ∈ es, EntOk e) (k2 : ∀ e ∈ fs, EntOk e) (n1 : es.length ≤ 1048576) (n2 : fs.length ≤ 1048576) (hT : TabD w) :
    Calls Tryd.prog 5 #[.agg (bkL l).toArray, v1, v2] w fun e w' => e = .returned (.bool true) ∧ Below w.heap.size w w' := by
  have NB : Hid (Blk w.heap.size 24 (bkL l) (w.alloc (.cells (bkL l).toArray 24))) := Blk.new 24 (bkL l) w
  have BB : Hid (Below w.heap.size w (w.alloc (.cells (bkL l).toArray 24))) := below_alloc w _
  have LL : Hid (l.length = 12) := hl.1
  have P1 : Hid (∀ w', Below w.heap.size w w' → Calls Tryd.prog 10 #[.agg (bkL l).toArray, v1] w' fun e w2 => e = .returned (.tuple #[.agg (bkL (postB l es)).toArray, .int .i64 (postE l es)]) ∧ Below w'.heap.size w' w2) := fun w' hb => post_at l es v1 w' hl k1 (by omega) (h1.later hb) (hT.later hb)
  have O1 : BkOk (postB l es) := postB_ok hl
  have O2 : BkOk (postB (postB l es) fs) := postB_ok O1
  have P2 : Hid (∀ w', Below w.heap.size w w' → Calls Tryd.prog 10 #[.agg (bkL (postB l es)).toArray, v2] w' fun e w2 => e = .returned (.tuple #[.agg (bkL (postB (postB l es) fs)).toArray, .int .i64 (postE (postB l es) fs)]) ∧ Below w'.heap.size w' w2) := fun w' hb => post_at _ fs v2 w' O1 k2 (by omega) (h2.later hb) (hT.later hb)
  have P3 : Hid (∀ w' v, Below w.heap.size w w' → RdE w' v (es ++ fs) → Calls Tryd.prog 10 #[.agg (bkL l).toArray, v] w' fun e w2 => e = .returned (.tuple #[.agg (bkL (postB l (es ++ fs))).toArray, .int .i64 (postE l (es ++ fs))]) ∧ Below w'.heap.size w' w2) := fun w' v hb hr => post_at _ _ v w' hl (fun e he => (List.mem_append.1 he).elim (k1 e) (k2 e)) (by rw [List.length_append]; omega) hr (hT.later hb)
  have PS : Hid (∀ w', Below w.heap.size w w' → Calls Tryd.prog 11 #[] w' fun e w2 => e = .returned (.bool true) ∧ Below w'.heap.size w' w2) := fun w' hb => posts_at w' (hT.later hb)
  have SM : Hid (∀ w' : World, Calls Tryd.prog 12 #[.agg (bkL (postB (postB l es) fs)).toArray, .agg (bkL (postB (postB l es) fs)).toArray] w' fun e w2 => e = .returned (.bool true) ∧ Below w'.heap.size w' w2) := fun w' => by have := same_at (postB (postB l es) fs) (postB (postB l es) fs) w' O2.1 O2.1; rwa [decide_eq_true rfl] at this
  have R1 : Hid (∀ w', Below w.heap.size w w' → RdE w' v1 es) := fun w' hb => h1.later hb
  have R2 : Hid (∀ w', Below w.heap.size w w' → RdE w' v2 fs) := fun w' hb => h2.later hb
  have PJ : Hid (postE l es = 0 → postE (postB l es) fs = 0 → postE l (es ++ fs) = 0 ∧ postB l (es ++ fs) = postB (postB l es) fs) := fun a b => post_join a b
  have L1 : Hid ((postB l es).length = 12) := O1.1
  have L2 : Hid ((postB (postB l es) fs).length = 12) := O2.1
  have NL : Hid (es.length ≤ 1048576 ∧ fs.length ≤ 1048576) := ⟨n1, n2⟩
  clear hl h1 h2 k1 k2 n1 n2 hT O1 O2
  generalize postB (postB l es) fs = dd at *
  generalize postE (postB l es) fs = e2 at *
  generalize postB l es = cc at *
  generalize postE l es = e1 at *
  generalize postB l (es ++ fs) = gg at *
  generalize postE l (es ++ fs) = e3 at *
  go_enter Tryd.func5, Tryd.ntmps5
  go_wp2_with (refine step_load rfl 24 _ rfl w.heap.size 0 rfl (bkL l) _ NB.out.all Tryd.underlying24 rfl (infoBl LL.out) ?_)
  refine (P1.out _ BB.out).mono ?_
  rintro e w1 ⟨rfl, b1⟩
  have NB1 : Hid (Blk w.heap.size 24 (bkL l) (w1.alloc (.cells (bkL zeroL).toArray 24))) := (NB.out.below b1).old _
  have BB1 : Hid (Below w.heap.size w (w1.alloc (.cells (bkL zeroL).toArray 24)) ∧ w.heap.size < w1.heap.size) := ⟨by have := below_trans BB.out b1; exact this.alloc this.size _, (NB.out.below b1).lt⟩
  have NC1 : Hid (Blk w1.heap.size 24 (bkL zeroL) (w1.alloc (.cells (bkL zeroL).toArray 24))) := Blk.new 24 (bkL zeroL) w1
  clear NB BB b1 P1
  by_cases z1 : e1 = 0
  · subst z1
    go_wp2_with (first
      | (refine step_store rfl 24 _ _ rfl w1.heap.size 0 24 (bkL zeroL) (bkL cc) rfl rfl NC1.out (by rw [bkL_len, L1.out]; exact Nat.le_refl _) (infoBl L1.out) (bkL_one _) ?_; intro w2 nb2 g2; rw [store_all (by rw [bkL_len, L1.out]; rfl)] at nb2; have N2 : Hid (Blk w1.heap.size 24 (bkL cc) w2) := nb2; have M2 : Hid (Blk w.heap.size 24 (bkL l) w2) := NB1.out.grown g2 (by have := BB1.out.2; simp; omega); have B2 : Hid (Below w.heap.size w w2) := below_row BB1.out.1 g2 (by have := BB1.out.2; omega); clear nb2 g2 NC1 NB1)
      | (refine step_load rfl 24 _ rfl w1.heap.size 0 rfl (bkL cc) _ N2.out.all Tryd.underlying24 rfl (infoBl L1.out) ?_))
    refine (P2.out _ B2.out).mono ?_
    rintro e w3 ⟨rfl, b3⟩
    have NB3 : Hid (Blk w.heap.size 24 (bkL l) (w3.alloc (.cells (bkL zeroL).toArray 24))) := (M2.out.below b3).old _
    have BB3 : Hid (Below w.heap.size w (w3.alloc (.cells (bkL zeroL).toArray 24)) ∧ w.heap.size < w3.heap.size) := ⟨by have := below_trans B2.out b3; exact this.alloc this.size _, (M2.out.below b3).lt⟩
    have NC3 : Hid (Blk w3.heap.size 24 (bkL zeroL) (w3.alloc (.cells (bkL zeroL).toArray 24))) := Blk.new 24 (bkL zeroL) w3
    clear N2 M2 B2 b3 P2 BB1
    by_cases z2 : e2 = 0
    · subst z2
      obtain ⟨z3, eg⟩ := PJ.out (by first | rfl | trivial) (by first | rfl | trivial)
      subst z3 eg
      clear PJ
      go_wp2_with (first
        | (refine step_store rfl 24 _ _ rfl w3.heap.size 0 24 (bkL zeroL) (bkL gg) rfl rfl NC3.out (by rw [bkL_len, L2.out]; exact Nat.le_refl _) (infoBl L2.out) (bkL_one _) ?_; intro w4 nb4 g4; rw [store_all (by rw [bkL_len, L2.out]; rfl)] at nb4; have N4 : Hid (Blk w3.heap.size 24 (bkL gg) w4) := nb4; have M4 : Hid (Blk w.heap.size 24 (bkL l) w4) := NB3.out.grown g4 (by have := BB3.out.2; simp; omega); have B4 : Hid (Below w.heap.size w w4) := below_row BB3.out.1 g4 (by have := BB3.out.2; omega); clear nb4 g4 NC3 NB3 BB3)
        | (at_builtin; refine wpList_catE rfl (.tmp 32) (.tmp 33) rfl w4.heap.size (.slice none 0 0) v1 [] es rfl (RowE.nil _ _) (Nat.le_refl _) rfl (R1.out _ B4.out) (by have := NL.out; simp; omega) ?_; intro va w5 r5 g5; have b5 : Below w4.heap.size w4 w5 := below_none g5; have N5 : Hid (Blk w3.heap.size 24 (bkL gg) w5) := N4.out.below b5; have M5 : Hid (Blk w.heap.size 24 (bkL l) w5) := M4.out.below b5; have B5 : Hid (Below w.heap.size w w5) := below_trans B4.out b5; have R5 : Hid (RowE w4.heap.size w5 va es) := r5; have s5 : Hid (w4.heap.size ≤ w5.heap.size ∧ w3.heap.size < w4.heap.size ∧ w.heap.size < w4.heap.size) := ⟨b5.size, N4.out.lt, M4.out.lt⟩; clear r5 g5 b5)
        | (at_builtin; refine wpList_catE rfl (.tmp 35) (.tmp 36) rfl w4.heap.size va v2 es fs rfl R5.out s5.out.1 rfl (R2.out _ B5.out) (by have := NL.out; omega) ?_; intro vb w6 r6 g6; have N6 : Hid (Blk w3.heap.size 24 (bkL gg) w6) := N5.out.grown g6 (fun e => by have := R5.out.ge e; have := s5.out; omega); have M6 : Hid (Blk w.heap.size 24 (bkL l) w6) := M5.out.grown g6 (fun e => by have := R5.out.ge e; have := s5.out; omega); have B6 : Hid (Below w.heap.size w w6) := B5.out.grown g6 B5.out.size (fun g hg => by have := R5.out.ge hg; have := s5.out; omega); have R6 : Hid (RowE w4.heap.size w6 vb (es ++ fs)) := r6; clear r6 g6)
        | (refine step_load rfl 24 _ rfl w.heap.size 0 rfl (bkL l) _ M6.out.all Tryd.underlying24 rfl (infoBl LL.out) ?_))
      refine (P3.out _ _ B6.out R6.out.rd).mono ?_
      rintro e w7 ⟨rfl, b7⟩
      have N7 : Hid (Blk w3.heap.size 24 (bkL gg) (w7.alloc (.cells (bkL zeroL).toArray 24))) := (N6.out.below b7).old _
      have B7 : Hid (Below w.heap.size w (w7.alloc (.cells (bkL zeroL).toArray 24)) ∧ w3.heap.size < w7.heap.size ∧ w.heap.size < w7.heap.size) := ⟨by have := below_trans B6.out b7; exact this.alloc this.size _, (N6.out.below b7).lt, (M6.out.below b7).lt⟩
      have NC7 : Hid (Blk w7.heap.size 24 (bkL zeroL) (w7.alloc (.cells (bkL zeroL).toArray 24))) := Blk.new 24 (bkL zeroL) w7
      clear b7 P3 M6 N6 R6 B6 R5 N5 M5 B5 N4 M4 B4 s5
      go_wp2_with (first
        | (refine step_store rfl 24 _ _ rfl w7.heap.size 0 24 (bkL zeroL) (bkL gg) rfl rfl NC7.out (by rw [bkL_len, L2.out]; exact Nat.le_refl _) (infoBl L2.out) (bkL_one _) ?_; intro w8 nb8 g8; rw [store_all (by rw [bkL_len, L2.out]; rfl)] at nb8; have K8 : Hid (Blk w7.heap.size 24 (bkL gg) w8) := nb8; have N8 : Hid (Blk w3.heap.size 24 (bkL gg) w8) := N7.out.grown g8 (by have := B7.out.2; simp; omega); have B8 : Hid (Below w.heap.size w w8) := below_row B7.out.1 g8 (by have := B7.out.2; omega); clear nb8 g8 NC7 N7)
        | (refine step_loadG rfl 24 _ rfl w3.heap.size 0 rfl (bkL gg) _ N8.out.all Tryd.underlying24 rfl (infoBl L2.out) ?_)
        | (refine step_loadG rfl 24 _ rfl w7.heap.size 0 rfl (bkL gg) _ K8.out.all Tryd.underlying24 rfl (infoBl L2.out) ?_))
      refine (SM.out _).mono ?_
      rintro e w9 ⟨rfl, b9⟩
      have B9 : Hid (Below w.heap.size w w9) := below_trans B8.out b9
      go_wp2_with fail
      refine (PS.out _ B9.out).mono ?_
      rintro e w10 ⟨rfl, b10⟩
      have B10 : Hid (Below w.heap.size w w10) := below_trans B9.out b10
      go_wp2_with fail
      go_ret
      exact ⟨rfl, B10.out⟩
    · have ne : (e2 != 0) = true := bne_iff_ne.2 z2
      clear z2 PJ
      go_wp2_with (refine step_store rfl 24 _ _ rfl w3.heap.size 0 24 (bkL zeroL) (bkL dd) rfl rfl NC3.out (by rw [bkL_len, L2.out]; exact Nat.le_refl _) (infoBl L2.out) (bkL_one _) ?_; intro w4 nb4 g4; have B4 : Hid (Below w.heap.size w w4) := below_row BB3.out.1 g4 (by have := BB3.out.2; omega); clear nb4 g4 NC3 NB3 BB3)
      refine (PS.out _ B4.out).mono ?_
      rintro e w10 ⟨rfl, b10⟩
      have B10 : Hid (Below w.heap.size w w10) := below_trans B4.out b10
      go_wp2_with fail
      go_ret
      exact ⟨rfl, B10.out⟩
  · have ne : (e1 != 0) = true := bne_iff_ne.2 z1
    clear z1 PJ
    go_wp2_with (refine step_store rfl 24 _ _ rfl w1.heap.size 0 24 (bkL zeroL) (bkL cc) rfl rfl NC1.out (by rw [bkL_len, L1.out]; exact Nat.le_refl _) (infoBl L1.out) (bkL_one _) ?_; intro w4 nb4 g4; have B4 : Hid (Below w.heap.size w w4) := below_row BB1.out.1 g4 (by have := BB1.out.2; omega); clear nb4 g4 NC1 NB1 BB1)
    refine (PS.out _ B4.out).mono ?_
    rintro e w10 ⟨rfl, b10⟩
    have B10 : Hid (Below w.heap.size w w10) := below_trans B4.out b10
    go_wp2_with fail
    go_ret
    exact ⟨rfl, B10.out⟩
end Go.Proofs.YtkmmpffkmoaceaaDoor
