/-
  Ours: the reference's with.
-/
import Derived.Test.YtfdehlfhnlgcjaaDoorTqRef
import Derived.Test.YtfdehlfhnlgcjaaDoorTqRfM
namespace Go.Proofs.YtfdehlfhnlgcjaaDoor
open Go.RowKit TqM

/-- What is held in the loop of with. -/
structure Wd (k : Ky) (w : World) (vl : Value) (A : List (Ky × Int)) (wr : World) : Prop where
  blk : Blk w.heap.size 24 (kyL k) wr
  bel : Below w.heap.size w wr
  row : RowI (w.heap.size + 1) wr vl A
theorem Wd.later {k : Ky} {w w1 w2 : World} {vl : Value} {A : List (Ky × Int)} (h : Wd k w vl A w1) (b : Below w1.heap.size w1 w2) : Wd k w vl A w2 := ⟨h.blk.below b, below_trans h.bel b, h.row.later b⟩
/-- Laid ready for an append of one. -/
theorem Wd.one {k : Ky} {w w1 : World} {vl : Value} {A : List (Ky × Int)} (h : Wd k w vl A w1) (z : Ky × Int) :
    Wd k w vl A (w1.alloc (.cells (TQ.tmL z).toArray 77)) ∧ RdI (w1.alloc (.cells (TQ.tmL z).toArray 77)) (.slice (some ⟨w1.heap.size, 0, none⟩) 1 1) [z] ∧ w.heap.size + 1 ≤ (w1.alloc (.cells (TQ.tmL z).toArray 77)).heap.size :=
  ⟨h.later (below_alloc _ _), RdI.one w1 z, (h.later (below_alloc _ _)).blk.lt⟩
theorem Wd.push {k : Ky} {w w1 w2 : World} {vl v2 : Value} {A B : List (Ky × Int)} (h : Wd k w vl A w1) (r : RowI (w.heap.size + 1) w2 v2 B) (g : w1.grownBy w2 vl.ownBlock) : Wd k w v2 B w2 :=
  ⟨h.blk.grown g (fun e => by have := h.row.ge e; omega), h.bel.grown g (Nat.le_of_lt h.blk.lt) (fun q e => Nat.le_of_succ_le (h.row.ge e)), r⟩

set_option maxRecDepth 20000 in
set_option maxHeartbeats 4000000 in
theorem rwith_at (G : List (Ky × Int)) (v : Value) (t : Ky × Int) (w : World) (hl : G.length ≤ 1000000000) (h : RdI w v G) :
    Calls Tryd.prog 27 #[v, kyV t.1, .int .i64 t.2] w fun e w' => ∃ v', e = .returned v' ∧ RowI w.heap.size w' v' (ins t G) ∧ Below w.heap.size w w' := by
  have RD : Hid (∀ w', Below w.heap.size w w' → RdI w' v G) := fun w' hb => h.later hb
  obtain ⟨ao, cap, rfl, hcap, -, -⟩ := h
  have SA : Hid (∀ (a b : Ky) (w : World), Calls Tryd.prog 50 #[.agg #[.int .i64 a.d, .int .i64 a.l, .int .i64 a.n], .agg #[.int .i64 b.d, .int .i64 b.l, .int .i64 b.n]] w fun e w' => e = .returned (.bool (decide (TqM.lt a b))) ∧ Below w.heap.size w w') := rbefore_at
  obtain ⟨n, hn⟩ : ∃ n, G.length = n := ⟨_, rfl⟩
  have HN : Hid (G.length = n) := hn
  rw [hn] at hcap hl RD ⊢
  have B0 : Hid (Wd t.1 w (.slice none 0 0) [] (w.alloc (.cells #[.int .i64 t.1.d, .int .i64 t.1.l, .int .i64 t.1.n] 24))) := ⟨Blk.new 24 (kyL t.1) w, below_alloc _ _, RowI.nil _ _⟩
  clear hn
  go_enter Tryd.func27, Tryd.ntmps27
  go_wp2_with fail
  generalize w.alloc (.cells #[.int .i64 t.1.d, .int .i64 t.1.l, .int .i64 t.1.n] 24) = w1 at *
  go_loopw [7, 8, 9] (fun vl vb vi wr => ∃ (i : Nat) (b : Bool) (A : List (Ky × Int)), vi = .int .i64 (i : Int) ∧ vb = .bool b ∧ i ≤ n ∧ Hid (Wd t.1 w vl A wr ∧ WI t G i b A)) (fun _ _ vi _ => n - (intOf vi).toNat)
  case atStart => exact ⟨0, false, [], rfl, rfl, by omega, B0.out, WI.start t G⟩
  case round =>
    obtain ⟨i, b, A, rfl, rfl, hi, D⟩ := hrel
    clear B0
    by_cases hlt : (i : Int) < (n : Int)
    · have hin : i < n := by omega
      obtain ⟨g, o, rfl, y0, y1, y2, y3⟩ := RdI.cells (RD.out wr D.out.1.bel) hin
      have LA : A.length ≤ i + 1 := D.out.2.len
      have LN : A.length + 1 ≤ 1000000000000 := by omega
      have KP : Hid (∀ w', Below wr.heap.size wr w' → w'.cell? ⟨g, o + i * 4, none⟩ = some (.int .i64 (gN G i).1.d) ∧ w'.cell? ⟨g, o + i * 4 + 1, none⟩ = some (.int .i64 (gN G i).1.l) ∧ w'.cell? ⟨g, o + i * 4 + 2, none⟩ = some (.int .i64 (gN G i).1.n) ∧ w'.cell? ⟨g, o + i * 4 + 3, none⟩ = some (.int .i64 (gN G i).2)) := fun w' b => ⟨below_cell b y0, below_cell b y1, below_cell b y2, below_cell b y3⟩
      have RR : Hid (∀ w', Below w.heap.size w w' → w'.cell? ⟨g, o + i * 4, none⟩ = some (.int .i64 (gN G i).1.d) ∧ w'.cell? ⟨g, o + i * 4 + 1, none⟩ = some (.int .i64 (gN G i).1.l) ∧ w'.cell? ⟨g, o + i * 4 + 2, none⟩ = some (.int .i64 (gN G i).1.n) ∧ w'.cell? ⟨g, o + i * 4 + 3, none⟩ = some (.int .i64 (gN G i).2)) := fun w' b => by
        obtain ⟨g', o', e, z⟩ := RdI.cells (RD.out w' b) hin
        cases e
        exact z
      cases b with
      | true =>
        have WN : Hid (WI t G (i + 1) true (A ++ [gN G i])) := D.out.2.on (by rw [HN.out]; exact hin)
        generalize gN G i = z at *
        have D1 : Hid (∀ m, Wd t.1 w u7 A (wr.drewN m) ∧ Below wr.heap.size wr (wr.drewN m)) := fun m => ⟨D.out.1.later (below_drewN (Below.refl _ _) m), below_drewN (Below.refl _ _) m⟩
        clear D y0 y1 y2 y3
        go_upto_region 6 with fail
        go_quiet (fail)
        obtain ⟨x0, x1, x2, x3⟩ := KP.out _ (D1.out nq).2
        have D7 : Hid (Wd t.1 w u7 A (wr.drewN nq)) := (D1.out nq).1
        clear KP D1
        generalize wr.drewN nq = w6 at *
        have RX : Hid (Wd t.1 w u7 A (w6.alloc (.cells (TQ.tmL z).toArray 77)) ∧ RdI (w6.alloc (.cells (TQ.tmL z).toArray 77)) (.slice (some ⟨w6.heap.size, 0, none⟩) 1 1) [z] ∧ w.heap.size + 1 ≤ (w6.alloc (.cells (TQ.tmL z).toArray 77)).heap.size) := D7.out.one z
        clear D7
        go_upto_region 5 with (at_builtin; refine wpList_catI rfl _ _ rfl (w.heap.size + 1) u7 (.slice (some ⟨w6.heap.size, 0, none⟩) 1 1) A [z] rfl RX.out.1.row RX.out.2.2 rfl RX.out.2.1 LN ?_; intro v8 w8 r8 g8)
        have D8 : Hid (Wd t.1 w v8 (A ++ [z]) w8) := RX.out.1.push r8 g8
        clear RX r8 g8 x0 x1 x2 x3
        go_wp2_with fail
        go_roundw
        case rel => exact ⟨i + 1, true, _, by go_num, rfl, by omega, D8.out, WN.out⟩
        case measure => simp [intOf]; omega
      | false =>
        have WN : Hid ((TqM.lt t.1 (gN G i).1 → WI t G (i + 1) true (A ++ [t] ++ [gN G i])) ∧ (¬ TqM.lt t.1 (gN G i).1 → WI t G (i + 1) false (A ++ [gN G i]))) := ⟨fun h => D.out.2.lay (by rw [HN.out]; exact hin) h, fun h => D.out.2.skip (by rw [HN.out]; exact hin) h⟩
        have S0 : Hid (K7r wr g (o + i * 4) w.heap.size 0 (gN G i).1 t.1 wr.drew) := ⟨Below.drew (Below.refl _ _), y0, y1, y2, D.out.1.blk.cell 0 _ rfl, D.out.1.blk.cell 1 _ rfl, D.out.1.blk.cell 2 _ rfl⟩
        have SAi : Hid (∀ w, Calls Tryd.prog 50 #[.agg #[.int .i64 t.1.d, .int .i64 t.1.l, .int .i64 t.1.n], .agg #[.int .i64 (gN G i).1.d, .int .i64 (gN G i).1.l, .int .i64 (gN G i).1.n]] w fun e w' => e = .returned (.bool (decide (TqM.lt t.1 (gN G i).1))) ∧ Below w.heap.size w w') := fun w => SA.out _ _ w
        have DW : Hid (Wd t.1 w u7 A wr) := D.out.1
        generalize gN G i = z at *
        clear D y0 y1 y2 y3 SA
        by_cases hs : TqM.lt t.1 z.1
        · rw [decide_eq_true hs] at SAi
          have W1 : Hid (WI t G (i + 1) true (A ++ [t] ++ [z])) := WN.out.1 hs
          clear hs WN
          go_upto_region 6 with fail
          go_region_held3 (fun w' => K7r wr g (o + i * 4) w.heap.size 0 z.1 t.1 w') (first | assumption | exact S0.out | exact K7r.keep hU (by assumption)) (first
            | (go_at_call 50; refine (SAi.out _).mono ?_; rintro e w6 ⟨rfl, hU⟩))
          have b6 : Below wr.heap.size wr w6 := And.left (show K7r wr g (o + i * 4) w.heap.size 0 z.1 t.1 w6 by assumption)
          have D6 : Hid (Wd t.1 w u7 A w6) := DW.out.later b6
          have RW : Hid (Wd t.1 w u7 A (w6.alloc (.cells (TQ.tmL t).toArray 77)) ∧ RdI (w6.alloc (.cells (TQ.tmL t).toArray 77)) (.slice (some ⟨w6.heap.size, 0, none⟩) 1 1) [t] ∧ w.heap.size + 1 ≤ (w6.alloc (.cells (TQ.tmL t).toArray 77)).heap.size) := D6.out.one t
          have y0 := D6.out.blk.cell 0 _ rfl
          have y1 := D6.out.blk.cell 1 _ rfl
          have y2 := D6.out.blk.cell 2 _ rfl
          clear D6 DW b6 hU S0 SAi KP
          go_upto_region 8 with (at_builtin; refine wpList_catI rfl _ _ rfl (w.heap.size + 1) u7 (.slice (some ⟨w6.heap.size, 0, none⟩) 1 1) A [t] rfl RW.out.1.row RW.out.2.2 rfl RW.out.2.1 LN ?_; intro v7 w7 r7 g7)
          have D7 : Hid (Wd t.1 w v7 (A ++ [t]) w7) := RW.out.1.push r7 g7
          obtain ⟨x0, x1, x2, x3⟩ := RR.out w7 D7.out.bel
          have RX : Hid (Wd t.1 w v7 (A ++ [t]) (w7.alloc (.cells (TQ.tmL z).toArray 77)) ∧ RdI (w7.alloc (.cells (TQ.tmL z).toArray 77)) (.slice (some ⟨w7.heap.size, 0, none⟩) 1 1) [z] ∧ w.heap.size + 1 ≤ (w7.alloc (.cells (TQ.tmL z).toArray 77)).heap.size) := D7.out.one z
          have L2 : (A ++ [t]).length + 1 ≤ 1000000000000 := by simp; omega
          clear RW r7 g7 y0 y1 y2 D7
          go_upto_region 5 with (at_builtin; refine wpList_catI rfl _ _ rfl (w.heap.size + 1) v7 (.slice (some ⟨w7.heap.size, 0, none⟩) 1 1) (A ++ [t]) [z] rfl RX.out.1.row RX.out.2.2 rfl RX.out.2.1 L2 ?_; intro v8 w8 r8 g8)
          have D8 : Hid (Wd t.1 w v8 (A ++ [t] ++ [z]) w8) := RX.out.1.push r8 g8
          clear RX r8 g8 x0 x1 x2 x3
          go_wp2_with fail
          go_roundw
          case rel => exact ⟨i + 1, true, _, by go_num, rfl, by omega, D8.out, W1.out⟩
          case measure => simp [intOf]; omega
        · rw [decide_eq_false hs] at SAi
          have W1 : Hid (WI t G (i + 1) false (A ++ [z])) := WN.out.2 hs
          clear hs WN
          go_upto_region 6 with fail
          go_region_held3 (fun w' => K7r wr g (o + i * 4) w.heap.size 0 z.1 t.1 w') (first | assumption | exact S0.out | exact K7r.keep hU (by assumption)) (first
            | (go_at_call 50; refine (SAi.out _).mono ?_; rintro e w6 ⟨rfl, hU⟩))
          have b6 : Below wr.heap.size wr w6 := And.left (show K7r wr g (o + i * 4) w.heap.size 0 z.1 t.1 w6 by assumption)
          have D7 : Hid (Wd t.1 w u7 A w6) := DW.out.later b6
          obtain ⟨x0, x1, x2, x3⟩ := RR.out w6 D7.out.bel
          have RX : Hid (Wd t.1 w u7 A (w6.alloc (.cells (TQ.tmL z).toArray 77)) ∧ RdI (w6.alloc (.cells (TQ.tmL z).toArray 77)) (.slice (some ⟨w6.heap.size, 0, none⟩) 1 1) [z] ∧ w.heap.size + 1 ≤ (w6.alloc (.cells (TQ.tmL z).toArray 77)).heap.size) := D7.out.one z
          clear D7 DW b6 hU S0 SAi KP
          go_upto_region 5 with (at_builtin; refine wpList_catI rfl _ _ rfl (w.heap.size + 1) u7 (.slice (some ⟨w6.heap.size, 0, none⟩) 1 1) A [z] rfl RX.out.1.row RX.out.2.2 rfl RX.out.2.1 LN ?_; intro v8 w8 r8 g8)
          have D8 : Hid (Wd t.1 w v8 (A ++ [z]) w8) := RX.out.1.push r8 g8
          clear RX r8 g8 x0 x1 x2 x3
          go_wp2_with fail
          go_roundw
          case rel => exact ⟨i + 1, false, _, by go_num, rfl, by omega, D8.out, W1.out⟩
          case measure => simp [intOf]; omega
    · have ei : i = n := by omega
      subst ei
      cases b with
      | true =>
        have F6 : Hid (RowI w.heap.size wr u7 (ins t G) ∧ Below w.heap.size w wr) := by
          rw [← D.out.2.endT HN.out]
          exact ⟨D.out.1.row.mono (by omega), D.out.1.bel⟩
        clear D
        go_wp2_with fail
        go_ret
        exact ⟨_, rfl, F6.out⟩
      | false =>
        have LN : A.length + 1 ≤ 1000000000000 := by have := D.out.2.len; omega
        have EN : Hid (A ++ [t] = ins t G) := D.out.2.endF HN.out
        have RW : Hid (Wd t.1 w u7 A (wr.alloc (.cells (TQ.tmL t).toArray 77)) ∧ RdI (wr.alloc (.cells (TQ.tmL t).toArray 77)) (.slice (some ⟨wr.heap.size, 0, none⟩) 1 1) [t] ∧ w.heap.size + 1 ≤ (wr.alloc (.cells (TQ.tmL t).toArray 77)).heap.size) := D.out.1.one t
        have y0 := D.out.1.blk.cell 0 _ rfl
        have y1 := D.out.1.blk.cell 1 _ rfl
        have y2 := D.out.1.blk.cell 2 _ rfl
        clear D
        go_upto_region 12 with (at_builtin; refine wpList_catI rfl _ _ rfl (w.heap.size + 1) u7 (.slice (some ⟨wr.heap.size, 0, none⟩) 1 1) A [t] rfl RW.out.1.row RW.out.2.2 rfl RW.out.2.1 LN ?_; intro v7 w7 r7 g7)
        have F6 : Hid (RowI w.heap.size w7 v7 (ins t G) ∧ Below w.heap.size w w7) := by
          have := RW.out.1.push r7 g7
          rw [← EN.out]
          exact ⟨this.row.mono (by omega), this.bel⟩
        clear RW r7 g7 y0 y1 y2
        go_wp2_with fail
        go_ret
        exact ⟨_, rfl, F6.out⟩
end Go.Proofs.YtfdehlfhnlgcjaaDoor
