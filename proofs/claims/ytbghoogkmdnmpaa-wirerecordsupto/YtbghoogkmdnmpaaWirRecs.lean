/-
  Ours: the law WireRecords walked.
-/
import Derived.Test.YtbghoogkmdnmpaaWirPfx
import Derived.Test.YtbghoogkmdnmpaaWirRDeR
import Derived.Test.YtbghoogkmdnmpaaWirREnR
import Derived.Test.YtbghoogkmdnmpaaWirSameR
import Derived.Deep.RegionWith
import Derived.Deep.CutRange
namespace Go.Proofs.Ytbghoogkmdnmpaa
open Go.RowKit

theorem RowV.pre {e : TypeId} {base : Nat} {w : World} {v : Value} {xs ys : List Value} (h : RowV e base w v (xs ++ ys)) (hy : 0 < ys.length) :
    ∃ g cap, v = .slice (some ⟨g, 0, none⟩) (xs.length + ys.length) cap ∧ xs.length + ys.length ≤ cap ∧ ∀ w', Below w.heap.size w w' → Rd w' (.slice (some ⟨g, 0, none⟩) xs.length cap) xs := by
  obtain ⟨ao, cap, e1, h1, h2, h3⟩ := h.rd
  obtain ⟨g, cap', e2, _, _, _⟩ := h.own (by simp; omega)
  rw [e1] at e2
  cases e2
  refine ⟨g, cap, by rw [e1, List.length_append], by rw [List.length_append] at h1; omega, fun w' hb => ⟨_, cap, rfl, by rw [List.length_append] at h1; omega, (fun h => by cases h), fun i hi => ?_⟩⟩
  obtain ⟨g', o', e3, lt, hc⟩ := h3 i (by simp; omega)
  cases e3
  refine ⟨g, 0, rfl, Nat.lt_of_lt_of_le lt hb.size, ?_⟩
  rw [hb.cell (p := ⟨g, 0 + i, none⟩) lt, hc, List.getElem_append_left hi]

/-- Rows of the same bytes, made one behind the other. -/
structure TW (w0 : World) (L : List Nat) (vs : List Value) (w : World) : Prop where
  bel : Below w0.heap.size w0 w
  rows : ∀ v ∈ vs, RowB 5 w0.heap.size w v L
  apart : vs.Pairwise fun a b => ∀ g, b.ownBlock = some g → a.ownBlock ≠ some g
theorem TW.drewN {w0 : World} {L : List Nat} {vs : List Value} {w : World} (h : TW w0 L vs w) (n : Nat) : TW w0 L vs (w.drewN n) := ⟨below_drewN h.bel n, h.rows, h.apart⟩
theorem TW.next {w0 : World} {L : List Nat} {vs : List Value} {w w' : World} {v : Value} (h : TW w0 L vs w) (hr : RowB 5 w.heap.size w' v L) (hb : Below w.heap.size w w') : TW w0 L (vs ++ [v]) w' := by
  refine ⟨below_trans h.bel hb, fun u hu => ?_, ?_⟩
  · rcases List.mem_append.1 hu with h1 | h1
    · exact RowV.later (h.rows u h1) hb
    · simp at h1; subst h1; exact RowV.mono hr h.bel.size
  · rw [List.pairwise_append]
    refine ⟨h.apart, by simp, fun a ha b hb' g h1 h2 => ?_⟩
    simp at hb'; subst hb'
    have := RowV.block_lt (h.rows a ha) h2
    have := RowV.block_ge hr h1
    omega

set_option maxRecDepth 20000 in
set_option maxHeartbeats 8000000 in
theorem wireRecords_any (k : Int) (o : OpV) (ok : o.Ok) (xs : List Int) (hx : I64s xs) (va : Value) (w : World) (hlx : xs.length ≤ 1048576) (hr : RdI w va xs) (bs : List Nat) (v : Value) (hb : Bytes bs) (hl : bs.length ≤ 1048576) (h : RdB w v bs) :
    Calls Try.prog 7 #[recV k o va, v] w fun e w' => e = .returned (.bool true) ∧ Below w.heap.size w w' := by
  obtain ⟨ao, cap, ev, -, -⟩ := h.len
  obtain ⟨L, hL⟩ : ∃ L, bs.length = L := ⟨_, rfl⟩
  rw [List.length_map, hL] at ev
  subst ev
  have HL : Hid (bs.length = L) := hL
  have hl' : L ≤ 1048576 := by omega
  obtain ⟨al, cl, el, _, _⟩ := hr.len
  generalize hnl : (xs.map (Value.int .i64)).length = nl at el
  subst el
  have tl : Hid ((recL k o xs).length ≤ 140737488351232) := by have := recL_len k o ok xs hx (by omega); show _ ≤ _; omega
  have TT : Hid (∀ w, RdI w (.slice al nl cl) xs → Calls Try.prog 10 #[recV k o (.slice al nl cl)] w fun e w' => ∃ vb, e = .returned (recV k o vb) ∧ RowN w.heap.size w' vb xs ∧ Below w.heap.size w w') := fun w h => twinRecord_at k o xs _ w (by omega) h
  have E1 : Hid (∀ vb w X vs w', RdI w vb xs → TW w X vs w' → X = recL k o xs → Calls Try.prog 9 #[recV k o vb] w' fun e w'' => ∃ v, e = .returned v ∧ TW w X (vs ++ [v]) w'') := fun vb w X vs w' hv h hX => by
    subst hX
    refine (encodeRecord_at k o ok xs hx vb w' (Rd.later hv h.bel) (by omega)).mono ?_
    rintro e w2 ⟨v, rfl, r, b⟩
    exact ⟨v, rfl, h.next r b⟩
  have E2 : Hid (∀ vb w X vs w', RdI w vb xs → TW w X vs w' → X = recL k o xs → Calls Try.prog 32 #[recV k o vb] w' fun e w'' => ∃ v, e = .returned v ∧ TW w X (vs ++ [v]) w'') := fun vb w X vs w' hv h hX => by
    subst hX
    refine (rencodeRecord_at k o ok xs hx vb w' (Rd.later hv h.bel) (by omega)).mono ?_
    rintro e w2 ⟨v, rfl, r, b⟩
    exact ⟨v, rfl, h.next r b⟩
  have TD : Hid (∀ w w' p q c, TW w (recL k o xs) [p, q, c] w' → Calls Try.prog 31 #[p, q, c] w' fun e w'' => e = .returned (.bool true) ∧ Below w.heap.size w w'') := fun w w' p q c h => by
    have rp := h.rows p (by simp)
    have ap := h.apart
    simp only [List.pairwise_cons, List.mem_cons, List.not_mem_nil, or_false, forall_eq_or_imp, forall_eq] at ap
    refine (told_at (recL k o xs) w.heap.size p q c w' tl.out rp (RowV.rd (h.rows q (by simp))) (RowV.rd (h.rows c (by simp))) ap.1.1 ap.1.2).mono ?_
    rintro e w2 ⟨rfl, g⟩
    exact ⟨rfl, below_grown h.bel rp (Nat.le_refl _) h.bel.size g⟩
  have SR : Hid (∀ w w' vb vc, RdI w vb xs → RdI w vc xs → Below w.heap.size w w' → Calls Try.prog 15 #[recV k o vb, recV k o vc] w' fun e w'' => e = .returned (.bool true) ∧ Below w.heap.size w w'') := fun w w' vb vc h1 h2 h3 => by
    refine (sameRecord_at k o xs vb vc w' (by omega) (Rd.later h1 h3) (Rd.later h2 h3)).mono ?_
    rintro e w2 ⟨rfl, b⟩
    exact ⟨rfl, below_trans h3 b⟩
  have RV : Hid (∀ w', Below w.heap.size w w' → RdB w' (.slice ao L cap) bs) := fun w' hb => Rd.later h hb
  have RM : Hid (∀ w' v, RdB w' v bs → Calls Try.prog 33 #[v] w' (NewB w' (roomL bs))) := fun w' v h => roomy_at bs v w' (by omega) h
  have DP : Hid (∀ w' v, RdB w' v bs → Calls Try.prog 11 #[v] w' fun e w'' => (∃ va, e = .returned (.tuple #[recV (decR bs).1.1 (decR bs).1.2.1 va, .bool (decR bs).2]) ∧ RowN w'.heap.size w'' va (decR bs).1.2.2) ∧ Below w'.heap.size w' w'') := fun w' v h => decodeRecord_at bs hb (by omega) v w' h
  have DR : Hid (∀ w' v, RdB w' v bs → Calls Try.prog 34 #[v] w' fun e w'' => (∃ va, e = .returned (.tuple #[recV (decR bs).1.1 (decR bs).1.2.1 va, .bool (decR bs).2]) ∧ RowN w'.heap.size w'' va (decR bs).1.2.2) ∧ Below w'.heap.size w' w'') := fun w' v h => rdecodeRecord_at bs hb (by omega) v w' h
  have ST : Hid (∀ w' f v, RdB w' f (roomL bs) → RdB w' v bs → Calls Try.prog 35 #[f, v] w' fun e w'' => e = .returned (.bool true) ∧ Below w'.heap.size w' w'') := fun w' f v h1 h2 => still_at bs f v w' (by omega) h1 h2
  have DL : (decR bs).1.2.2.length ≤ 1000000 * 1048576 := by
    unfold decR
    split
    · split
      · unfold recR recW; split
        · simp
        · split
          · have := tkL_len bs hb (tkU bs (some 0)).2; simp only; omega
          · simp
      · simp
    · simp
  have SD : Hid (∀ w' vb vc, RdI w' vb (decR bs).1.2.2 → RdI w' vc (decR bs).1.2.2 → Calls Try.prog 15 #[recV (decR bs).1.1 (decR bs).1.2.1 vb, recV (decR bs).1.1 (decR bs).1.2.1 vc] w' fun e w'' => e = .returned (.bool true) ∧ Below w'.heap.size w' w'') := fun w' vb vc h1 h2 => sameRecord_at _ _ _ vb vc w' (by
    have : (decR bs).1.2.2.length ≤ bs.length := by
      unfold decR
      split
      · split
        · unfold recR recW; split
          · simp
          · split
            · exact tkL_len bs hb (tkU bs (some 0)).2
            · simp
        · simp
      · simp
    omega) h1 h2
  clear DL
  generalize decR bs = dd at *
  obtain ⟨⟨kd, od, xd⟩, kk⟩ := dd
  obtain ⟨f0, f1, f2, f3, f4, f5, f6⟩ := o
  obtain ⟨g0, g1, g2, g3, g4, g5, g6⟩ := od
  unfold recV at *
  simp only at *
  generalize recL k ⟨f0, f1, f2, f3, f4, f5, f6⟩ xs = TL at *
  have BA := below_alloc w (.cells #[.int .i64 k, .int .i64 f0, .int .i64 f1, .int .i64 f2, .int .i64 f3, .int .i64 f4, .int .i64 f5, .string f6, .slice al nl cl] 26)
  have X0 := Blk.new 26 [.int .i64 k, .int .i64 f0, .int .i64 f1, .int .i64 f2, .int .i64 f3, .int .i64 f4, .int .i64 f5, .string f6, .slice al nl cl] w
  have r0 := Rd.later hr BA
  clear h hr hb hl hL ok tl hx hlx hnl
  go_enter Try.func7, Try.ntmps7
  go_wp2_with fail
  obtain ⟨X, hXe⟩ : ∃ X, w.heap.size = X := ⟨_, rfl⟩
  rw [hXe] at X0 ⊢
  generalize w.alloc (.cells #[.int .i64 k, .int .i64 f0, .int .i64 f1, .int .i64 f2, .int .i64 f3, .int .i64 f4, .int .i64 f5, .string f6, .slice al nl cl] 26) = W0 at *
  refine (TT.out _ r0).mono ?_
  rintro e w1 ⟨vb, rfl, rb, b1⟩
  obtain ⟨ab, cb, eb, _, _⟩ := rb.rd.len
  generalize (List.map (Value.int .i64) xs).length = nb at eb
  subst eb
  have BC := below_alloc w1 (.cells #[.int .i64 k, .int .i64 f0, .int .i64 f1, .int .i64 f2, .int .i64 f3, .int .i64 f4, .int .i64 f5, .string f6, .slice ab nb cb] 26)
  have bC := below_trans b1 BC
  have X1 := X0.below bC
  have Y1 := Blk.new 26 [.int .i64 k, .int .i64 f0, .int .i64 f1, .int .i64 f2, .int .i64 f3, .int .i64 f4, .int .i64 f5, .string f6, .slice ab nb cb] w1
  have rX := Rd.later r0 bC
  have rY := Rd.later rb.rd BC
  have W1b := below_trans BA bC
  obtain ⟨Y, hY⟩ : ∃ Y, w1.heap.size = Y := ⟨_, rfl⟩
  clear BA X0 r0 rb b1 BC bC TT
  go_upto_region 2 with fail
  rw [hY] at Y1
  generalize hW1 : w1.alloc (.cells #[.int .i64 k, .int .i64 f0, .int .i64 f1, .int .i64 f2, .int .i64 f3, .int .i64 f4, .int .i64 f5, .string f6, .slice ab nb cb] 26) = W1 at *
  clear hW1 hY
  have tv : TW W1 TL [] W1 := ⟨Below.refl _ _, fun u hu => (by cases hu), List.Pairwise.nil⟩
  have E1' : Hid (∀ vs w', TW W1 TL vs w' → Calls Try.prog 9 #[.agg #[.int .i64 k, .int .i64 f0, .int .i64 f1, .int .i64 f2, .int .i64 f3, .int .i64 f4, .int .i64 f5, .string f6, .slice ab nb cb]] w' fun e w'' => ∃ v, e = .returned v ∧ TW W1 TL (vs ++ [v]) w'') := fun vs w' h => E1.out _ W1 TL vs w' rY h rfl
  have E2' : Hid (∀ vs w', TW W1 TL vs w' → Calls Try.prog 32 #[.agg #[.int .i64 k, .int .i64 f0, .int .i64 f1, .int .i64 f2, .int .i64 f3, .int .i64 f4, .int .i64 f5, .string f6, .slice al nl cl]] w' fun e w'' => ∃ v, e = .returned v ∧ TW W1 TL (vs ++ [v]) w'') := fun vs w' h => E2.out _ W1 TL vs w' rX h rfl
  have SR' : Hid (∀ w', Below W1.heap.size W1 w' → Calls Try.prog 15 #[.agg #[.int .i64 k, .int .i64 f0, .int .i64 f1, .int .i64 f2, .int .i64 f3, .int .i64 f4, .int .i64 f5, .string f6, .slice ab nb cb], .agg #[.int .i64 k, .int .i64 f0, .int .i64 f1, .int .i64 f2, .int .i64 f3, .int .i64 f4, .int .i64 f5, .string f6, .slice al nl cl]] w' fun e w'' => e = .returned (.bool true) ∧ Below W1.heap.size W1 w'') := fun w' h => SR.out W1 w' _ _ rY rX h
  clear E1 E2 SR rX rY
  have X1' : Hid (Blk _ _ _ _) := X1
  have Y1' : Hid (Blk _ _ _ _) := Y1
  clear X1 Y1
  have cx0 := (X1'.out.below tv.bel).cell 0 _ rfl
  have cx1 := (X1'.out.below tv.bel).cell 1 _ rfl
  have cx2 := (X1'.out.below tv.bel).cell 2 _ rfl
  have cx3 := (X1'.out.below tv.bel).cell 3 _ rfl
  have cx4 := (X1'.out.below tv.bel).cell 4 _ rfl
  have cx5 := (X1'.out.below tv.bel).cell 5 _ rfl
  have cx6 := (X1'.out.below tv.bel).cell 6 _ rfl
  have cx7 := (X1'.out.below tv.bel).cell 7 _ rfl
  have cx8 := (X1'.out.below tv.bel).cell 8 _ rfl
  have cy0 := (Y1'.out.below tv.bel).cell 0 _ rfl
  have cy1 := (Y1'.out.below tv.bel).cell 1 _ rfl
  have cy2 := (Y1'.out.below tv.bel).cell 2 _ rfl
  have cy3 := (Y1'.out.below tv.bel).cell 3 _ rfl
  have cy4 := (Y1'.out.below tv.bel).cell 4 _ rfl
  have cy5 := (Y1'.out.below tv.bel).cell 5 _ rfl
  have cy6 := (Y1'.out.below tv.bel).cell 6 _ rfl
  have cy7 := (Y1'.out.below tv.bel).cell 7 _ rfl
  have cy8 := (Y1'.out.below tv.bel).cell 8 _ rfl
  go_cut [27] from 14 to 27 (fun x wx => x = .bool false ∧ Below W1.heap.size W1 wx)
  case first =>
    go_region_with (first | (go_at_call 9; refine (E1'.out _ _ (by first | exact tv | exact TW.drewN tv _)).mono ?_; rintro e wn ⟨vn, rfl, tn⟩; clear tv cx0 cx1 cx2 cx3 cx4 cx5 cx6 cx7 cx8 cy0 cy1 cy2 cy3 cy4 cy5 cy6 cy7 cy8; have tv := tn; clear tn; have cx0 := (X1'.out.below tv.bel).cell 0 _ rfl; have cx1 := (X1'.out.below tv.bel).cell 1 _ rfl; have cx2 := (X1'.out.below tv.bel).cell 2 _ rfl; have cx3 := (X1'.out.below tv.bel).cell 3 _ rfl; have cx4 := (X1'.out.below tv.bel).cell 4 _ rfl; have cx5 := (X1'.out.below tv.bel).cell 5 _ rfl; have cx6 := (X1'.out.below tv.bel).cell 6 _ rfl; have cx7 := (X1'.out.below tv.bel).cell 7 _ rfl; have cx8 := (X1'.out.below tv.bel).cell 8 _ rfl; have cy0 := (Y1'.out.below tv.bel).cell 0 _ rfl; have cy1 := (Y1'.out.below tv.bel).cell 1 _ rfl; have cy2 := (Y1'.out.below tv.bel).cell 2 _ rfl; have cy3 := (Y1'.out.below tv.bel).cell 3 _ rfl; have cy4 := (Y1'.out.below tv.bel).cell 4 _ rfl; have cy5 := (Y1'.out.below tv.bel).cell 5 _ rfl; have cy6 := (Y1'.out.below tv.bel).cell 6 _ rfl; have cy7 := (Y1'.out.below tv.bel).cell 7 _ rfl; have cy8 := (Y1'.out.below tv.bel).cell 8 _ rfl) | (go_at_call 32; refine (E2'.out _ _ (by first | exact tv | exact TW.drewN tv _)).mono ?_; rintro e wn ⟨vn, rfl, tn⟩; clear tv cx0 cx1 cx2 cx3 cx4 cx5 cx6 cx7 cx8 cy0 cy1 cy2 cy3 cy4 cy5 cy6 cy7 cy8; have tv := tn; clear tn; have cx0 := (X1'.out.below tv.bel).cell 0 _ rfl; have cx1 := (X1'.out.below tv.bel).cell 1 _ rfl; have cx2 := (X1'.out.below tv.bel).cell 2 _ rfl; have cx3 := (X1'.out.below tv.bel).cell 3 _ rfl; have cx4 := (X1'.out.below tv.bel).cell 4 _ rfl; have cx5 := (X1'.out.below tv.bel).cell 5 _ rfl; have cx6 := (X1'.out.below tv.bel).cell 6 _ rfl; have cx7 := (X1'.out.below tv.bel).cell 7 _ rfl; have cx8 := (X1'.out.below tv.bel).cell 8 _ rfl; have cy0 := (Y1'.out.below tv.bel).cell 0 _ rfl; have cy1 := (Y1'.out.below tv.bel).cell 1 _ rfl; have cy2 := (Y1'.out.below tv.bel).cell 2 _ rfl; have cy3 := (Y1'.out.below tv.bel).cell 3 _ rfl; have cy4 := (Y1'.out.below tv.bel).cell 4 _ rfl; have cy5 := (Y1'.out.below tv.bel).cell 5 _ rfl; have cy6 := (Y1'.out.below tv.bel).cell 6 _ rfl; have cy7 := (Y1'.out.below tv.bel).cell 7 _ rfl; have cy8 := (Y1'.out.below tv.bel).cell 8 _ rfl) | (go_at_call 31; refine (TD.out _ _ _ _ _ (by first | exact tv | exact TW.drewN tv _)).mono ?_; rintro e w4 ⟨rfl, B4⟩; clear tv cx0 cx1 cx2 cx3 cx4 cx5 cx6 cx7 cx8 cy0 cy1 cy2 cy3 cy4 cy5 cy6 cy7 cy8; have cx0 := (X1'.out.below B4).cell 0 _ rfl; have cx1 := (X1'.out.below B4).cell 1 _ rfl; have cx2 := (X1'.out.below B4).cell 2 _ rfl; have cx3 := (X1'.out.below B4).cell 3 _ rfl; have cx4 := (X1'.out.below B4).cell 4 _ rfl; have cx5 := (X1'.out.below B4).cell 5 _ rfl; have cx6 := (X1'.out.below B4).cell 6 _ rfl; have cx7 := (X1'.out.below B4).cell 7 _ rfl; have cx8 := (X1'.out.below B4).cell 8 _ rfl; have cy0 := (Y1'.out.below B4).cell 0 _ rfl; have cy1 := (Y1'.out.below B4).cell 1 _ rfl; have cy2 := (Y1'.out.below B4).cell 2 _ rfl; have cy3 := (Y1'.out.below B4).cell 3 _ rfl; have cy4 := (Y1'.out.below B4).cell 4 _ rfl; have cy5 := (Y1'.out.below B4).cell 5 _ rfl; have cy6 := (Y1'.out.below B4).cell 6 _ rfl; have cy7 := (Y1'.out.below B4).cell 7 _ rfl; have cy8 := (Y1'.out.below B4).cell 8 _ rfl) | (go_at_call 15; refine (SR'.out _ (by first | exact B4 | exact below_drewN B4 _)).mono ?_; rintro e w4 ⟨rfl, B4⟩))
    all_goals
      go_wp2_with fail
      go_meet
      exact ⟨rfl, B4⟩
  case rest =>
    obtain ⟨rfl, B4'⟩ := hcut
    have B4 := below_trans W1b B4'
    clear tv cx0 cx1 cx2 cx3 cx4 cx5 cx6 cx7 cx8 cy0 cy1 cy2 cy3 cy4 cy5 cy6 cy7 cy8 E1' E2' TD SR' B4' W1b X1' Y1'
    go_wp2_with fail
    refine (RM.out _ _ (RV.out _ B4)).mono ?_
    rintro e w5 ⟨v5, rfl, r5, b5⟩
    obtain ⟨g, c5, rfl, hc5, R5⟩ := RowV.pre (xs := bs.map bv) (ys := [90, 91, 92, 93].map bv) (by simpa [RowB, roomL] using r5) (by decide)
    rw [List.length_map, HL.out] at hc5 R5 ⊢
    have F5 : Hid (∀ w', Below w5.heap.size w5 w' → RdB w' (.slice (some ⟨g, 0, none⟩) (L + 4) c5) (roomL bs)) := fun w' hb => by
      have := Rd.later (RowV.rd r5) hb
      rw [List.length_map, HL.out] at this
      exact this
    have G5 : Hid (∀ w', Below w5.heap.size w5 w' → RdB w' (.slice (some ⟨g, 0, none⟩) L c5) bs) := R5
    have B5 : Below w.heap.size w w5 := below_trans B4 b5
    have hc5' : L + 4 ≤ c5 := by simpa using hc5
    clear r5 b5 B4 R5 hc5
    have Z5 : Hid (Below w5.heap.size w5 w5) := Below.refl _ _
    go_wp2_with fail
    refine (DP.out _ _ (G5.out _ Z5.out)).mono ?_
    rintro e w6 ⟨⟨v6, rfl, r6⟩, b6⟩
    obtain ⟨a6, c6, e6, _, _⟩ := r6.rd.len
    generalize (List.map (Value.int .i64) xd).length = n6 at e6
    subst e6
    have BA6 := below_alloc w6 (.cells #[.int .i64 kd, .int .i64 g0, .int .i64 g1, .int .i64 g2, .int .i64 g3, .int .i64 g4, .int .i64 g5, .string g6, .slice a6 n6 c6] 26)
    have BP6 := Blk.new 26 [.int .i64 kd, .int .i64 g0, .int .i64 g1, .int .i64 g2, .int .i64 g3, .int .i64 g4, .int .i64 g5, .string g6, .slice a6 n6 c6] w6
    have Q7 := Rd.later r6.rd BA6
    have B7 := below_trans (below_trans B5 b6) BA6
    have b7 := below_trans b6 BA6
    clear B5 b6 BA6 r6
    go_upto_region 7 with fail
    obtain ⟨G, hGe⟩ : ∃ G, w6.heap.size = G := ⟨_, rfl⟩
    rw [hGe] at BP6 ⊢
    have BP7 : Blk G 26 [.int .i64 kd, .int .i64 g0, .int .i64 g1, .int .i64 g2, .int .i64 g3, .int .i64 g4, .int .i64 g5, .string g6, .slice a6 n6 c6] (w6.alloc (.cells #[.int .i64 kd, .int .i64 g0, .int .i64 g1, .int .i64 g2, .int .i64 g3, .int .i64 g4, .int .i64 g5, .string g6, .slice a6 n6 c6] 26)) := BP6
    clear BP6 hGe
    generalize w6.alloc (.cells #[.int .i64 kd, .int .i64 g0, .int .i64 g1, .int .i64 g2, .int .i64 g3, .int .i64 g4, .int .i64 g5, .string g6, .slice a6 n6 c6] 26) = W7 at *
    go_wp2_with fail
    refine (DR.out _ _ (RV.out _ B7)).mono ?_
    rintro e w8 ⟨⟨v8, rfl, r8⟩, b8⟩
    obtain ⟨a8, c8, e8, _, _⟩ := r8.rd.len
    generalize (List.map (Value.int .i64) xd).length = n8 at e8
    subst e8
    have BA8 := below_alloc w8 (.cells #[.int .i64 kd, .int .i64 g0, .int .i64 g1, .int .i64 g2, .int .i64 g3, .int .i64 g4, .int .i64 g5, .string g6, .slice a8 n8 c8] 26)
    have b89 := below_trans b8 BA8
    have BP9 := BP7.below b89
    have BQ9 := Blk.new 26 [.int .i64 kd, .int .i64 g0, .int .i64 g1, .int .i64 g2, .int .i64 g3, .int .i64 g4, .int .i64 g5, .string g6, .slice a8 n8 c8] w8
    have Q9 := Rd.later Q7 b89
    have Q9' := Rd.later r8.rd BA8
    have B9 := below_trans B7 b89
    have b9 := below_trans b7 b89
    clear BP7 b8 BA8 B7 b7 b89 Q7 r8
    go_upto_region 8 with fail
    obtain ⟨H, hHe⟩ : ∃ H, w8.heap.size = H := ⟨_, rfl⟩
    rw [hHe] at BQ9 ⊢
    have BQ : Blk H 26 [.int .i64 kd, .int .i64 g0, .int .i64 g1, .int .i64 g2, .int .i64 g3, .int .i64 g4, .int .i64 g5, .string g6, .slice a8 n8 c8] (w8.alloc (.cells #[.int .i64 kd, .int .i64 g0, .int .i64 g1, .int .i64 g2, .int .i64 g3, .int .i64 g4, .int .i64 g5, .string g6, .slice a8 n8 c8] 26)) := BQ9
    clear BQ9 hHe
    generalize w8.alloc (.cells #[.int .i64 kd, .int .i64 g0, .int .i64 g1, .int .i64 g2, .int .i64 g3, .int .i64 g4, .int .i64 g5, .string g6, .slice a8 n8 c8] 26) = W9 at *
    have cp0 := BP9.cell 0 _ rfl
    have cq0 := BQ.cell 0 _ rfl
    have cp1 := BP9.cell 1 _ rfl
    have cq1 := BQ.cell 1 _ rfl
    have cp2 := BP9.cell 2 _ rfl
    have cq2 := BQ.cell 2 _ rfl
    have cp3 := BP9.cell 3 _ rfl
    have cq3 := BQ.cell 3 _ rfl
    have cp4 := BP9.cell 4 _ rfl
    have cq4 := BQ.cell 4 _ rfl
    have cp5 := BP9.cell 5 _ rfl
    have cq5 := BQ.cell 5 _ rfl
    have cp6 := BP9.cell 6 _ rfl
    have cq6 := BQ.cell 6 _ rfl
    have cp7 := BP9.cell 7 _ rfl
    have cq7 := BQ.cell 7 _ rfl
    have cp8 := BP9.cell 8 _ rfl
    have cq8 := BQ.cell 8 _ rfl
    have e2 : (kk == kk) = true := by simp
    go_wp2_with fail
    refine (SD.out _ _ _ Q9 Q9').mono ?_
    rintro e w10 ⟨rfl, b10⟩
    have B10 := below_trans B9 b10
    have b10' := below_trans b9 b10
    clear BP9 BQ Q9 Q9' B9 b9 b10 SD cp0 cq0 cp1 cq1 cp2 cq2 cp3 cq3 cp4 cq4 cp5 cq5 cp6 cq6 cp7 cq7 cp8 cq8
    go_wp2_with fail
    refine (ST.out _ _ _ (F5.out _ b10') (RV.out _ B10)).mono ?_
    rintro e w11 ⟨rfl, b11⟩
    go_wp2_with fail
    go_ret
    exact ⟨rfl, below_trans B10 b11⟩
end Go.Proofs.Ytbghoogkmdnmpaa
