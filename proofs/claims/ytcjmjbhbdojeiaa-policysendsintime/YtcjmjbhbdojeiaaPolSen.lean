/-
  Ours: the walk of PolicySendsInTime (gen_polgro.py).
-/
import Derived.Test.YtcjmjbhbdojeiaaPolMs
import Derived.Test.YtcjmjbhbdojeiaaPolPrg
import Derived.Test.YtcjmjbhbdojeiaaPolGro
import Derived.Deep.CutRange
import Derived.Deep.RegionHeld3
namespace Go.Proofs.Ytcjmjbhbdojeiaa
open Go.RowKit LedM PolM

set_option maxRecDepth 20000 in
set_option maxHeartbeats 2000000 in
theorem sends_any (l hs : List Int) (s : Value) (calm : Int) (w : World) (hl : l.length = 17) (ok : ∀ k, i64 (l.getD k 0)) (hr : Rd w s (bkL hs)) (okh : ∀ k, i64 (hs.getD k 0)) :
    Calls Try.prog 6 #[PV l s, .int .i64 calm] w fun e w' => e = .returned (.bool true) ∧ Below w.heap.size w w' := by
  by_cases hbig : 1000 < hs.length
  · obtain ⟨ao, cp, rfl, -, -, -⟩ := hr
    rw [bkL_len]
    show Calls _ _ #[.agg (polL l (.slice ao hs.length cp)).toArray, _] _ _
    have c17 := (Blk.new 24 (polL l (.slice ao hs.length cp)) w).cell 17 _ (polL_hol hl)
    have BB : Hid (Below w.heap.size w (w.alloc (.cells (polL l (.slice ao hs.length cp)).toArray 24))) := below_alloc _ _
    generalize polL l (.slice ao hs.length cp) = cs at *
    generalize hs.length = N at *
    have hbig' : (1000 : Int) < (N : Int) := by omega
    go_enter Try.func6, Try.ntmps6
    go_wp2_with fail
    go_ret
    exact ⟨rfl, BB.out⟩
  by_cases hneg : calm < 0
  · obtain ⟨ao, cp, rfl, -, -, -⟩ := hr
    rw [bkL_len]
    show Calls _ _ #[.agg (polL l (.slice ao hs.length cp)).toArray, _] _ _
    have c17 := (Blk.new 24 (polL l (.slice ao hs.length cp)) w).cell 17 _ (polL_hol hl)
    have BB : Hid (Below w.heap.size w (w.alloc (.cells (polL l (.slice ao hs.length cp)).toArray 24))) := below_alloc _ _
    generalize polL l (.slice ao hs.length cp) = cs at *
    generalize hs.length = N at *
    have hsm : ¬ (1000 : Int) < (N : Int) := by omega
    go_enter Try.func6, Try.ntmps6
    go_wp2_with fail
    go_ret
    exact ⟨rfl, BB.out⟩
  by_cases hgt : 3000 < calm
  · obtain ⟨ao, cp, rfl, -, -, -⟩ := hr
    rw [bkL_len]
    show Calls _ _ #[.agg (polL l (.slice ao hs.length cp)).toArray, _] _ _
    have c17 := (Blk.new 24 (polL l (.slice ao hs.length cp)) w).cell 17 _ (polL_hol hl)
    have BB : Hid (Below w.heap.size w (w.alloc (.cells (polL l (.slice ao hs.length cp)).toArray 24))) := below_alloc _ _
    generalize polL l (.slice ao hs.length cp) = cs at *
    generalize hs.length = N at *
    have hsm : ¬ (1000 : Int) < (N : Int) := by omega
    go_enter Try.func6, Try.ntmps6
    go_wp2_with fail
    go_ret
    exact ⟨rfl, BB.out⟩
  have hb : hs.length ≤ 1000000 := by omega
  have hsm : ¬ (1000 : Int) < (hs.length : Int) := by omega
  have MD : Hid (∀ w', Below w.heap.size w w' → Calls Try.prog 9 #[PV l s] w' fun e w'' => ∃ v, e = .returned (PV (madeL l) v) ∧ Rd w'' v (bkL (risL 0 64 hs)) ∧ Below w'.heap.size w' w'') := fun w' h => made_any l hs s w' hl ok (hr.later h) hb okh
  have LN : Hid ((madeL l).length = 17) := made_len l
  have GD : Hid (good (madeL l) (risL 0 64 hs) = true) := made_good l hs
  have HB : Hid ((risL 0 64 hs).length ≤ 1000000) := Nat.le_trans (risL_len hs 0 64) (by decide)
  have NU := nums GD.out
  have NS : Hid (Nums (madeL l)) := NU
  clear NU
  have SZ : Hid (∀ t : Value, (Try.prog.info? 24).map (·.size) = some (polL (madeL l) t).length) := fun t => by rw [polL_len LN.out]; exact sizeP
  have SZ0 : Hid (∀ t : Value, (Try.prog.info? 24).map (·.size) = some (polL l t).length) := fun t => by rw [polL_len hl]; exact sizeP
  have FT : Hid (∀ t : Value, 0 + (polL (madeL l) t).length ≤ polZ.length) := fun t => by rw [polL_len LN.out]; exact Nat.le_refl 18
  obtain ⟨ao, cp, rfl, -, -, -⟩ := hr
  rw [bkL_len] at MD ⊢
  show Calls _ _ #[.agg (polL l (.slice ao hs.length cp)).toArray, _] _ _
  have PB := Blk.new 24 (polL l (.slice ao hs.length cp)) w
  have c17 := PB.cell 17 _ (polL_hol hl)
  have BP : Hid (Blk w.heap.size 24 (polL l (.slice ao hs.length cp)) (w.alloc (.cells (polL l (.slice ao hs.length cp)).toArray 24))) := PB
  have BB : Hid (Below w.heap.size w (w.alloc (.cells (polL l (.slice ao hs.length cp)).toArray 24))) := below_alloc _ _
  have BO : Hid (∀ (q : Value) (w' : World) (a : Int), i64 a → Rd w' q (bkL (risL 0 64 hs)) → Calls Try.prog 13 #[PV (madeL l) q, .int .i64 a] w' fun e w'' => e = .returned (.int .i64 (bkV ((madeL l).getD 14 0) ((madeL l).getD 15 0) a)) ∧ Below w'.heap.size w' w'') := fun q w' a ha h => by
    have := backoff_at (madeL l) (risL 0 64 hs) q w' LN.out h HB.out a ha
    rwa [GD.out, if_pos rfl] at this
  have WI : Hid (∀ (q : Value) (w' : World), Rd w' q (bkL (risL 0 64 hs)) → Calls Try.prog 18 #[PV (madeL l) q] w' fun e w'' => e = .returned (.int .i64 ((madeL l).getD 15 0 + 2)) ∧ Below w'.heap.size w' w'') := fun q w' h => by
    have := window_at (madeL l) (risL 0 64 hs) q w' LN.out h HB.out
    rwa [GD.out, if_pos rfl] at this
  clear PB hl hbig ok okh
  generalize madeL l = ml at *
  generalize risL 0 64 hs = R at *
  go_enter Try.func6, Try.ntmps6
  go_wp2_with (first
  | (refine step_load rfl 24 _ rfl w.heap.size 0 rfl (polL l (.slice ao hs.length cp)) _ (Blk.all BP.out) Try.underlying24 rfl (SZ0.out _) ?_))
  refine (MD.out _ BB.out).mono ?_
  rintro e w1 ⟨v, rfl, rv, b1⟩
  have B1 : Hid (Below w.heap.size w w1) := below_trans BB.out b1
  have R1 : Hid (Rd w1 v (bkL R)) := rv
  have NZ : Hid (Blk w1.heap.size 24 polZ (w1.alloc (.cells #[.int .i64 0, .int .i64 0, .int .i64 0, .int .i64 0, .int .i64 0, .int .i64 0, .int .i64 0, .int .i64 0, .int .i64 0, .int .i64 0, .int .i64 0, .int .i64 0, .int .i64 0, .int .i64 0, .int .i64 0, .int .i64 0, .int .i64 0, .slice none 0 0] 24))) := Blk.new _ _ _
  have OV : Hid (∀ u ∈ polL ml v, u.oneCell' = true) := by
    obtain ⟨a1, c1, rfl, -, -, -⟩ := rv
    exact polL_one
  clear rv b1 c17 MD BP BB SZ0
  obtain ⟨G, hG⟩ : ∃ G, w1.heap.size = G := ⟨_, rfl⟩
  have HG : Hid (w1.heap.size = G) := hG
  clear hG
  go_upto_region 4 with (first
  | ((with_reducible refine at_store ?_); refine step_store rfl 24 _ _ rfl w1.heap.size 0 24 polZ (polL ml v) rfl rfl NZ.out (FT.out _) (SZ.out _) OV.out ?_; intro w2 nb2 g2))
  have S2 : Hid (MS w ml R v w1.heap.size w2) := MS.start LN.out B1.out R1.out nb2 g2
  rw [HG.out] at S2
  try rw [HG.out]
  clear nb2 g2 NZ R1 B1 OV FT
  have hu := Try.underlying24
  have hi := SZ.out v
  have LNl := LN.out
  obtain ⟨n1, n2⟩ := NS.out.base
  obtain ⟨n3, n4⟩ := NS.out.cap
  have BX : Hid (∀ a : Int, 1 ≤ a → ml.getD 14 0 ≤ bkV (ml.getD 14 0) (ml.getD 15 0) a ∧ bkV (ml.getD 14 0) (ml.getD 15 0) a ≤ ml.getD 15 0) := fun a h => (bkV_next h n1 n3 n4).1
  generalize ml.getD 14 0 = b at *
  generalize ml.getD 15 0 = c at *
  go_wp2_with fail
  go_loopw [6, 7, 8] (fun va vk _ wr => ∃ (m : Nat) (x : Int), vk = .int .i64 ((m : Int) + 1) ∧ m ≤ 3001 ∧ va = .int .i64 x ∧ (m : Int) ≤ x ∧ x ≤ calm + c ∧ Hid (MS w ml R v G wr)) (fun _ vk _ _ => 3002 - (intOf vk).toNat)
  case atStart => exact ⟨0, 0, rfl, by omega, rfl, by omega, by omega, S2.out⟩
  case round =>
    obtain ⟨m, x, rfl, hm, rfl, hx1, hx2, S3⟩ := hrel
    by_cases h1 : (m : Int) + 1 ≤ 3001
    · by_cases h2 : x < calm
      · have BA : Hid (Calls Try.prog 13 #[PV ml v, .int .i64 ((m : Int) + 1)] wr fun e w'' => e = .returned (.int .i64 (bkV b c ((m : Int) + 1))) ∧ Below wr.heap.size wr w'') := BO.out v wr _ ⟨by omega, by omega⟩ S3.out.r
        obtain ⟨y1, y2⟩ := BX.out ((m : Int) + 1) (by omega)
        generalize bkV b c ((m : Int) + 1) = y at *
        go_wp2_with (first
        | (refine step_load rfl 24 _ rfl G 0 rfl (polL ml v) _ (Blk.all S3.out.q) Try.underlying24 rfl (SZ.out _) ?_)
        | (refine step_loadG rfl 24 _ rfl G 0 rfl (polL ml v) _ (Blk.all S3.out.q) Try.underlying24 rfl (SZ.out _) ?_))
        refine (BA.out).mono ?_
        rintro e w4 ⟨rfl, b4⟩
        have S4 : Hid (MS w ml R v G w4) := S3.out.later b4
        clear b4
        go_wp2_with fail
        go_roundw
        case rel => exact ⟨m + 1, x + y, by go_num, by omega, rfl, by omega, by omega, S4.out⟩
        case measure => simp [intOf]; omega
      · have WA : Hid (Calls Try.prog 18 #[PV ml v] wr fun e w'' => e = .returned (.int .i64 (c + 2)) ∧ Below wr.heap.size wr w'') := WI.out v wr S3.out.r
        go_wp2_with (first
        | (refine step_load rfl 24 _ rfl G 0 rfl (polL ml v) _ (Blk.all S3.out.q) Try.underlying24 rfl (SZ.out _) ?_)
        | (refine step_loadG rfl 24 _ rfl G 0 rfl (polL ml v) _ (Blk.all S3.out.q) Try.underlying24 rfl (SZ.out _) ?_))
        refine (WA.out).mono ?_
        rintro e w4 ⟨rfl, b4⟩
        have S4 : Hid (MS w ml R v G w4) := S3.out.later b4
        clear b4
        go_wp2_with fail
        go_ret
        exact ⟨ret_dec (by omega), S4.out.bb⟩
    · have WA : Hid (Calls Try.prog 18 #[PV ml v] wr fun e w'' => e = .returned (.int .i64 (c + 2)) ∧ Below wr.heap.size wr w'') := WI.out v wr S3.out.r
      have h2 : calm ≤ x := by omega
      go_wp2_with (first
      | (refine step_load rfl 24 _ rfl G 0 rfl (polL ml v) _ (Blk.all S3.out.q) Try.underlying24 rfl (SZ.out _) ?_)
      | (refine step_loadG rfl 24 _ rfl G 0 rfl (polL ml v) _ (Blk.all S3.out.q) Try.underlying24 rfl (SZ.out _) ?_))
      refine (WA.out).mono ?_
      rintro e w4 ⟨rfl, b4⟩
      have S4 : Hid (MS w ml R v G w4) := S3.out.later b4
      clear b4
      go_wp2_with fail
      go_ret
      exact ⟨ret_dec (by omega), S4.out.bb⟩
end Go.Proofs.Ytcjmjbhbdojeiaa
